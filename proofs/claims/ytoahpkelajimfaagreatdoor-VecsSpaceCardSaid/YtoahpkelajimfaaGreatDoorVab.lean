/-
  The law answers true at every input, and leaves its arguments as they were: a part of the proof. CONDITIONS: the package-level tables start as the program's text lays them (the card ties them).
-/
import Derived.Test.YtoahpkelajimfaaGreatDoorVaa
import Derived.Test.YtoahpkelajimfaaGreatDoorTie
import Derived.Test.YtoahpkelajimfaaGreatDoorCards
set_option linter.unusedVariables false
set_option linter.unusedSimpArgs false
namespace Go.Proofs.YtoahpkelajimfaaGreatDoor
open Go.RowKit
attribute [local irreducible] lo hs sm s64 c64 d64 b64 mh ml pd pc qd qc val hiB str cmpI srD lz nb zl zh zs fe rowV tabV gv bsV mxV colV
set_option maxHeartbeats 16000000 in
set_option maxRecDepth 100000 in
theorem vspace_l1 (al am an : Option Addr) (nl cl nm cm nn cn n : Nat) (n1 d1 n2 d2 : Int)  (KT : World → Prop) (hKT : Keeps KT) (HW : ∀ w, KT w → Calls Tryz.prog 12 #[] w fun xe w' => xe = .returned (.bool true) ∧ Below w.heap.size w w') (l_nl : decide ((20 : Int) < ((nl : Nat) : Int)) = true) (k_nl : decide (20 < nl) = true) (w : World) (kKT : KT w) :
  Calls Tryz.prog 5 #[.agg #[.int .i64 n1, .int .u32 d1], .agg #[.int .i64 n2, .int .u32 d2], .slice al nl cl, .slice am nm cm, .slice an nn cn] w fun e w' => e = .returned (.bool true) ∧ Below w.heap.size w w' := by
 replace hKT := Lib.hid hKT
 replace HW := Lib.hid HW
 have hL0 : GL w w [] := GL.start w
 have hT : PTs w [] := PTs.nil w
 replace hT := ((hT.new (.cells #[.int .i64 n1, .int .u32 d1] 24)).new (.cells #[.int .i64 n2, .int .u32 d2] 24))
 replace hL0 := ((hL0.new rfl [.int .i64 n1, .int .u32 d1] 24).new (K := w.heap.size + 1) (szA _ _) [.int .i64 n2, .int .u32 d2] 24)
 generalize hweq : ((w.alloc (.cells #[.int .i64 n1, .int .u32 d1] 24)).alloc (.cells #[.int .i64 n2, .int .u32 d2] 24)) = x1 at hL0 hT
 go_enter Tryz.func5, Tryz.ntmps5
 go_wp2_with fail
 with_reducible refine Calls.mono (HW.out _ (hKT.out.at hL0.bl kKT)) ?_
 rintro e x2 ⟨rfl, hb⟩
 replace hL0 := hL0.call hb
 replace hT := hT.call hb
 clear hb hweq
 go_wp2_with fail
 exact bodyPost_ret (v := .bool true) (by simp [results, Tryz.results5, go_sem]) rfl ⟨rfl, hL0.bl⟩
set_option maxHeartbeats 16000000 in
set_option maxRecDepth 100000 in
theorem vspace_l2 (al am an : Option Addr) (nl cl nm cm nn cn n : Nat) (n1 d1 n2 d2 : Int)  (KT : World → Prop) (hKT : Keeps KT) (HW : ∀ w, KT w → Calls Tryz.prog 12 #[] w fun xe w' => xe = .returned (.bool true) ∧ Below w.heap.size w w') (l_nl : decide ((20 : Int) < ((nl : Nat) : Int)) = false) (k_nl : decide (20 < nl) = false) (l_nm : decide ((20 : Int) < ((nm : Nat) : Int)) = true) (k_nm : decide (20 < nm) = true) (w : World) (kKT : KT w) :
  Calls Tryz.prog 5 #[.agg #[.int .i64 n1, .int .u32 d1], .agg #[.int .i64 n2, .int .u32 d2], .slice al nl cl, .slice am nm cm, .slice an nn cn] w fun e w' => e = .returned (.bool true) ∧ Below w.heap.size w w' := by
 replace hKT := Lib.hid hKT
 replace HW := Lib.hid HW
 have hL0 : GL w w [] := GL.start w
 have hT : PTs w [] := PTs.nil w
 replace hT := ((hT.new (.cells #[.int .i64 n1, .int .u32 d1] 24)).new (.cells #[.int .i64 n2, .int .u32 d2] 24))
 replace hL0 := ((hL0.new rfl [.int .i64 n1, .int .u32 d1] 24).new (K := w.heap.size + 1) (szA _ _) [.int .i64 n2, .int .u32 d2] 24)
 generalize hweq : ((w.alloc (.cells #[.int .i64 n1, .int .u32 d1] 24)).alloc (.cells #[.int .i64 n2, .int .u32 d2] 24)) = x1 at hL0 hT
 go_enter Tryz.func5, Tryz.ntmps5
 go_wp2_with fail
 with_reducible refine Calls.mono (HW.out _ (hKT.out.at hL0.bl kKT)) ?_
 rintro e x2 ⟨rfl, hb⟩
 replace hL0 := hL0.call hb
 replace hT := hT.call hb
 clear hb hweq
 go_wp2_with fail
 exact bodyPost_ret (v := .bool true) (by simp [results, Tryz.results5, go_sem]) rfl ⟨rfl, hL0.bl⟩
set_option maxHeartbeats 16000000 in
set_option maxRecDepth 100000 in
theorem vspace_l3 (al am an : Option Addr) (nl cl nm cm nn cn n : Nat) (n1 d1 n2 d2 : Int)  (KT : World → Prop) (hKT : Keeps KT) (HW : ∀ w, KT w → Calls Tryz.prog 12 #[] w fun xe w' => xe = .returned (.bool true) ∧ Below w.heap.size w w') (l_nl : decide ((20 : Int) < ((nl : Nat) : Int)) = false) (k_nl : decide (20 < nl) = false) (l_nm : decide ((20 : Int) < ((nm : Nat) : Int)) = false) (k_nm : decide (20 < nm) = false) (l_nn : decide ((20 : Int) < ((nn : Nat) : Int)) = true) (k_nn : decide (20 < nn) = true) (w : World) (kKT : KT w) :
  Calls Tryz.prog 5 #[.agg #[.int .i64 n1, .int .u32 d1], .agg #[.int .i64 n2, .int .u32 d2], .slice al nl cl, .slice am nm cm, .slice an nn cn] w fun e w' => e = .returned (.bool true) ∧ Below w.heap.size w w' := by
 replace hKT := Lib.hid hKT
 replace HW := Lib.hid HW
 have hL0 : GL w w [] := GL.start w
 have hT : PTs w [] := PTs.nil w
 replace hT := ((hT.new (.cells #[.int .i64 n1, .int .u32 d1] 24)).new (.cells #[.int .i64 n2, .int .u32 d2] 24))
 replace hL0 := ((hL0.new rfl [.int .i64 n1, .int .u32 d1] 24).new (K := w.heap.size + 1) (szA _ _) [.int .i64 n2, .int .u32 d2] 24)
 generalize hweq : ((w.alloc (.cells #[.int .i64 n1, .int .u32 d1] 24)).alloc (.cells #[.int .i64 n2, .int .u32 d2] 24)) = x1 at hL0 hT
 go_enter Tryz.func5, Tryz.ntmps5
 go_wp2_with fail
 with_reducible refine Calls.mono (HW.out _ (hKT.out.at hL0.bl kKT)) ?_
 rintro e x2 ⟨rfl, hb⟩
 replace hL0 := hL0.call hb
 replace hT := hT.call hb
 clear hb hweq
 go_wp2_with fail
 exact bodyPost_ret (v := .bool true) (by simp [results, Tryz.results5, go_sem]) rfl ⟨rfl, hL0.bl⟩
set_option maxHeartbeats 16000000 in
set_option maxRecDepth 100000 in
theorem vspace_w (al am an : Option Addr) (nl cl nm cm nn cn n : Nat) (n1 d1 n2 d2 : Int) (x y z les nul sxy sA syz ny t1 px qx t3 py t5 : List Rat) (p q m1 pq mq e1 e2 e3 e4 e5 : Rat) (KL : World → Prop) (hKL : Keeps KL) (HVa : ∀ (w : World), KL w → Calls Tryz.prog 14 #[.slice al n cl] w fun e w' => ∃ pv, e = .returned pv ∧ PT w' pv x ∧ Below w.heap.size w w') (KM : World → Prop) (hKM : Keeps KM) (HVb : ∀ (w : World), KM w → Calls Tryz.prog 14 #[.slice am n cm] w fun e w' => ∃ pv, e = .returned pv ∧ PT w' pv y ∧ Below w.heap.size w w') (KN : World → Prop) (hKN : Keeps KN) (HVc : ∀ (w : World), KN w → Calls Tryz.prog 14 #[.slice an n cn] w fun e w' => ∃ pv, e = .returned pv ∧ PT w' pv z ∧ Below w.heap.size w w') (HQ1 : ∀ w, Calls Tryz.prog 15 #[.agg #[.int .i64 n1, .int .u32 d1]] w fun xe w' => xe = .returned (fracV p) ∧ Below w.heap.size w w') (HQ2 : ∀ w, Calls Tryz.prog 15 #[.agg #[.int .i64 n2, .int .u32 d2]] w fun xe w' => xe = .returned (fracV q) ∧ Below w.heap.size w w') (HSu : ∀ (p0 p1 : Value) (w : World), PT w p0 x → PT w p1 y → Calls Tryz.prog 19 #[p0, p1] w fun e w' => ∃ pv, e = .returned (.tuple #[pv, .int .i64 0]) ∧ PT w' pv les ∧ Below w.heap.size w w') (HZ : ∀ (w : World), Calls Tryz.prog 40 #[.int .i64 (n : Int)] w fun e w' => ∃ pv, e = .returned (.tuple #[pv, .int .i64 0]) ∧ PT w' pv nul ∧ Below w.heap.size w w') (A1 : ∀ (p0 p1 : Value) (w : World), PT w p0 x → PT w p1 y → Calls Tryz.prog 41 #[p0, p1] w fun e w' => ∃ pv, e = .returned pv ∧ PT w' pv sxy ∧ Below w.heap.size w w') (A2 : ∀ (p0 p1 : Value) (w : World), PT w p0 y → PT w p1 x → Calls Tryz.prog 41 #[p0, p1] w fun e w' => ∃ pv, e = .returned pv ∧ PT w' pv sxy ∧ Below w.heap.size w w') (S1 : ∀ (p0 p1 : Value) (w : World), PT w p0 sxy → PT w p1 sxy → Calls Tryz.prog 32 #[p0, p1] w fun e w' => e = .returned (.bool true) ∧ Below w.heap.size w w') (A3 : ∀ (p0 p1 : Value) (w : World), PT w p0 sxy → PT w p1 z → Calls Tryz.prog 41 #[p0, p1] w fun e w' => ∃ pv, e = .returned pv ∧ PT w' pv sA ∧ Below w.heap.size w w') (A4 : ∀ (p0 p1 : Value) (w : World), PT w p0 y → PT w p1 z → Calls Tryz.prog 41 #[p0, p1] w fun e w' => ∃ pv, e = .returned pv ∧ PT w' pv syz ∧ Below w.heap.size w w') (A5 : ∀ (p0 p1 : Value) (w : World), PT w p0 x → PT w p1 syz → Calls Tryz.prog 41 #[p0, p1] w fun e w' => ∃ pv, e = .returned pv ∧ PT w' pv sA ∧ Below w.heap.size w w') (S2 : ∀ (p0 p1 : Value) (w : World), PT w p0 sA → PT w p1 sA → Calls Tryz.prog 32 #[p0, p1] w fun e w' => e = .returned (.bool true) ∧ Below w.heap.size w w') (HI : ∀ w, Calls Tryz.prog 34 #[.int .i64 (-1)] w fun xe w' => xe = .returned (fracV m1) ∧ Below w.heap.size w w') (T1 : ∀ (p1 : Value) (w : World), PT w p1 y → Calls Tryz.prog 42 #[fracV m1, p1] w fun e w' => ∃ pv, e = .returned pv ∧ PT w' pv ny ∧ Below w.heap.size w w') (A6 : ∀ (p0 p1 : Value) (w : World), PT w p0 x → PT w p1 ny → Calls Tryz.prog 41 #[p0, p1] w fun e w' => ∃ pv, e = .returned pv ∧ PT w' pv les ∧ Below w.heap.size w w') (S3 : ∀ (p0 p1 : Value) (w : World), PT w p0 les → PT w p1 les → Calls Tryz.prog 32 #[p0, p1] w fun e w' => e = .returned (.bool true) ∧ Below w.heap.size w w') (T2 : ∀ (p1 : Value) (w : World), PT w p1 x → Calls Tryz.prog 42 #[.agg #[.int .u64 0, .string ⟨#[]⟩, .bool false, .int .u64 0, .string ⟨#[]⟩], p1] w fun e w' => ∃ pv, e = .returned pv ∧ PT w' pv nul ∧ Below w.heap.size w w') (S4 : ∀ (p0 p1 : Value) (w : World), PT w p0 nul → PT w p1 nul → Calls Tryz.prog 32 #[p0, p1] w fun e w' => e = .returned (.bool true) ∧ Below w.heap.size w w') (A7 : ∀ (p0 p1 : Value) (w : World), PT w p0 x → PT w p1 nul → Calls Tryz.prog 41 #[p0, p1] w fun e w' => ∃ pv, e = .returned pv ∧ PT w' pv x ∧ Below w.heap.size w w') (S5 : ∀ (p0 p1 : Value) (w : World), PT w p0 x → PT w p1 x → Calls Tryz.prog 32 #[p0, p1] w fun e w' => e = .returned (.bool true) ∧ Below w.heap.size w w') (F1 : ∀ w, Calls Tryz.prog 35 #[fracV p, fracV q] w fun xe w' => xe = .returned (fracV pq) ∧ Below w.heap.size w w') (T3 : ∀ (p1 : Value) (w : World), PT w p1 x → Calls Tryz.prog 42 #[fracV pq, p1] w fun e w' => ∃ pv, e = .returned pv ∧ PT w' pv t1 ∧ Below w.heap.size w w') (T4 : ∀ (p1 : Value) (w : World), PT w p1 x → Calls Tryz.prog 42 #[fracV p, p1] w fun e w' => ∃ pv, e = .returned pv ∧ PT w' pv px ∧ Below w.heap.size w w') (T5 : ∀ (p1 : Value) (w : World), PT w p1 x → Calls Tryz.prog 42 #[fracV q, p1] w fun e w' => ∃ pv, e = .returned pv ∧ PT w' pv qx ∧ Below w.heap.size w w') (A8 : ∀ (p0 p1 : Value) (w : World), PT w p0 px → PT w p1 qx → Calls Tryz.prog 41 #[p0, p1] w fun e w' => ∃ pv, e = .returned pv ∧ PT w' pv t1 ∧ Below w.heap.size w w') (S6 : ∀ (p0 p1 : Value) (w : World), PT w p0 t1 → PT w p1 t1 → Calls Tryz.prog 32 #[p0, p1] w fun e w' => e = .returned (.bool true) ∧ Below w.heap.size w w') (T6 : ∀ (p1 : Value) (w : World), PT w p1 sxy → Calls Tryz.prog 42 #[fracV p, p1] w fun e w' => ∃ pv, e = .returned pv ∧ PT w' pv t3 ∧ Below w.heap.size w w') (T7 : ∀ (p1 : Value) (w : World), PT w p1 y → Calls Tryz.prog 42 #[fracV p, p1] w fun e w' => ∃ pv, e = .returned pv ∧ PT w' pv py ∧ Below w.heap.size w w') (A9 : ∀ (p0 p1 : Value) (w : World), PT w p0 px → PT w p1 py → Calls Tryz.prog 41 #[p0, p1] w fun e w' => ∃ pv, e = .returned pv ∧ PT w' pv t3 ∧ Below w.heap.size w w') (S7 : ∀ (p0 p1 : Value) (w : World), PT w p0 t3 → PT w p1 t3 → Calls Tryz.prog 32 #[p0, p1] w fun e w' => e = .returned (.bool true) ∧ Below w.heap.size w w') (F2 : ∀ w, Calls Tryz.prog 36 #[fracV p, fracV q] w fun xe w' => xe = .returned (fracV mq) ∧ Below w.heap.size w w') (T8 : ∀ (p1 : Value) (w : World), PT w p1 x → Calls Tryz.prog 42 #[fracV mq, p1] w fun e w' => ∃ pv, e = .returned pv ∧ PT w' pv t5 ∧ Below w.heap.size w w') (T9 : ∀ (p1 : Value) (w : World), PT w p1 qx → Calls Tryz.prog 42 #[fracV p, p1] w fun e w' => ∃ pv, e = .returned pv ∧ PT w' pv t5 ∧ Below w.heap.size w w') (S8 : ∀ (p0 p1 : Value) (w : World), PT w p0 t5 → PT w p1 t5 → Calls Tryz.prog 32 #[p0, p1] w fun e w' => e = .returned (.bool true) ∧ Below w.heap.size w w') (D1 : ∀ (p0 p1 : Value) (w : World), PT w p0 x → PT w p1 y → Calls Tryz.prog 43 #[p0, p1] w fun e w' => e = .returned (fracV e1) ∧ Below w.heap.size w w') (D2 : ∀ (p0 p1 : Value) (w : World), PT w p0 y → PT w p1 x → Calls Tryz.prog 43 #[p0, p1] w fun e w' => e = .returned (fracV e1) ∧ Below w.heap.size w w') (D3 : ∀ (p0 p1 : Value) (w : World), PT w p0 sxy → PT w p1 z → Calls Tryz.prog 43 #[p0, p1] w fun e w' => e = .returned (fracV e2) ∧ Below w.heap.size w w') (D4 : ∀ (p0 p1 : Value) (w : World), PT w p0 x → PT w p1 z → Calls Tryz.prog 43 #[p0, p1] w fun e w' => e = .returned (fracV e3) ∧ Below w.heap.size w w') (D5 : ∀ (p0 p1 : Value) (w : World), PT w p0 y → PT w p1 z → Calls Tryz.prog 43 #[p0, p1] w fun e w' => e = .returned (fracV e4) ∧ Below w.heap.size w w') (F3 : ∀ w, Calls Tryz.prog 35 #[fracV e3, fracV e4] w fun xe w' => xe = .returned (fracV e2) ∧ Below w.heap.size w w') (D6 : ∀ (p0 p1 : Value) (w : World), PT w p0 px → PT w p1 z → Calls Tryz.prog 43 #[p0, p1] w fun e w' => e = .returned (fracV e5) ∧ Below w.heap.size w w') (F4 : ∀ w, Calls Tryz.prog 36 #[fracV p, fracV e3] w fun xe w' => xe = .returned (fracV e5) ∧ Below w.heap.size w w') (KT : World → Prop) (hKT : Keeps KT) (HW : ∀ w, KT w → Calls Tryz.prog 12 #[] w fun xe w' => xe = .returned (.bool true) ∧ Below w.heap.size w w') (l_nl : decide ((20 : Int) < ((nl : Nat) : Int)) = false) (k_nl : decide (20 < nl) = false) (l_nm : decide ((20 : Int) < ((nm : Nat) : Int)) = false) (k_nm : decide (20 < nm) = false) (l_nn : decide ((20 : Int) < ((nn : Nat) : Int)) = false) (k_nn : decide (20 < nn) = false) (hmn : (if ((nn : Nat) : Int) < (if nm < nl then ((nm : Nat) : Int) else ((nl : Nat) : Int)) then ((nn : Nat) : Int) else (if nm < nl then ((nm : Nat) : Int) else ((nl : Nat) : Int))) = ((n : Nat) : Int)) (hs0 : ∀ W, (Instr.slice 25 (.slice al nl cl) none (some (.int .i64 (n : Int))) none).run Tryz.prog W = .ok (.slice al n cl) W) (hs1 : ∀ W, (Instr.slice 25 (.slice am nm cm) none (some (.int .i64 (n : Int))) none).run Tryz.prog W = .ok (.slice am n cm) W) (hs2 : ∀ W, (Instr.slice 25 (.slice an nn cn) none (some (.int .i64 (n : Int))) none).run Tryz.prog W = .ok (.slice an n cn) W) (w : World) (kKL : KL w) (kKM : KM w) (kKN : KN w) (kKT : KT w) :
  Calls Tryz.prog 5 #[.agg #[.int .i64 n1, .int .u32 d1], .agg #[.int .i64 n2, .int .u32 d2], .slice al nl cl, .slice am nm cm, .slice an nn cn] w fun e w' => e = .returned (.bool true) ∧ Below w.heap.size w w' := by
 replace hKL := Lib.hid hKL
 replace HVa := Lib.hid HVa
 replace hKM := Lib.hid hKM
 replace HVb := Lib.hid HVb
 replace hKN := Lib.hid hKN
 replace HVc := Lib.hid HVc
 replace HQ1 := Lib.hid HQ1
 replace HQ2 := Lib.hid HQ2
 replace HSu := Lib.hid HSu
 replace HZ := Lib.hid HZ
 replace A1 := Lib.hid A1
 replace A2 := Lib.hid A2
 replace S1 := Lib.hid S1
 replace A3 := Lib.hid A3
 replace A4 := Lib.hid A4
 replace A5 := Lib.hid A5
 replace S2 := Lib.hid S2
 replace HI := Lib.hid HI
 replace T1 := Lib.hid T1
 replace A6 := Lib.hid A6
 replace S3 := Lib.hid S3
 replace T2 := Lib.hid T2
 replace S4 := Lib.hid S4
 replace A7 := Lib.hid A7
 replace S5 := Lib.hid S5
 replace F1 := Lib.hid F1
 replace T3 := Lib.hid T3
 replace T4 := Lib.hid T4
 replace T5 := Lib.hid T5
 replace A8 := Lib.hid A8
 replace S6 := Lib.hid S6
 replace T6 := Lib.hid T6
 replace T7 := Lib.hid T7
 replace A9 := Lib.hid A9
 replace S7 := Lib.hid S7
 replace F2 := Lib.hid F2
 replace T8 := Lib.hid T8
 replace T9 := Lib.hid T9
 replace S8 := Lib.hid S8
 replace D1 := Lib.hid D1
 replace D2 := Lib.hid D2
 replace D3 := Lib.hid D3
 replace D4 := Lib.hid D4
 replace D5 := Lib.hid D5
 replace F3 := Lib.hid F3
 replace D6 := Lib.hid D6
 replace F4 := Lib.hid F4
 replace hKT := Lib.hid hKT
 replace HW := Lib.hid HW
 have hL0 : GL w w [] := GL.start w
 have hT : PTs w [] := PTs.nil w
 replace hT := ((hT.new (.cells #[.int .i64 n1, .int .u32 d1] 24)).new (.cells #[.int .i64 n2, .int .u32 d2] 24))
 replace hL0 := ((hL0.new rfl [.int .i64 n1, .int .u32 d1] 24).new (K := w.heap.size + 1) (szA _ _) [.int .i64 n2, .int .u32 d2] 24)
 generalize hweq : ((w.alloc (.cells #[.int .i64 n1, .int .u32 d1] 24)).alloc (.cells #[.int .i64 n2, .int .u32 d2] 24)) = x1 at hL0 hT
 go_enter Tryz.func5, Tryz.ntmps5
 go_upto_region 4 with fail
 clear hweq
 refine region_tl 15 [EV (.slice al nl cl), EV (.int .i64 (n : Int)), EV (.slice al n cl), PP x, EV (.slice am nm cm), EV (.int .i64 (n : Int)), EV (.slice am n cm), PP y, EV (.slice an nn cn), EV (.int .i64 (n : Int)), EV (.slice an n cn), PP z, PP x, PP y, PP z] (by kernel_rfl) (by kernel_rfl) ?_ ?_ ?_
 ·exact stays_cons (stays_eq _) (stays_cons (stays_eq _) (stays_cons (stays_eq _) (stays_cons (stays_pt _) (stays_cons (stays_eq _) (stays_cons (stays_eq _) (stays_cons (stays_eq _) (stays_cons (stays_pt _) (stays_cons (stays_eq _) (stays_cons (stays_eq _) (stays_cons (stays_eq _) (stays_cons (stays_pt _) (stays_cons (stays_pt _) (stays_cons (stays_pt _) (stays_cons (stays_pt _) (stays_nil)))))))))))))))
 ·simp only [List.take_succ_cons, List.take_zero, hopsR, and_true]
  refine ⟨?_, ?_, ?_, ?_, ?_, ?_, ?_, ?_, ?_, ?_, ?_, ?_, ?_, ?_, ?_⟩ <;> intro fv w1 hb1 hp
  all_goals (simp only [putsV, Act.put, List.setIfInBounds_toArray, List.set_cons_succ, List.set_cons_zero, Nat.zero_add, Nat.reduceAdd])
  ·refine tyAt_none rfl ?_
   simp [tyUpon, execOp, go_sem, Act.eval, hs0, hs1, hs2, Below.refl]
  ·refine tyAt_none rfl ?_
   simp [tyUpon, execOp, go_sem, Act.eval, hs0, hs1, hs2, Below.refl]
  ·have h0 : EV _ (fv 0) w1 := hp 0 (LC (by kernel_rfl))
   have h1 : EV _ (fv 1) w1 := hp 1 (LC (by kernel_rfl))
   refine tyAt_none rfl ?_
   simp [tyUpon, execOp, go_sem, Act.eval, h0, h1, hs0, hs1, hs2, Below.refl]
  ·have h2 : EV _ (fv 2) w1 := hp 2 (LC (by kernel_rfl))
   refine tyAt_none rfl ?_
   refine ty_call (f := 14) (args := #[.slice al n cl]) (by simp [execOp, go_sem, Act.eval, h2]) ?_
   exact (HVa.out w1 (hKL.out.at ((hL0.call (below_drew hb1)).bl) kKL)).mono fun e w2 ⟨pv, h1, h2, h3⟩ => ⟨pv, h1, h2, h3⟩
  ·refine tyAt_none rfl ?_
   simp [tyUpon, execOp, go_sem, Act.eval, hs0, hs1, hs2, Below.refl]
  ·refine tyAt_none rfl ?_
   simp [tyUpon, execOp, go_sem, Act.eval, hs0, hs1, hs2, Below.refl]
  ·have h4 : EV _ (fv 4) w1 := hp 4 (LC (by kernel_rfl))
   have h5 : EV _ (fv 5) w1 := hp 5 (LC (by kernel_rfl))
   refine tyAt_none rfl ?_
   simp [tyUpon, execOp, go_sem, Act.eval, h4, h5, hs0, hs1, hs2, Below.refl]
  ·have h6 : EV _ (fv 6) w1 := hp 6 (LC (by kernel_rfl))
   refine tyAt_none rfl ?_
   refine ty_call (f := 14) (args := #[.slice am n cm]) (by simp [execOp, go_sem, Act.eval, h6]) ?_
   exact (HVb.out w1 (hKM.out.at ((hL0.call (below_drew hb1)).bl) kKM)).mono fun e w2 ⟨pv, h1, h2, h3⟩ => ⟨pv, h1, h2, h3⟩
  ·refine tyAt_none rfl ?_
   simp [tyUpon, execOp, go_sem, Act.eval, hs0, hs1, hs2, Below.refl]
  ·refine tyAt_none rfl ?_
   simp [tyUpon, execOp, go_sem, Act.eval, hs0, hs1, hs2, Below.refl]
  ·have h8 : EV _ (fv 8) w1 := hp 8 (LC (by kernel_rfl))
   have h9 : EV _ (fv 9) w1 := hp 9 (LC (by kernel_rfl))
   refine tyAt_none rfl ?_
   simp [tyUpon, execOp, go_sem, Act.eval, h8, h9, hs0, hs1, hs2, Below.refl]
  ·have h10 : EV _ (fv 10) w1 := hp 10 (LC (by kernel_rfl))
   refine tyAt_none rfl ?_
   refine ty_call (f := 14) (args := #[.slice an n cn]) (by simp [execOp, go_sem, Act.eval, h10]) ?_
   exact (HVc.out w1 (hKN.out.at ((hL0.call (below_drew hb1)).bl) kKN)).mono fun e w2 ⟨pv, h1, h2, h3⟩ => ⟨pv, h1, h2, h3⟩
  ·have h3 : (PP x) (fv 3) w1 := hp 3 (LC (by kernel_rfl))
   refine tyAt_none rfl ?_
   simp [tyUpon, execOp, go_sem, Act.eval, Below.refl]
   exact h3
  ·have h7 : (PP y) (fv 7) w1 := hp 7 (LC (by kernel_rfl))
   refine tyAt_none rfl ?_
   simp [tyUpon, execOp, go_sem, Act.eval, Below.refl]
   exact h7
  ·have h11 : (PP z) (fv 11) w1 := hp 11 (LC (by kernel_rfl))
   refine tyAt_none rfl ?_
   simp [tyUpon, execOp, go_sem, Act.eval, Below.refl]
   exact h11
 ·intro fv x2 hb1 hv
  have e0 : fv 0 = _ := hv 0 (by omega)
  have e1 : fv 1 = _ := hv 1 (by omega)
  have e2 : fv 2 = _ := hv 2 (by omega)
  have q3 : PT x2 (fv 3) x := hv 3 (by omega)
  obtain ⟨g1, d1, g1c, e3, -⟩ := pt_form q3
  rw [e3] at q3
  have e4 : fv 4 = _ := hv 4 (by omega)
  have e5 : fv 5 = _ := hv 5 (by omega)
  have e6 : fv 6 = _ := hv 6 (by omega)
  have q7 : PT x2 (fv 7) y := hv 7 (by omega)
  obtain ⟨g2, d2, g2c, e7, -⟩ := pt_form q7
  rw [e7] at q7
  have e8 : fv 8 = _ := hv 8 (by omega)
  have e9 : fv 9 = _ := hv 9 (by omega)
  have e10 : fv 10 = _ := hv 10 (by omega)
  have q11 : PT x2 (fv 11) z := hv 11 (by omega)
  obtain ⟨g3, d3, g3c, e11, -⟩ := pt_form q11
  rw [e11] at q11
  have q12 : PT x2 (fv 12) x := hv 12 (by omega)
  obtain ⟨g4, d4, g4c, e12, -⟩ := pt_form q12
  rw [e12] at q12
  have q13 : PT x2 (fv 13) y := hv 13 (by omega)
  obtain ⟨g5, d5, g5c, e13, -⟩ := pt_form q13
  rw [e13] at q13
  have q14 : PT x2 (fv 14) z := hv 14 (by omega)
  obtain ⟨g6, d6, g6c, e14, -⟩ := pt_form q14
  rw [e14] at q14
  simp only [List.take_succ_cons, List.take_zero, putsV, Act.put, List.setIfInBounds_toArray, List.set_cons_succ, List.set_cons_zero, List.drop_succ_cons, List.drop_zero, Nat.zero_add, Nat.reduceAdd, e0, e1, e2, e3, e4, e5, e6, e7, e8, e9, e10, e11, e12, e13, e14]
  replace hL0 := hL0.call (below_drew hb1)
  replace hT := hT.call (below_drew hb1)
  replace hT := hT.cons q3
  replace hT := hT.cons q7
  replace hT := hT.cons q11
  replace hT := hT.cons q12
  replace hT := hT.cons q13
  replace hT := hT.cons q14
  clear e0 e1 e2 e3 e4 e5 e6 e7 e8 e9 e10 e11 e12 e13 e14 hb1 hv q3 q7 q11 q12 q13 q14 fv
  go_upto_region 5 with fail
  refine region_gh (by kernel_rfl) (by kernel_rfl) ?_
  refine lex_seg (gl := []) 4 (by kernel_rfl) ?_
  intro α iα F hF1 hF2
  have hq := GL.seg hF1 hL0
  simp only [fcC, cellsC, and_true, Nat.zero_add, Nat.reduceAdd] at hq
  simp only [List.take_succ_cons, List.take_zero, List.drop_succ_cons, List.drop_zero, List.take_nil, List.drop_nil]
  repeat (go_big_quiet_step (first | fail | (go_at_call 15; with_reducible exact seg_call hF2 HQ1.out _) | (go_at_call 15; with_reducible exact seg_call hF2 HQ2.out _)))
  refine wpQuiet_nil ?_
  clear hq hF1 hF2 iα F α
  refine lex_new [.int .u64 0, .string ⟨#[]⟩, .bool false, .int .u64 0, .string ⟨#[]⟩] 15 38 38 rfl rfl (of_decide_eq_true (by kernel_rfl)) (by kernel_rfl) rfl new_frac ?_
  simp only [Act.put, List.setIfInBounds_toArray, List.set_cons_succ, List.set_cons_zero]
  refine lex_new [.int .u64 0, .string ⟨#[]⟩, .bool false, .int .u64 0, .string ⟨#[]⟩] 16 38 38 rfl rfl (of_decide_eq_true (by kernel_rfl)) (by kernel_rfl) rfl new_frac ?_
  simp only [Act.put, List.setIfInBounds_toArray, List.set_cons_succ, List.set_cons_zero]
  refine lex_put [.int .u64 ((zl p.num : Nat) : Int), .string (zh p.num), .bool (zs p.num), .int .u64 ((lo (fe p) : Nat) : Int), .string (hs (fe p))] [.int .u64 0, .string ⟨#[]⟩, .bool false, .int .u64 0, .string ⟨#[]⟩] 15 38 (.tmp 55) rfl (by kernel_rfl) (by simp [toG, upd]) rfl (fun w k h => put_frac _ _ _ _ _ _ _ _ _ _ w k h) ?_
  simp only [Act.put]
  refine lex_put [.int .u64 ((zl q.num : Nat) : Int), .string (zh q.num), .bool (zs q.num), .int .u64 ((lo (fe q) : Nat) : Int), .string (hs (fe q))] [.int .u64 0, .string ⟨#[]⟩, .bool false, .int .u64 0, .string ⟨#[]⟩] 16 38 (.tmp 57) rfl (by kernel_rfl) (by simp [toG, upd]) rfl (fun w k h => put_frac _ _ _ _ _ _ _ _ _ _ w k h) ?_
  simp only [Act.put]
  refine lexG_nil ?_
  intro κ x3 hSim
  replace hL0 := hL0.ghs hSim [(16, [.int .u64 ((zl q.num : Nat) : Int), .string (zh q.num), .bool (zs q.num), .int .u64 ((lo (fe q) : Nat) : Int), .string (hs (fe q))]), (15, [.int .u64 ((zl p.num : Nat) : Int), .string (zh p.num), .bool (zs p.num), .int .u64 ((lo (fe p) : Nat) : Int), .string (hs (fe p))])] (by simp) (by intro p hp; simp only [List.mem_cons, List.not_mem_nil, or_false] at hp; rcases hp with rfl | rfl <;> exact ⟨_, by simp only [toG, upd]; rfl⟩)
  simp only [List.map_cons, List.map_nil, List.cons_append, List.nil_append] at hL0
  simp only [over_toG, over_nil, Act.put, List.setIfInBounds_toArray, List.set_cons_succ, List.set_cons_zero]
  replace hT := hT.call (below_drew hSim.base)
  clear hSim
  generalize κ 16 = k3_16 at *
  generalize κ 15 = k3_15 at *
  go_wp2_with fail
  with_reducible refine Calls.mono (HSu.out (.slice g4 d4 g4c) (.slice g5 d5 g5c) _ (hT.get (List.mem_cons_of_mem _ (List.mem_cons_of_mem _ List.mem_cons_self))) (hT.get (List.mem_cons_of_mem _ List.mem_cons_self))) ?_
  rintro e x4 ⟨v0, rfl, q0, hb⟩
  replace hL0 := hL0.call hb
  replace hT := hT.call hb
  clear hb
  obtain ⟨g7, d7, g7c, rfl, -⟩ := pt_form q0
  replace hT := hT.cons q0
  clear q0
  go_wp2_with fail
  with_reducible refine Calls.mono (HZ.out _) ?_
  rintro e x5 ⟨v0, rfl, q0, hb⟩
  replace hL0 := hL0.call hb
  replace hT := hT.call hb
  clear hb
  obtain ⟨g8, d8, g8c, rfl, -⟩ := pt_form q0
  replace hT := hT.cons q0
  clear q0
  go_wp2_with fail
  with_reducible refine Calls.mono (A1.out (.slice g4 d4 g4c) (.slice g5 d5 g5c) _ (hT.get (List.mem_cons_of_mem _ (List.mem_cons_of_mem _ (List.mem_cons_of_mem _ (List.mem_cons_of_mem _ List.mem_cons_self))))) (hT.get (List.mem_cons_of_mem _ (List.mem_cons_of_mem _ (List.mem_cons_of_mem _ List.mem_cons_self))))) ?_
  rintro e x6 ⟨v0, rfl, q0, hb⟩
  replace hL0 := hL0.call hb
  replace hT := hT.call hb
  clear hb
  obtain ⟨g9, d9, g9c, rfl, -⟩ := pt_form q0
  replace hT := hT.cons q0
  clear q0
  go_wp2_with fail
  with_reducible refine Calls.mono (A2.out (.slice g5 d5 g5c) (.slice g4 d4 g4c) _ (hT.get (List.mem_cons_of_mem _ (List.mem_cons_of_mem _ (List.mem_cons_of_mem _ (List.mem_cons_of_mem _ List.mem_cons_self))))) (hT.get (List.mem_cons_of_mem _ (List.mem_cons_of_mem _ (List.mem_cons_of_mem _ (List.mem_cons_of_mem _ (List.mem_cons_of_mem _ List.mem_cons_self))))))) ?_
  rintro e x7 ⟨v0, rfl, q0, hb⟩
  replace hL0 := hL0.call hb
  replace hT := hT.call hb
  clear hb
  obtain ⟨g10, d10, g10c, rfl, -⟩ := pt_form q0
  replace hT := hT.cons q0
  clear q0
  go_wp2_with fail
  with_reducible refine Calls.mono (S1.out (.slice g9 d9 g9c) (.slice g10 d10 g10c) _ (hT.get (List.mem_cons_of_mem _ List.mem_cons_self)) (hT.get List.mem_cons_self)) ?_
  rintro e x8 ⟨rfl, hb⟩
  replace hL0 := hL0.call hb
  replace hT := hT.call hb
  clear hb
  go_wp2_with fail
  with_reducible refine Calls.mono (A1.out (.slice g4 d4 g4c) (.slice g5 d5 g5c) _ (hT.get (List.mem_cons_of_mem _ (List.mem_cons_of_mem _ (List.mem_cons_of_mem _ (List.mem_cons_of_mem _ (List.mem_cons_of_mem _ (List.mem_cons_of_mem _ List.mem_cons_self))))))) (hT.get (List.mem_cons_of_mem _ (List.mem_cons_of_mem _ (List.mem_cons_of_mem _ (List.mem_cons_of_mem _ (List.mem_cons_of_mem _ List.mem_cons_self))))))) ?_
  rintro e x9 ⟨v0, rfl, q0, hb⟩
  replace hL0 := hL0.call hb
  replace hT := hT.call hb
  clear hb
  obtain ⟨g11, d11, g11c, rfl, -⟩ := pt_form q0
  replace hT := hT.cons q0
  clear q0
  go_wp2_with fail
  with_reducible refine Calls.mono (A3.out (.slice g11 d11 g11c) (.slice g6 d6 g6c) _ (hT.get List.mem_cons_self) (hT.get (List.mem_cons_of_mem _ (List.mem_cons_of_mem _ (List.mem_cons_of_mem _ (List.mem_cons_of_mem _ (List.mem_cons_of_mem _ List.mem_cons_self))))))) ?_
  rintro e x10 ⟨v0, rfl, q0, hb⟩
  replace hL0 := hL0.call hb
  replace hT := hT.call hb
  clear hb
  obtain ⟨g12, d12, g12c, rfl, -⟩ := pt_form q0
  replace hT := hT.cons q0
  clear q0
  go_wp2_with fail
  with_reducible refine Calls.mono (A4.out (.slice g5 d5 g5c) (.slice g6 d6 g6c) _ (hT.get (List.mem_cons_of_mem _ (List.mem_cons_of_mem _ (List.mem_cons_of_mem _ (List.mem_cons_of_mem _ (List.mem_cons_of_mem _ (List.mem_cons_of_mem _ (List.mem_cons_of_mem _ List.mem_cons_self)))))))) (hT.get (List.mem_cons_of_mem _ (List.mem_cons_of_mem _ (List.mem_cons_of_mem _ (List.mem_cons_of_mem _ (List.mem_cons_of_mem _ (List.mem_cons_of_mem _ List.mem_cons_self)))))))) ?_
  rintro e x11 ⟨v0, rfl, q0, hb⟩
  replace hL0 := hL0.call hb
  replace hT := hT.call hb
  clear hb
  obtain ⟨g13, d13, g13c, rfl, -⟩ := pt_form q0
  replace hT := hT.cons q0
  clear q0
  go_wp2_with fail
  with_reducible refine Calls.mono (A5.out (.slice g4 d4 g4c) (.slice g13 d13 g13c) _ (hT.get (List.mem_cons_of_mem _ (List.mem_cons_of_mem _ (List.mem_cons_of_mem _ (List.mem_cons_of_mem _ (List.mem_cons_of_mem _ (List.mem_cons_of_mem _ (List.mem_cons_of_mem _ (List.mem_cons_of_mem _ (List.mem_cons_of_mem _ List.mem_cons_self)))))))))) (hT.get List.mem_cons_self)) ?_
  rintro e x12 ⟨v0, rfl, q0, hb⟩
  replace hL0 := hL0.call hb
  replace hT := hT.call hb
  clear hb
  obtain ⟨g14, d14, g14c, rfl, -⟩ := pt_form q0
  replace hT := hT.cons q0
  clear q0
  go_wp2_with fail
  with_reducible refine Calls.mono (S2.out (.slice g12 d12 g12c) (.slice g14 d14 g14c) _ (hT.get (List.mem_cons_of_mem _ (List.mem_cons_of_mem _ List.mem_cons_self))) (hT.get List.mem_cons_self)) ?_
  rintro e x13 ⟨rfl, hb⟩
  replace hL0 := hL0.call hb
  replace hT := hT.call hb
  clear hb
  go_wp2_with fail
  with_reducible refine Calls.mono (HI.out _) ?_
  rintro e x14 ⟨rfl, hb⟩
  replace hL0 := hL0.call hb
  replace hT := hT.call hb
  clear hb
  go_wp2_with fail
  with_reducible refine Calls.mono (T1.out (.slice g5 d5 g5c) _ (hT.get (List.mem_cons_of_mem _ (List.mem_cons_of_mem _ (List.mem_cons_of_mem _ (List.mem_cons_of_mem _ (List.mem_cons_of_mem _ (List.mem_cons_of_mem _ (List.mem_cons_of_mem _ (List.mem_cons_of_mem _ (List.mem_cons_of_mem _ List.mem_cons_self))))))))))) ?_
  rintro e x15 ⟨v0, rfl, q0, hb⟩
  replace hL0 := hL0.call hb
  replace hT := hT.call hb
  clear hb
  obtain ⟨g15, d15, g15c, rfl, -⟩ := pt_form q0
  replace hT := hT.cons q0
  clear q0
  go_wp2_with fail
  with_reducible refine Calls.mono (A6.out (.slice g4 d4 g4c) (.slice g15 d15 g15c) _ (hT.get (List.mem_cons_of_mem _ (List.mem_cons_of_mem _ (List.mem_cons_of_mem _ (List.mem_cons_of_mem _ (List.mem_cons_of_mem _ (List.mem_cons_of_mem _ (List.mem_cons_of_mem _ (List.mem_cons_of_mem _ (List.mem_cons_of_mem _ (List.mem_cons_of_mem _ (List.mem_cons_of_mem _ List.mem_cons_self)))))))))))) (hT.get List.mem_cons_self)) ?_
  rintro e x16 ⟨v0, rfl, q0, hb⟩
  replace hL0 := hL0.call hb
  replace hT := hT.call hb
  clear hb
  obtain ⟨g16, d16, g16c, rfl, -⟩ := pt_form q0
  replace hT := hT.cons q0
  clear q0
  go_wp2_with fail
  with_reducible refine Calls.mono (S3.out (.slice g7 d7 g7c) (.slice g16 d16 g16c) _ (hT.get (List.mem_cons_of_mem _ (List.mem_cons_of_mem _ (List.mem_cons_of_mem _ (List.mem_cons_of_mem _ (List.mem_cons_of_mem _ (List.mem_cons_of_mem _ (List.mem_cons_of_mem _ (List.mem_cons_of_mem _ (List.mem_cons_of_mem _ List.mem_cons_self)))))))))) (hT.get List.mem_cons_self)) ?_
  rintro e x17 ⟨rfl, hb⟩
  replace hL0 := hL0.call hb
  replace hT := hT.call hb
  clear hb
  go_wp2_with fail
  with_reducible refine Calls.mono (T2.out (.slice g4 d4 g4c) _ (hT.get (List.mem_cons_of_mem _ (List.mem_cons_of_mem _ (List.mem_cons_of_mem _ (List.mem_cons_of_mem _ (List.mem_cons_of_mem _ (List.mem_cons_of_mem _ (List.mem_cons_of_mem _ (List.mem_cons_of_mem _ (List.mem_cons_of_mem _ (List.mem_cons_of_mem _ (List.mem_cons_of_mem _ (List.mem_cons_of_mem _ List.mem_cons_self)))))))))))))) ?_
  rintro e x18 ⟨v0, rfl, q0, hb⟩
  replace hL0 := hL0.call hb
  replace hT := hT.call hb
  clear hb
  obtain ⟨g17, d17, g17c, rfl, -⟩ := pt_form q0
  replace hT := hT.cons q0
  clear q0
  go_wp2_with fail
  with_reducible refine Calls.mono (S4.out (.slice g17 d17 g17c) (.slice g8 d8 g8c) _ (hT.get List.mem_cons_self) (hT.get (List.mem_cons_of_mem _ (List.mem_cons_of_mem _ (List.mem_cons_of_mem _ (List.mem_cons_of_mem _ (List.mem_cons_of_mem _ (List.mem_cons_of_mem _ (List.mem_cons_of_mem _ (List.mem_cons_of_mem _ (List.mem_cons_of_mem _ List.mem_cons_self))))))))))) ?_
  rintro e x19 ⟨rfl, hb⟩
  replace hL0 := hL0.call hb
  replace hT := hT.call hb
  clear hb
  go_wp2_with fail
  with_reducible refine Calls.mono (A7.out (.slice g4 d4 g4c) (.slice g8 d8 g8c) _ (hT.get (List.mem_cons_of_mem _ (List.mem_cons_of_mem _ (List.mem_cons_of_mem _ (List.mem_cons_of_mem _ (List.mem_cons_of_mem _ (List.mem_cons_of_mem _ (List.mem_cons_of_mem _ (List.mem_cons_of_mem _ (List.mem_cons_of_mem _ (List.mem_cons_of_mem _ (List.mem_cons_of_mem _ (List.mem_cons_of_mem _ (List.mem_cons_of_mem _ List.mem_cons_self)))))))))))))) (hT.get (List.mem_cons_of_mem _ (List.mem_cons_of_mem _ (List.mem_cons_of_mem _ (List.mem_cons_of_mem _ (List.mem_cons_of_mem _ (List.mem_cons_of_mem _ (List.mem_cons_of_mem _ (List.mem_cons_of_mem _ (List.mem_cons_of_mem _ List.mem_cons_self))))))))))) ?_
  rintro e x20 ⟨v0, rfl, q0, hb⟩
  replace hL0 := hL0.call hb
  replace hT := hT.call hb
  clear hb
  obtain ⟨g18, d18, g18c, rfl, -⟩ := pt_form q0
  replace hT := hT.cons q0
  clear q0
  go_wp2_with fail
  with_reducible refine Calls.mono (S5.out (.slice g18 d18 g18c) (.slice g4 d4 g4c) _ (hT.get List.mem_cons_self) (hT.get (List.mem_cons_of_mem _ (List.mem_cons_of_mem _ (List.mem_cons_of_mem _ (List.mem_cons_of_mem _ (List.mem_cons_of_mem _ (List.mem_cons_of_mem _ (List.mem_cons_of_mem _ (List.mem_cons_of_mem _ (List.mem_cons_of_mem _ (List.mem_cons_of_mem _ (List.mem_cons_of_mem _ (List.mem_cons_of_mem _ (List.mem_cons_of_mem _ (List.mem_cons_of_mem _ List.mem_cons_self)))))))))))))))) ?_
  rintro e x21 ⟨rfl, hb⟩
  replace hL0 := hL0.call hb
  replace hT := hT.call hb
  clear hb
  go_upto_region 10 with fail
  refine region_tl 44 [EV (.agg #[.int .u64 ((zl p.num : Nat) : Int), .string (zh p.num), .bool (zs p.num), .int .u64 ((lo (fe p) : Nat) : Int), .string (hs (fe p))]), EV (.agg #[.int .u64 ((zl q.num : Nat) : Int), .string (zh q.num), .bool (zs q.num), .int .u64 ((lo (fe q) : Nat) : Int), .string (hs (fe q))]), EV (.agg #[.int .u64 ((zl pq.num : Nat) : Int), .string (zh pq.num), .bool (zs pq.num), .int .u64 ((lo (fe pq) : Nat) : Int), .string (hs (fe pq))]), EV (.slice g4 d4 g4c), PP t1, EV (.agg #[.int .u64 ((zl p.num : Nat) : Int), .string (zh p.num), .bool (zs p.num), .int .u64 ((lo (fe p) : Nat) : Int), .string (hs (fe p))]), EV (.slice g4 d4 g4c), PP px, EV (.agg #[.int .u64 ((zl q.num : Nat) : Int), .string (zh q.num), .bool (zs q.num), .int .u64 ((lo (fe q) : Nat) : Int), .string (hs (fe q))]), EV (.slice g4 d4 g4c), PP qx, PP t1, EV (.bool true), EV (.bool false), EV (.bool false), EV (.agg #[.int .u64 ((zl p.num : Nat) : Int), .string (zh p.num), .bool (zs p.num), .int .u64 ((lo (fe p) : Nat) : Int), .string (hs (fe p))]), EV (.slice g4 d4 g4c), EV (.slice g5 d5 g5c), PP sxy, PP t3, EV (.agg #[.int .u64 ((zl p.num : Nat) : Int), .string (zh p.num), .bool (zs p.num), .int .u64 ((lo (fe p) : Nat) : Int), .string (hs (fe p))]), EV (.slice g4 d4 g4c), PP px, EV (.agg #[.int .u64 ((zl p.num : Nat) : Int), .string (zh p.num), .bool (zs p.num), .int .u64 ((lo (fe p) : Nat) : Int), .string (hs (fe p))]), EV (.slice g5 d5 g5c), PP py, PP t3, EV (.bool true), EV (.bool false), EV (.bool false), EV (.bool false), EV (.agg #[.int .u64 ((zl p.num : Nat) : Int), .string (zh p.num), .bool (zs p.num), .int .u64 ((lo (fe p) : Nat) : Int), .string (hs (fe p))]), EV (.agg #[.int .u64 ((zl q.num : Nat) : Int), .string (zh q.num), .bool (zs q.num), .int .u64 ((lo (fe q) : Nat) : Int), .string (hs (fe q))]), EV (.agg #[.int .u64 ((zl mq.num : Nat) : Int), .string (zh mq.num), .bool (zs mq.num), .int .u64 ((lo (fe mq) : Nat) : Int), .string (hs (fe mq))]), EV (.slice g4 d4 g4c), PP t5, EV (.agg #[.int .u64 ((zl p.num : Nat) : Int), .string (zh p.num), .bool (zs p.num), .int .u64 ((lo (fe p) : Nat) : Int), .string (hs (fe p))]), EV (.agg #[.int .u64 ((zl q.num : Nat) : Int), .string (zh q.num), .bool (zs q.num), .int .u64 ((lo (fe q) : Nat) : Int), .string (hs (fe q))]), EV (.slice g4 d4 g4c), PP qx, PP t5, EV (.bool true), EV (.bool false), EV (.bool false)] (by kernel_rfl) (by kernel_rfl) ?_ ?_ ?_
  ·exact stays_cons (stays_eq _) (stays_cons (stays_eq _) (stays_cons (stays_eq _) (stays_cons (stays_eq _) (stays_cons (stays_pt _) (stays_cons (stays_eq _) (stays_cons (stays_eq _) (stays_cons (stays_pt _) (stays_cons (stays_eq _) (stays_cons (stays_eq _) (stays_cons (stays_pt _) (stays_cons (stays_pt _) (stays_cons (stays_eq _) (stays_cons (stays_eq _) (stays_cons (stays_eq _) (stays_cons (stays_eq _) (stays_cons (stays_eq _) (stays_cons (stays_eq _) (stays_cons (stays_pt _) (stays_cons (stays_pt _) (stays_cons (stays_eq _) (stays_cons (stays_eq _) (stays_cons (stays_pt _) (stays_cons (stays_eq _) (stays_cons (stays_eq _) (stays_cons (stays_pt _) (stays_cons (stays_pt _) (stays_cons (stays_eq _) (stays_cons (stays_eq _) (stays_cons (stays_eq _) (stays_cons (stays_eq _) (stays_cons (stays_eq _) (stays_cons (stays_eq _) (stays_cons (stays_eq _) (stays_cons (stays_eq _) (stays_cons (stays_pt _) (stays_cons (stays_eq _) (stays_cons (stays_eq _) (stays_cons (stays_eq _) (stays_cons (stays_pt _) (stays_cons (stays_pt _) (stays_cons (stays_eq _) (stays_cons (stays_eq _) (stays_cons (stays_eq _) (stays_nil))))))))))))))))))))))))))))))))))))))))))))
  ·simp only [List.take_succ_cons, List.take_zero, hopsR, and_true]
   refine ⟨?_, ?_, ?_, ?_, ?_, ?_, ?_, ?_, ?_, ?_, ?_, ?_, ?_, ?_, ?_, ?_, ?_, ?_, ?_, ?_, ?_, ?_, ?_, ?_, ?_, ?_, ?_, ?_, ?_, ?_, ?_, ?_, ?_, ?_, ?_, ?_, ?_, ?_, ?_, ?_, ?_, ?_, ?_, ?_⟩ <;> intro fv w1 hb1 hp
   all_goals (simp only [putsV, Act.put, List.setIfInBounds_toArray, List.set_cons_succ, List.set_cons_zero, Nat.zero_add, Nat.reduceAdd])
   ·refine tyAt_none rfl ?_
    have hc := (hL0.call (below_drew hb1)).fc
    simp only [fcG, cellsF, neK, and_true, ne_eq, Nat.zero_add, Nat.reduceAdd] at hc
    simp [tyUpon, execOp, go_sem, Act.eval, hc, hs0, hs1, hs2, Below.refl]
   ·refine tyAt_none rfl ?_
    have hc := (hL0.call (below_drew hb1)).fc
    simp only [fcG, cellsF, neK, and_true, ne_eq, Nat.zero_add, Nat.reduceAdd] at hc
    simp [tyUpon, execOp, go_sem, Act.eval, hc, hs0, hs1, hs2, Below.refl]
   ·have h0 : EV _ (fv 0) w1 := hp 0 (LC (by kernel_rfl))
    have h1 : EV _ (fv 1) w1 := hp 1 (LC (by kernel_rfl))
    refine tyAt_none rfl ?_
    refine ty_call (f := 35) (args := #[.agg #[.int .u64 ((zl p.num : Nat) : Int), .string (zh p.num), .bool (zs p.num), .int .u64 ((lo (fe p) : Nat) : Int), .string (hs (fe p))], .agg #[.int .u64 ((zl q.num : Nat) : Int), .string (zh q.num), .bool (zs q.num), .int .u64 ((lo (fe q) : Nat) : Int), .string (hs (fe q))]]) (by simp [execOp, go_sem, Act.eval, h0, h1]) ?_
    exact (F1.out w1).mono fun e w2 ⟨h1, h2⟩ => ⟨_, h1, rfl, h2⟩
   ·refine tyAt_none rfl ?_
    simp [tyUpon, execOp, go_sem, Act.eval, hs0, hs1, hs2, Below.refl]
   ·have h2 : EV _ (fv 2) w1 := hp 2 (LC (by kernel_rfl))
    have h3 : EV _ (fv 3) w1 := hp 3 (LC (by kernel_rfl))
    refine tyAt_none rfl ?_
    refine ty_call (f := 42) (args := #[.agg #[.int .u64 ((zl pq.num : Nat) : Int), .string (zh pq.num), .bool (zs pq.num), .int .u64 ((lo (fe pq) : Nat) : Int), .string (hs (fe pq))], .slice g4 d4 g4c]) (by simp [execOp, go_sem, Act.eval, h2, h3]) ?_
    exact (T3.out (.slice g4 d4 g4c) w1 (PT.below (hT.get (List.mem_cons_of_mem _ (List.mem_cons_of_mem _ (List.mem_cons_of_mem _ (List.mem_cons_of_mem _ (List.mem_cons_of_mem _ (List.mem_cons_of_mem _ (List.mem_cons_of_mem _ (List.mem_cons_of_mem _ (List.mem_cons_of_mem _ (List.mem_cons_of_mem _ (List.mem_cons_of_mem _ (List.mem_cons_of_mem _ (List.mem_cons_of_mem _ (List.mem_cons_of_mem _ List.mem_cons_self))))))))))))))) (below_drew hb1))).mono fun e w2 ⟨pv, h1, h2, h3⟩ => ⟨pv, h1, h2, h3⟩
   ·refine tyAt_none rfl ?_
    have hc := (hL0.call (below_drew hb1)).fc
    simp only [fcG, cellsF, neK, and_true, ne_eq, Nat.zero_add, Nat.reduceAdd] at hc
    simp [tyUpon, execOp, go_sem, Act.eval, hc, hs0, hs1, hs2, Below.refl]
   ·refine tyAt_none rfl ?_
    simp [tyUpon, execOp, go_sem, Act.eval, hs0, hs1, hs2, Below.refl]
   ·have h5 : EV _ (fv 5) w1 := hp 5 (LC (by kernel_rfl))
    have h6 : EV _ (fv 6) w1 := hp 6 (LC (by kernel_rfl))
    refine tyAt_none rfl ?_
    refine ty_call (f := 42) (args := #[.agg #[.int .u64 ((zl p.num : Nat) : Int), .string (zh p.num), .bool (zs p.num), .int .u64 ((lo (fe p) : Nat) : Int), .string (hs (fe p))], .slice g4 d4 g4c]) (by simp [execOp, go_sem, Act.eval, h5, h6]) ?_
    exact (T4.out (.slice g4 d4 g4c) w1 (PT.below (hT.get (List.mem_cons_of_mem _ (List.mem_cons_of_mem _ (List.mem_cons_of_mem _ (List.mem_cons_of_mem _ (List.mem_cons_of_mem _ (List.mem_cons_of_mem _ (List.mem_cons_of_mem _ (List.mem_cons_of_mem _ (List.mem_cons_of_mem _ (List.mem_cons_of_mem _ (List.mem_cons_of_mem _ (List.mem_cons_of_mem _ (List.mem_cons_of_mem _ (List.mem_cons_of_mem _ List.mem_cons_self))))))))))))))) (below_drew hb1))).mono fun e w2 ⟨pv, h1, h2, h3⟩ => ⟨pv, h1, h2, h3⟩
   ·refine tyAt_none rfl ?_
    have hc := (hL0.call (below_drew hb1)).fc
    simp only [fcG, cellsF, neK, and_true, ne_eq, Nat.zero_add, Nat.reduceAdd] at hc
    simp [tyUpon, execOp, go_sem, Act.eval, hc, hs0, hs1, hs2, Below.refl]
   ·refine tyAt_none rfl ?_
    simp [tyUpon, execOp, go_sem, Act.eval, hs0, hs1, hs2, Below.refl]
   ·have h8 : EV _ (fv 8) w1 := hp 8 (LC (by kernel_rfl))
    have h9 : EV _ (fv 9) w1 := hp 9 (LC (by kernel_rfl))
    refine tyAt_none rfl ?_
    refine ty_call (f := 42) (args := #[.agg #[.int .u64 ((zl q.num : Nat) : Int), .string (zh q.num), .bool (zs q.num), .int .u64 ((lo (fe q) : Nat) : Int), .string (hs (fe q))], .slice g4 d4 g4c]) (by simp [execOp, go_sem, Act.eval, h8, h9]) ?_
    exact (T5.out (.slice g4 d4 g4c) w1 (PT.below (hT.get (List.mem_cons_of_mem _ (List.mem_cons_of_mem _ (List.mem_cons_of_mem _ (List.mem_cons_of_mem _ (List.mem_cons_of_mem _ (List.mem_cons_of_mem _ (List.mem_cons_of_mem _ (List.mem_cons_of_mem _ (List.mem_cons_of_mem _ (List.mem_cons_of_mem _ (List.mem_cons_of_mem _ (List.mem_cons_of_mem _ (List.mem_cons_of_mem _ (List.mem_cons_of_mem _ List.mem_cons_self))))))))))))))) (below_drew hb1))).mono fun e w2 ⟨pv, h1, h2, h3⟩ => ⟨pv, h1, h2, h3⟩
   ·have h7 : (PP px) (fv 7) w1 := hp 7 (LC (by kernel_rfl))
    have h10 : (PP qx) (fv 10) w1 := hp 10 (LC (by kernel_rfl))
    refine tyAt_none rfl ?_
    refine ty_call (f := 41) (args := #[fv 7, fv 10]) (by simp [execOp, go_sem, Act.eval]) ?_
    exact (A8.out (fv 7) (fv 10) w1 h7 h10).mono fun e w2 ⟨pv, h1, h2, h3⟩ => ⟨pv, h1, h2, h3⟩
   ·have h4 : (PP t1) (fv 4) w1 := hp 4 (LC (by kernel_rfl))
    have h11 : (PP t1) (fv 11) w1 := hp 11 (LC (by kernel_rfl))
    refine tyAt_none rfl ?_
    refine ty_call (f := 32) (args := #[fv 4, fv 11]) (by simp [execOp, go_sem, Act.eval]) ?_
    exact (S6.out (fv 4) (fv 11) w1 h4 h11).mono fun e w2 ⟨h1, h2⟩ => ⟨_, h1, rfl, h2⟩
   ·have h12 : EV _ (fv 12) w1 := hp 12 (LC (by kernel_rfl))
    refine tyAt_none rfl ?_
    simp [tyUpon, execOp, go_sem, Act.eval, h12, hs0, hs1, hs2, Below.refl]
   ·have h13 : EV _ (fv 13) w1 := hp 13 (LC (by kernel_rfl))
    refine tyAt_none rfl ?_
    simp [tyUpon, execOp, go_sem, Act.eval, h13, hs0, hs1, hs2, Below.refl]
   ·have h14 : EV _ (fv 14) w1 := hp 14 (LC (by kernel_rfl))
    refine tyAt_yes (by simp [Region.wanted, yielded, h14]) ?_
    have hc := (hL0.call (below_drew hb1)).fc
    simp only [fcG, cellsF, neK, and_true, ne_eq, Nat.zero_add, Nat.reduceAdd] at hc
    simp [tyUpon, execOp, go_sem, Act.eval, hc, h14, hs0, hs1, hs2, Below.refl]
   ·have h14 : EV _ (fv 14) w1 := hp 14 (LC (by kernel_rfl))
    refine tyAt_yes (by simp [Region.wanted, yielded, h14]) ?_
    simp [tyUpon, execOp, go_sem, Act.eval, h14, hs0, hs1, hs2, Below.refl]
   ·have h14 : EV _ (fv 14) w1 := hp 14 (LC (by kernel_rfl))
    refine tyAt_yes (by simp [Region.wanted, yielded, h14]) ?_
    simp [tyUpon, execOp, go_sem, Act.eval, h14, hs0, hs1, hs2, Below.refl]
   ·have h16 : EV _ (fv 16) w1 := hp 16 (LC (by kernel_rfl))
    have h17 : EV _ (fv 17) w1 := hp 17 (LC (by kernel_rfl))
    have h14 : EV _ (fv 14) w1 := hp 14 (LC (by kernel_rfl))
    refine tyAt_yes (by simp [Region.wanted, yielded, h16, h17, h14]) ?_
    refine ty_call (f := 41) (args := #[.slice g4 d4 g4c, .slice g5 d5 g5c]) (by simp [execOp, go_sem, Act.eval, h16, h17, h14]) ?_
    exact (A1.out (.slice g4 d4 g4c) (.slice g5 d5 g5c) w1 (PT.below (hT.get (List.mem_cons_of_mem _ (List.mem_cons_of_mem _ (List.mem_cons_of_mem _ (List.mem_cons_of_mem _ (List.mem_cons_of_mem _ (List.mem_cons_of_mem _ (List.mem_cons_of_mem _ (List.mem_cons_of_mem _ (List.mem_cons_of_mem _ (List.mem_cons_of_mem _ (List.mem_cons_of_mem _ (List.mem_cons_of_mem _ (List.mem_cons_of_mem _ (List.mem_cons_of_mem _ List.mem_cons_self))))))))))))))) (below_drew hb1)) (PT.below (hT.get (List.mem_cons_of_mem _ (List.mem_cons_of_mem _ (List.mem_cons_of_mem _ (List.mem_cons_of_mem _ (List.mem_cons_of_mem _ (List.mem_cons_of_mem _ (List.mem_cons_of_mem _ (List.mem_cons_of_mem _ (List.mem_cons_of_mem _ (List.mem_cons_of_mem _ (List.mem_cons_of_mem _ (List.mem_cons_of_mem _ (List.mem_cons_of_mem _ List.mem_cons_self)))))))))))))) (below_drew hb1))).mono fun e w2 ⟨pv, h1, h2, h3⟩ => ⟨pv, h1, h2, h3⟩
   ·have h15 : EV _ (fv 15) w1 := hp 15 (LC (by kernel_rfl))
    have h18 : (PP sxy) (fv 18) w1 := hp 18 (LC (by kernel_rfl))
    have h14 : EV _ (fv 14) w1 := hp 14 (LC (by kernel_rfl))
    refine tyAt_yes (by simp [Region.wanted, yielded, h15, h14]) ?_
    refine ty_call (f := 42) (args := #[.agg #[.int .u64 ((zl p.num : Nat) : Int), .string (zh p.num), .bool (zs p.num), .int .u64 ((lo (fe p) : Nat) : Int), .string (hs (fe p))], fv 18]) (by simp [execOp, go_sem, Act.eval, h15, h14]) ?_
    exact (T6.out (fv 18) w1 h18).mono fun e w2 ⟨pv, h1, h2, h3⟩ => ⟨pv, h1, h2, h3⟩
   ·have h14 : EV _ (fv 14) w1 := hp 14 (LC (by kernel_rfl))
    refine tyAt_yes (by simp [Region.wanted, yielded, h14]) ?_
    have hc := (hL0.call (below_drew hb1)).fc
    simp only [fcG, cellsF, neK, and_true, ne_eq, Nat.zero_add, Nat.reduceAdd] at hc
    simp [tyUpon, execOp, go_sem, Act.eval, hc, h14, hs0, hs1, hs2, Below.refl]
   ·have h14 : EV _ (fv 14) w1 := hp 14 (LC (by kernel_rfl))
    refine tyAt_yes (by simp [Region.wanted, yielded, h14]) ?_
    simp [tyUpon, execOp, go_sem, Act.eval, h14, hs0, hs1, hs2, Below.refl]
   ·have h20 : EV _ (fv 20) w1 := hp 20 (LC (by kernel_rfl))
    have h21 : EV _ (fv 21) w1 := hp 21 (LC (by kernel_rfl))
    have h14 : EV _ (fv 14) w1 := hp 14 (LC (by kernel_rfl))
    refine tyAt_yes (by simp [Region.wanted, yielded, h20, h21, h14]) ?_
    refine ty_call (f := 42) (args := #[.agg #[.int .u64 ((zl p.num : Nat) : Int), .string (zh p.num), .bool (zs p.num), .int .u64 ((lo (fe p) : Nat) : Int), .string (hs (fe p))], .slice g4 d4 g4c]) (by simp [execOp, go_sem, Act.eval, h20, h21, h14]) ?_
    exact (T4.out (.slice g4 d4 g4c) w1 (PT.below (hT.get (List.mem_cons_of_mem _ (List.mem_cons_of_mem _ (List.mem_cons_of_mem _ (List.mem_cons_of_mem _ (List.mem_cons_of_mem _ (List.mem_cons_of_mem _ (List.mem_cons_of_mem _ (List.mem_cons_of_mem _ (List.mem_cons_of_mem _ (List.mem_cons_of_mem _ (List.mem_cons_of_mem _ (List.mem_cons_of_mem _ (List.mem_cons_of_mem _ (List.mem_cons_of_mem _ List.mem_cons_self))))))))))))))) (below_drew hb1))).mono fun e w2 ⟨pv, h1, h2, h3⟩ => ⟨pv, h1, h2, h3⟩
   ·have h14 : EV _ (fv 14) w1 := hp 14 (LC (by kernel_rfl))
    refine tyAt_yes (by simp [Region.wanted, yielded, h14]) ?_
    have hc := (hL0.call (below_drew hb1)).fc
    simp only [fcG, cellsF, neK, and_true, ne_eq, Nat.zero_add, Nat.reduceAdd] at hc
    simp [tyUpon, execOp, go_sem, Act.eval, hc, h14, hs0, hs1, hs2, Below.refl]
   ·have h14 : EV _ (fv 14) w1 := hp 14 (LC (by kernel_rfl))
    refine tyAt_yes (by simp [Region.wanted, yielded, h14]) ?_
    simp [tyUpon, execOp, go_sem, Act.eval, h14, hs0, hs1, hs2, Below.refl]
   ·have h23 : EV _ (fv 23) w1 := hp 23 (LC (by kernel_rfl))
    have h24 : EV _ (fv 24) w1 := hp 24 (LC (by kernel_rfl))
    have h14 : EV _ (fv 14) w1 := hp 14 (LC (by kernel_rfl))
    refine tyAt_yes (by simp [Region.wanted, yielded, h23, h24, h14]) ?_
    refine ty_call (f := 42) (args := #[.agg #[.int .u64 ((zl p.num : Nat) : Int), .string (zh p.num), .bool (zs p.num), .int .u64 ((lo (fe p) : Nat) : Int), .string (hs (fe p))], .slice g5 d5 g5c]) (by simp [execOp, go_sem, Act.eval, h23, h24, h14]) ?_
    exact (T7.out (.slice g5 d5 g5c) w1 (PT.below (hT.get (List.mem_cons_of_mem _ (List.mem_cons_of_mem _ (List.mem_cons_of_mem _ (List.mem_cons_of_mem _ (List.mem_cons_of_mem _ (List.mem_cons_of_mem _ (List.mem_cons_of_mem _ (List.mem_cons_of_mem _ (List.mem_cons_of_mem _ (List.mem_cons_of_mem _ (List.mem_cons_of_mem _ (List.mem_cons_of_mem _ (List.mem_cons_of_mem _ List.mem_cons_self)))))))))))))) (below_drew hb1))).mono fun e w2 ⟨pv, h1, h2, h3⟩ => ⟨pv, h1, h2, h3⟩
   ·have h22 : (PP px) (fv 22) w1 := hp 22 (LC (by kernel_rfl))
    have h25 : (PP py) (fv 25) w1 := hp 25 (LC (by kernel_rfl))
    have h14 : EV _ (fv 14) w1 := hp 14 (LC (by kernel_rfl))
    refine tyAt_yes (by simp [Region.wanted, yielded, h14]) ?_
    refine ty_call (f := 41) (args := #[fv 22, fv 25]) (by simp [execOp, go_sem, Act.eval, h14]) ?_
    exact (A9.out (fv 22) (fv 25) w1 h22 h25).mono fun e w2 ⟨pv, h1, h2, h3⟩ => ⟨pv, h1, h2, h3⟩
   ·have h19 : (PP t3) (fv 19) w1 := hp 19 (LC (by kernel_rfl))
    have h26 : (PP t3) (fv 26) w1 := hp 26 (LC (by kernel_rfl))
    have h14 : EV _ (fv 14) w1 := hp 14 (LC (by kernel_rfl))
    refine tyAt_yes (by simp [Region.wanted, yielded, h14]) ?_
    refine ty_call (f := 32) (args := #[fv 19, fv 26]) (by simp [execOp, go_sem, Act.eval, h14]) ?_
    exact (S7.out (fv 19) (fv 26) w1 h19 h26).mono fun e w2 ⟨h1, h2⟩ => ⟨_, h1, rfl, h2⟩
   ·have h27 : EV _ (fv 27) w1 := hp 27 (LC (by kernel_rfl))
    have h14 : EV _ (fv 14) w1 := hp 14 (LC (by kernel_rfl))
    refine tyAt_yes (by simp [Region.wanted, yielded, h27, h14]) ?_
    simp [tyUpon, execOp, go_sem, Act.eval, h27, h14, hs0, hs1, hs2, Below.refl]
   ·have h14 : EV _ (fv 14) w1 := hp 14 (LC (by kernel_rfl))
    have h28 : EV _ (fv 28) w1 := hp 28 (LC (by kernel_rfl))
    refine tyAt_none rfl ?_
    simp [tyUpon, execOp, go_sem, Act.eval, h14, h28, hs0, hs1, hs2, Below.refl]
   ·have h29 : EV _ (fv 29) w1 := hp 29 (LC (by kernel_rfl))
    refine tyAt_none rfl ?_
    simp [tyUpon, execOp, go_sem, Act.eval, h29, hs0, hs1, hs2, Below.refl]
   ·have h30 : EV _ (fv 30) w1 := hp 30 (LC (by kernel_rfl))
    refine tyAt_yes (by simp [Region.wanted, yielded, h30]) ?_
    have hc := (hL0.call (below_drew hb1)).fc
    simp only [fcG, cellsF, neK, and_true, ne_eq, Nat.zero_add, Nat.reduceAdd] at hc
    simp [tyUpon, execOp, go_sem, Act.eval, hc, h30, hs0, hs1, hs2, Below.refl]
   ·have h30 : EV _ (fv 30) w1 := hp 30 (LC (by kernel_rfl))
    refine tyAt_yes (by simp [Region.wanted, yielded, h30]) ?_
    have hc := (hL0.call (below_drew hb1)).fc
    simp only [fcG, cellsF, neK, and_true, ne_eq, Nat.zero_add, Nat.reduceAdd] at hc
    simp [tyUpon, execOp, go_sem, Act.eval, hc, h30, hs0, hs1, hs2, Below.refl]
   ·have h31 : EV _ (fv 31) w1 := hp 31 (LC (by kernel_rfl))
    have h32 : EV _ (fv 32) w1 := hp 32 (LC (by kernel_rfl))
    have h30 : EV _ (fv 30) w1 := hp 30 (LC (by kernel_rfl))
    refine tyAt_yes (by simp [Region.wanted, yielded, h31, h32, h30]) ?_
    refine ty_call (f := 36) (args := #[.agg #[.int .u64 ((zl p.num : Nat) : Int), .string (zh p.num), .bool (zs p.num), .int .u64 ((lo (fe p) : Nat) : Int), .string (hs (fe p))], .agg #[.int .u64 ((zl q.num : Nat) : Int), .string (zh q.num), .bool (zs q.num), .int .u64 ((lo (fe q) : Nat) : Int), .string (hs (fe q))]]) (by simp [execOp, go_sem, Act.eval, h31, h32, h30]) ?_
    exact (F2.out w1).mono fun e w2 ⟨h1, h2⟩ => ⟨_, h1, rfl, h2⟩
   ·have h30 : EV _ (fv 30) w1 := hp 30 (LC (by kernel_rfl))
    refine tyAt_yes (by simp [Region.wanted, yielded, h30]) ?_
    simp [tyUpon, execOp, go_sem, Act.eval, h30, hs0, hs1, hs2, Below.refl]
   ·have h33 : EV _ (fv 33) w1 := hp 33 (LC (by kernel_rfl))
    have h34 : EV _ (fv 34) w1 := hp 34 (LC (by kernel_rfl))
    have h30 : EV _ (fv 30) w1 := hp 30 (LC (by kernel_rfl))
    refine tyAt_yes (by simp [Region.wanted, yielded, h33, h34, h30]) ?_
    refine ty_call (f := 42) (args := #[.agg #[.int .u64 ((zl mq.num : Nat) : Int), .string (zh mq.num), .bool (zs mq.num), .int .u64 ((lo (fe mq) : Nat) : Int), .string (hs (fe mq))], .slice g4 d4 g4c]) (by simp [execOp, go_sem, Act.eval, h33, h34, h30]) ?_
    exact (T8.out (.slice g4 d4 g4c) w1 (PT.below (hT.get (List.mem_cons_of_mem _ (List.mem_cons_of_mem _ (List.mem_cons_of_mem _ (List.mem_cons_of_mem _ (List.mem_cons_of_mem _ (List.mem_cons_of_mem _ (List.mem_cons_of_mem _ (List.mem_cons_of_mem _ (List.mem_cons_of_mem _ (List.mem_cons_of_mem _ (List.mem_cons_of_mem _ (List.mem_cons_of_mem _ (List.mem_cons_of_mem _ (List.mem_cons_of_mem _ List.mem_cons_self))))))))))))))) (below_drew hb1))).mono fun e w2 ⟨pv, h1, h2, h3⟩ => ⟨pv, h1, h2, h3⟩
   ·have h30 : EV _ (fv 30) w1 := hp 30 (LC (by kernel_rfl))
    refine tyAt_yes (by simp [Region.wanted, yielded, h30]) ?_
    have hc := (hL0.call (below_drew hb1)).fc
    simp only [fcG, cellsF, neK, and_true, ne_eq, Nat.zero_add, Nat.reduceAdd] at hc
    simp [tyUpon, execOp, go_sem, Act.eval, hc, h30, hs0, hs1, hs2, Below.refl]
   ·have h30 : EV _ (fv 30) w1 := hp 30 (LC (by kernel_rfl))
    refine tyAt_yes (by simp [Region.wanted, yielded, h30]) ?_
    have hc := (hL0.call (below_drew hb1)).fc
    simp only [fcG, cellsF, neK, and_true, ne_eq, Nat.zero_add, Nat.reduceAdd] at hc
    simp [tyUpon, execOp, go_sem, Act.eval, hc, h30, hs0, hs1, hs2, Below.refl]
   ·have h30 : EV _ (fv 30) w1 := hp 30 (LC (by kernel_rfl))
    refine tyAt_yes (by simp [Region.wanted, yielded, h30]) ?_
    simp [tyUpon, execOp, go_sem, Act.eval, h30, hs0, hs1, hs2, Below.refl]
   ·have h37 : EV _ (fv 37) w1 := hp 37 (LC (by kernel_rfl))
    have h38 : EV _ (fv 38) w1 := hp 38 (LC (by kernel_rfl))
    have h30 : EV _ (fv 30) w1 := hp 30 (LC (by kernel_rfl))
    refine tyAt_yes (by simp [Region.wanted, yielded, h37, h38, h30]) ?_
    refine ty_call (f := 42) (args := #[.agg #[.int .u64 ((zl q.num : Nat) : Int), .string (zh q.num), .bool (zs q.num), .int .u64 ((lo (fe q) : Nat) : Int), .string (hs (fe q))], .slice g4 d4 g4c]) (by simp [execOp, go_sem, Act.eval, h37, h38, h30]) ?_
    exact (T5.out (.slice g4 d4 g4c) w1 (PT.below (hT.get (List.mem_cons_of_mem _ (List.mem_cons_of_mem _ (List.mem_cons_of_mem _ (List.mem_cons_of_mem _ (List.mem_cons_of_mem _ (List.mem_cons_of_mem _ (List.mem_cons_of_mem _ (List.mem_cons_of_mem _ (List.mem_cons_of_mem _ (List.mem_cons_of_mem _ (List.mem_cons_of_mem _ (List.mem_cons_of_mem _ (List.mem_cons_of_mem _ (List.mem_cons_of_mem _ List.mem_cons_self))))))))))))))) (below_drew hb1))).mono fun e w2 ⟨pv, h1, h2, h3⟩ => ⟨pv, h1, h2, h3⟩
   ·have h36 : EV _ (fv 36) w1 := hp 36 (LC (by kernel_rfl))
    have h39 : (PP qx) (fv 39) w1 := hp 39 (LC (by kernel_rfl))
    have h30 : EV _ (fv 30) w1 := hp 30 (LC (by kernel_rfl))
    refine tyAt_yes (by simp [Region.wanted, yielded, h36, h30]) ?_
    refine ty_call (f := 42) (args := #[.agg #[.int .u64 ((zl p.num : Nat) : Int), .string (zh p.num), .bool (zs p.num), .int .u64 ((lo (fe p) : Nat) : Int), .string (hs (fe p))], fv 39]) (by simp [execOp, go_sem, Act.eval, h36, h30]) ?_
    exact (T9.out (fv 39) w1 h39).mono fun e w2 ⟨pv, h1, h2, h3⟩ => ⟨pv, h1, h2, h3⟩
   ·have h35 : (PP t5) (fv 35) w1 := hp 35 (LC (by kernel_rfl))
    have h40 : (PP t5) (fv 40) w1 := hp 40 (LC (by kernel_rfl))
    have h30 : EV _ (fv 30) w1 := hp 30 (LC (by kernel_rfl))
    refine tyAt_yes (by simp [Region.wanted, yielded, h30]) ?_
    refine ty_call (f := 32) (args := #[fv 35, fv 40]) (by simp [execOp, go_sem, Act.eval, h30]) ?_
    exact (S8.out (fv 35) (fv 40) w1 h35 h40).mono fun e w2 ⟨h1, h2⟩ => ⟨_, h1, rfl, h2⟩
   ·have h41 : EV _ (fv 41) w1 := hp 41 (LC (by kernel_rfl))
    have h30 : EV _ (fv 30) w1 := hp 30 (LC (by kernel_rfl))
    refine tyAt_yes (by simp [Region.wanted, yielded, h41, h30]) ?_
    simp [tyUpon, execOp, go_sem, Act.eval, h41, h30, hs0, hs1, hs2, Below.refl]
   ·have h30 : EV _ (fv 30) w1 := hp 30 (LC (by kernel_rfl))
    have h42 : EV _ (fv 42) w1 := hp 42 (LC (by kernel_rfl))
    refine tyAt_none rfl ?_
    simp [tyUpon, execOp, go_sem, Act.eval, h30, h42, hs0, hs1, hs2, Below.refl]
  ·intro fv x22 hb1 hv
   have e0 : fv 0 = _ := hv 0 (by omega)
   have e1 : fv 1 = _ := hv 1 (by omega)
   have e2 : fv 2 = _ := hv 2 (by omega)
   have e3 : fv 3 = _ := hv 3 (by omega)
   have q4 : PT x22 (fv 4) t1 := hv 4 (by omega)
   obtain ⟨g19, d19, g19c, e4, -⟩ := pt_form q4
   rw [e4] at q4
   have e5 : fv 5 = _ := hv 5 (by omega)
   have e6 : fv 6 = _ := hv 6 (by omega)
   have q7 : PT x22 (fv 7) px := hv 7 (by omega)
   obtain ⟨g20, d20, g20c, e7, -⟩ := pt_form q7
   rw [e7] at q7
   have e8 : fv 8 = _ := hv 8 (by omega)
   have e9 : fv 9 = _ := hv 9 (by omega)
   have q10 : PT x22 (fv 10) qx := hv 10 (by omega)
   obtain ⟨g21, d21, g21c, e10, -⟩ := pt_form q10
   rw [e10] at q10
   have q11 : PT x22 (fv 11) t1 := hv 11 (by omega)
   obtain ⟨g22, d22, g22c, e11, -⟩ := pt_form q11
   rw [e11] at q11
   have e12 : fv 12 = _ := hv 12 (by omega)
   have e13 : fv 13 = _ := hv 13 (by omega)
   have e14 : fv 14 = _ := hv 14 (by omega)
   have e15 : fv 15 = _ := hv 15 (by omega)
   have e16 : fv 16 = _ := hv 16 (by omega)
   have e17 : fv 17 = _ := hv 17 (by omega)
   have q18 : PT x22 (fv 18) sxy := hv 18 (by omega)
   obtain ⟨g23, d23, g23c, e18, -⟩ := pt_form q18
   rw [e18] at q18
   have q19 : PT x22 (fv 19) t3 := hv 19 (by omega)
   obtain ⟨g24, d24, g24c, e19, -⟩ := pt_form q19
   rw [e19] at q19
   have e20 : fv 20 = _ := hv 20 (by omega)
   have e21 : fv 21 = _ := hv 21 (by omega)
   have q22 : PT x22 (fv 22) px := hv 22 (by omega)
   obtain ⟨g25, d25, g25c, e22, -⟩ := pt_form q22
   rw [e22] at q22
   have e23 : fv 23 = _ := hv 23 (by omega)
   have e24 : fv 24 = _ := hv 24 (by omega)
   have q25 : PT x22 (fv 25) py := hv 25 (by omega)
   obtain ⟨g26, d26, g26c, e25, -⟩ := pt_form q25
   rw [e25] at q25
   have q26 : PT x22 (fv 26) t3 := hv 26 (by omega)
   obtain ⟨g27, d27, g27c, e26, -⟩ := pt_form q26
   rw [e26] at q26
   have e27 : fv 27 = _ := hv 27 (by omega)
   have e28 : fv 28 = _ := hv 28 (by omega)
   have e29 : fv 29 = _ := hv 29 (by omega)
   have e30 : fv 30 = _ := hv 30 (by omega)
   have e31 : fv 31 = _ := hv 31 (by omega)
   have e32 : fv 32 = _ := hv 32 (by omega)
   have e33 : fv 33 = _ := hv 33 (by omega)
   have e34 : fv 34 = _ := hv 34 (by omega)
   have q35 : PT x22 (fv 35) t5 := hv 35 (by omega)
   obtain ⟨g28, d28, g28c, e35, -⟩ := pt_form q35
   rw [e35] at q35
   have e36 : fv 36 = _ := hv 36 (by omega)
   have e37 : fv 37 = _ := hv 37 (by omega)
   have e38 : fv 38 = _ := hv 38 (by omega)
   have q39 : PT x22 (fv 39) qx := hv 39 (by omega)
   obtain ⟨g29, d29, g29c, e39, -⟩ := pt_form q39
   rw [e39] at q39
   have q40 : PT x22 (fv 40) t5 := hv 40 (by omega)
   obtain ⟨g30, d30, g30c, e40, -⟩ := pt_form q40
   rw [e40] at q40
   have e41 : fv 41 = _ := hv 41 (by omega)
   have e42 : fv 42 = _ := hv 42 (by omega)
   have e43 : fv 43 = _ := hv 43 (by omega)
   simp only [List.take_succ_cons, List.take_zero, putsV, Act.put, List.setIfInBounds_toArray, List.set_cons_succ, List.set_cons_zero, List.drop_succ_cons, List.drop_zero, Nat.zero_add, Nat.reduceAdd, e0, e1, e2, e3, e4, e5, e6, e7, e8, e9, e10, e11, e12, e13, e14, e15, e16, e17, e18, e19, e20, e21, e22, e23, e24, e25, e26, e27, e28, e29, e30, e31, e32, e33, e34, e35, e36, e37, e38, e39, e40, e41, e42, e43]
   replace hL0 := hL0.call (below_drew hb1)
   replace hT := hT.call (below_drew hb1)
   replace hT := hT.cons q4
   replace hT := hT.cons q7
   replace hT := hT.cons q10
   replace hT := hT.cons q11
   replace hT := hT.cons q18
   replace hT := hT.cons q19
   replace hT := hT.cons q22
   replace hT := hT.cons q25
   replace hT := hT.cons q26
   replace hT := hT.cons q35
   replace hT := hT.cons q39
   replace hT := hT.cons q40
   clear e0 e1 e2 e3 e4 e5 e6 e7 e8 e9 e10 e11 e12 e13 e14 e15 e16 e17 e18 e19 e20 e21 e22 e23 e24 e25 e26 e27 e28 e29 e30 e31 e32 e33 e34 e35 e36 e37 e38 e39 e40 e41 e42 e43 hb1 hv q4 q7 q10 q11 q18 q19 q22 q25 q26 q35 q39 q40 fv
   go_upto_region 12 with fail
   refine region_tl 39 [EV (.slice g4 d4 g4c), EV (.slice g5 d5 g5c), EV (.agg #[.int .u64 ((zl e1.num : Nat) : Int), .string (zh e1.num), .bool (zs e1.num), .int .u64 ((lo (fe e1) : Nat) : Int), .string (hs (fe e1))]), EV (.slice g5 d5 g5c), EV (.slice g4 d4 g4c), EV (.agg #[.int .u64 ((zl e1.num : Nat) : Int), .string (zh e1.num), .bool (zs e1.num), .int .u64 ((lo (fe e1) : Nat) : Int), .string (hs (fe e1))]), EV (.bool true), EV (.bool true), EV (.slice g4 d4 g4c), EV (.slice g5 d5 g5c), PP sxy, EV (.slice g6 d6 g6c), EV (.agg #[.int .u64 ((zl e2.num : Nat) : Int), .string (zh e2.num), .bool (zs e2.num), .int .u64 ((lo (fe e2) : Nat) : Int), .string (hs (fe e2))]), EV (.slice g4 d4 g4c), EV (.slice g6 d6 g6c), EV (.agg #[.int .u64 ((zl e3.num : Nat) : Int), .string (zh e3.num), .bool (zs e3.num), .int .u64 ((lo (fe e3) : Nat) : Int), .string (hs (fe e3))]), EV (.slice g5 d5 g5c), EV (.slice g6 d6 g6c), EV (.agg #[.int .u64 ((zl e4.num : Nat) : Int), .string (zh e4.num), .bool (zs e4.num), .int .u64 ((lo (fe e4) : Nat) : Int), .string (hs (fe e4))]), EV (.agg #[.int .u64 ((zl e2.num : Nat) : Int), .string (zh e2.num), .bool (zs e2.num), .int .u64 ((lo (fe e2) : Nat) : Int), .string (hs (fe e2))]), EV (.bool true), EV (.bool true), EV (.bool true), EV (.agg #[.int .u64 ((zl p.num : Nat) : Int), .string (zh p.num), .bool (zs p.num), .int .u64 ((lo (fe p) : Nat) : Int), .string (hs (fe p))]), EV (.slice g4 d4 g4c), PP px, EV (.slice g6 d6 g6c), EV (.agg #[.int .u64 ((zl e5.num : Nat) : Int), .string (zh e5.num), .bool (zs e5.num), .int .u64 ((lo (fe e5) : Nat) : Int), .string (hs (fe e5))]), EV (.agg #[.int .u64 ((zl p.num : Nat) : Int), .string (zh p.num), .bool (zs p.num), .int .u64 ((lo (fe p) : Nat) : Int), .string (hs (fe p))]), EV (.slice g4 d4 g4c), EV (.slice g6 d6 g6c), EV (.agg #[.int .u64 ((zl e3.num : Nat) : Int), .string (zh e3.num), .bool (zs e3.num), .int .u64 ((lo (fe e3) : Nat) : Int), .string (hs (fe e3))]), EV (.agg #[.int .u64 ((zl e5.num : Nat) : Int), .string (zh e5.num), .bool (zs e5.num), .int .u64 ((lo (fe e5) : Nat) : Int), .string (hs (fe e5))]), EV (.bool true), EV (.bool true), EV (.bool true), EV (.bool true), EV (.bool true), EV (.bool true)] (by kernel_rfl) (by kernel_rfl) ?_ ?_ ?_
   ·exact stays_cons (stays_eq _) (stays_cons (stays_eq _) (stays_cons (stays_eq _) (stays_cons (stays_eq _) (stays_cons (stays_eq _) (stays_cons (stays_eq _) (stays_cons (stays_eq _) (stays_cons (stays_eq _) (stays_cons (stays_eq _) (stays_cons (stays_eq _) (stays_cons (stays_pt _) (stays_cons (stays_eq _) (stays_cons (stays_eq _) (stays_cons (stays_eq _) (stays_cons (stays_eq _) (stays_cons (stays_eq _) (stays_cons (stays_eq _) (stays_cons (stays_eq _) (stays_cons (stays_eq _) (stays_cons (stays_eq _) (stays_cons (stays_eq _) (stays_cons (stays_eq _) (stays_cons (stays_eq _) (stays_cons (stays_eq _) (stays_cons (stays_eq _) (stays_cons (stays_pt _) (stays_cons (stays_eq _) (stays_cons (stays_eq _) (stays_cons (stays_eq _) (stays_cons (stays_eq _) (stays_cons (stays_eq _) (stays_cons (stays_eq _) (stays_cons (stays_eq _) (stays_cons (stays_eq _) (stays_cons (stays_eq _) (stays_cons (stays_eq _) (stays_cons (stays_eq _) (stays_cons (stays_eq _) (stays_cons (stays_eq _) (stays_nil)))))))))))))))))))))))))))))))))))))))
   ·simp only [List.take_succ_cons, List.take_zero, hopsR, and_true]
    refine ⟨?_, ?_, ?_, ?_, ?_, ?_, ?_, ?_, ?_, ?_, ?_, ?_, ?_, ?_, ?_, ?_, ?_, ?_, ?_, ?_, ?_, ?_, ?_, ?_, ?_, ?_, ?_, ?_, ?_, ?_, ?_, ?_, ?_, ?_, ?_, ?_, ?_, ?_, ?_⟩ <;> intro fv w1 hb1 hp
    all_goals (simp only [putsV, Act.put, List.setIfInBounds_toArray, List.set_cons_succ, List.set_cons_zero, Nat.zero_add, Nat.reduceAdd])
    ·refine tyAt_none rfl ?_
     simp [tyUpon, execOp, go_sem, Act.eval, hs0, hs1, hs2, Below.refl]
    ·refine tyAt_none rfl ?_
     simp [tyUpon, execOp, go_sem, Act.eval, hs0, hs1, hs2, Below.refl]
    ·have h0 : EV _ (fv 0) w1 := hp 0 (LC (by kernel_rfl))
     have h1 : EV _ (fv 1) w1 := hp 1 (LC (by kernel_rfl))
     refine tyAt_none rfl ?_
     refine ty_call (f := 43) (args := #[.slice g4 d4 g4c, .slice g5 d5 g5c]) (by simp [execOp, go_sem, Act.eval, h0, h1]) ?_
     exact (D1.out (.slice g4 d4 g4c) (.slice g5 d5 g5c) w1 (PT.below (hT.get (List.mem_cons_of_mem _ (List.mem_cons_of_mem _ (List.mem_cons_of_mem _ (List.mem_cons_of_mem _ (List.mem_cons_of_mem _ (List.mem_cons_of_mem _ (List.mem_cons_of_mem _ (List.mem_cons_of_mem _ (List.mem_cons_of_mem _ (List.mem_cons_of_mem _ (List.mem_cons_of_mem _ (List.mem_cons_of_mem _ (List.mem_cons_of_mem _ (List.mem_cons_of_mem _ (List.mem_cons_of_mem _ (List.mem_cons_of_mem _ (List.mem_cons_of_mem _ (List.mem_cons_of_mem _ (List.mem_cons_of_mem _ (List.mem_cons_of_mem _ (List.mem_cons_of_mem _ (List.mem_cons_of_mem _ (List.mem_cons_of_mem _ (List.mem_cons_of_mem _ (List.mem_cons_of_mem _ (List.mem_cons_of_mem _ List.mem_cons_self))))))))))))))))))))))))))) (below_drew hb1)) (PT.below (hT.get (List.mem_cons_of_mem _ (List.mem_cons_of_mem _ (List.mem_cons_of_mem _ (List.mem_cons_of_mem _ (List.mem_cons_of_mem _ (List.mem_cons_of_mem _ (List.mem_cons_of_mem _ (List.mem_cons_of_mem _ (List.mem_cons_of_mem _ (List.mem_cons_of_mem _ (List.mem_cons_of_mem _ (List.mem_cons_of_mem _ (List.mem_cons_of_mem _ (List.mem_cons_of_mem _ (List.mem_cons_of_mem _ (List.mem_cons_of_mem _ (List.mem_cons_of_mem _ (List.mem_cons_of_mem _ (List.mem_cons_of_mem _ (List.mem_cons_of_mem _ (List.mem_cons_of_mem _ (List.mem_cons_of_mem _ (List.mem_cons_of_mem _ (List.mem_cons_of_mem _ (List.mem_cons_of_mem _ List.mem_cons_self)))))))))))))))))))))))))) (below_drew hb1))).mono fun e w2 ⟨h1, h2⟩ => ⟨_, h1, rfl, h2⟩
    ·refine tyAt_none rfl ?_
     simp [tyUpon, execOp, go_sem, Act.eval, hs0, hs1, hs2, Below.refl]
    ·refine tyAt_none rfl ?_
     simp [tyUpon, execOp, go_sem, Act.eval, hs0, hs1, hs2, Below.refl]
    ·have h3 : EV _ (fv 3) w1 := hp 3 (LC (by kernel_rfl))
     have h4 : EV _ (fv 4) w1 := hp 4 (LC (by kernel_rfl))
     refine tyAt_none rfl ?_
     refine ty_call (f := 43) (args := #[.slice g5 d5 g5c, .slice g4 d4 g4c]) (by simp [execOp, go_sem, Act.eval, h3, h4]) ?_
     exact (D2.out (.slice g5 d5 g5c) (.slice g4 d4 g4c) w1 (PT.below (hT.get (List.mem_cons_of_mem _ (List.mem_cons_of_mem _ (List.mem_cons_of_mem _ (List.mem_cons_of_mem _ (List.mem_cons_of_mem _ (List.mem_cons_of_mem _ (List.mem_cons_of_mem _ (List.mem_cons_of_mem _ (List.mem_cons_of_mem _ (List.mem_cons_of_mem _ (List.mem_cons_of_mem _ (List.mem_cons_of_mem _ (List.mem_cons_of_mem _ (List.mem_cons_of_mem _ (List.mem_cons_of_mem _ (List.mem_cons_of_mem _ (List.mem_cons_of_mem _ (List.mem_cons_of_mem _ (List.mem_cons_of_mem _ (List.mem_cons_of_mem _ (List.mem_cons_of_mem _ (List.mem_cons_of_mem _ (List.mem_cons_of_mem _ (List.mem_cons_of_mem _ (List.mem_cons_of_mem _ List.mem_cons_self)))))))))))))))))))))))))) (below_drew hb1)) (PT.below (hT.get (List.mem_cons_of_mem _ (List.mem_cons_of_mem _ (List.mem_cons_of_mem _ (List.mem_cons_of_mem _ (List.mem_cons_of_mem _ (List.mem_cons_of_mem _ (List.mem_cons_of_mem _ (List.mem_cons_of_mem _ (List.mem_cons_of_mem _ (List.mem_cons_of_mem _ (List.mem_cons_of_mem _ (List.mem_cons_of_mem _ (List.mem_cons_of_mem _ (List.mem_cons_of_mem _ (List.mem_cons_of_mem _ (List.mem_cons_of_mem _ (List.mem_cons_of_mem _ (List.mem_cons_of_mem _ (List.mem_cons_of_mem _ (List.mem_cons_of_mem _ (List.mem_cons_of_mem _ (List.mem_cons_of_mem _ (List.mem_cons_of_mem _ (List.mem_cons_of_mem _ (List.mem_cons_of_mem _ (List.mem_cons_of_mem _ List.mem_cons_self))))))))))))))))))))))))))) (below_drew hb1))).mono fun e w2 ⟨h1, h2⟩ => ⟨_, h1, rfl, h2⟩
    ·have h2 : EV _ (fv 2) w1 := hp 2 (LC (by kernel_rfl))
     have h5 : EV _ (fv 5) w1 := hp 5 (LC (by kernel_rfl))
     refine tyAt_none rfl ?_
     simp [tyUpon, execOp, go_sem, Act.eval, h2, h5, hs0, hs1, hs2, Below.refl]
    ·have h6 : EV _ (fv 6) w1 := hp 6 (LC (by kernel_rfl))
     refine tyAt_none rfl ?_
     simp [tyUpon, execOp, go_sem, Act.eval, h6, hs0, hs1, hs2, Below.refl]
    ·have h7 : EV _ (fv 7) w1 := hp 7 (LC (by kernel_rfl))
     refine tyAt_yes (by simp [Region.wanted, yielded, h7]) ?_
     simp [tyUpon, execOp, go_sem, Act.eval, h7, hs0, hs1, hs2, Below.refl]
    ·have h7 : EV _ (fv 7) w1 := hp 7 (LC (by kernel_rfl))
     refine tyAt_yes (by simp [Region.wanted, yielded, h7]) ?_
     simp [tyUpon, execOp, go_sem, Act.eval, h7, hs0, hs1, hs2, Below.refl]
    ·have h8 : EV _ (fv 8) w1 := hp 8 (LC (by kernel_rfl))
     have h9 : EV _ (fv 9) w1 := hp 9 (LC (by kernel_rfl))
     have h7 : EV _ (fv 7) w1 := hp 7 (LC (by kernel_rfl))
     refine tyAt_yes (by simp [Region.wanted, yielded, h8, h9, h7]) ?_
     refine ty_call (f := 41) (args := #[.slice g4 d4 g4c, .slice g5 d5 g5c]) (by simp [execOp, go_sem, Act.eval, h8, h9, h7]) ?_
     exact (A1.out (.slice g4 d4 g4c) (.slice g5 d5 g5c) w1 (PT.below (hT.get (List.mem_cons_of_mem _ (List.mem_cons_of_mem _ (List.mem_cons_of_mem _ (List.mem_cons_of_mem _ (List.mem_cons_of_mem _ (List.mem_cons_of_mem _ (List.mem_cons_of_mem _ (List.mem_cons_of_mem _ (List.mem_cons_of_mem _ (List.mem_cons_of_mem _ (List.mem_cons_of_mem _ (List.mem_cons_of_mem _ (List.mem_cons_of_mem _ (List.mem_cons_of_mem _ (List.mem_cons_of_mem _ (List.mem_cons_of_mem _ (List.mem_cons_of_mem _ (List.mem_cons_of_mem _ (List.mem_cons_of_mem _ (List.mem_cons_of_mem _ (List.mem_cons_of_mem _ (List.mem_cons_of_mem _ (List.mem_cons_of_mem _ (List.mem_cons_of_mem _ (List.mem_cons_of_mem _ (List.mem_cons_of_mem _ List.mem_cons_self))))))))))))))))))))))))))) (below_drew hb1)) (PT.below (hT.get (List.mem_cons_of_mem _ (List.mem_cons_of_mem _ (List.mem_cons_of_mem _ (List.mem_cons_of_mem _ (List.mem_cons_of_mem _ (List.mem_cons_of_mem _ (List.mem_cons_of_mem _ (List.mem_cons_of_mem _ (List.mem_cons_of_mem _ (List.mem_cons_of_mem _ (List.mem_cons_of_mem _ (List.mem_cons_of_mem _ (List.mem_cons_of_mem _ (List.mem_cons_of_mem _ (List.mem_cons_of_mem _ (List.mem_cons_of_mem _ (List.mem_cons_of_mem _ (List.mem_cons_of_mem _ (List.mem_cons_of_mem _ (List.mem_cons_of_mem _ (List.mem_cons_of_mem _ (List.mem_cons_of_mem _ (List.mem_cons_of_mem _ (List.mem_cons_of_mem _ (List.mem_cons_of_mem _ List.mem_cons_self)))))))))))))))))))))))))) (below_drew hb1))).mono fun e w2 ⟨pv, h1, h2, h3⟩ => ⟨pv, h1, h2, h3⟩
    ·have h7 : EV _ (fv 7) w1 := hp 7 (LC (by kernel_rfl))
     refine tyAt_yes (by simp [Region.wanted, yielded, h7]) ?_
     simp [tyUpon, execOp, go_sem, Act.eval, h7, hs0, hs1, hs2, Below.refl]
    ·have h10 : (PP sxy) (fv 10) w1 := hp 10 (LC (by kernel_rfl))
     have h11 : EV _ (fv 11) w1 := hp 11 (LC (by kernel_rfl))
     have h7 : EV _ (fv 7) w1 := hp 7 (LC (by kernel_rfl))
     refine tyAt_yes (by simp [Region.wanted, yielded, h11, h7]) ?_
     refine ty_call (f := 43) (args := #[fv 10, .slice g6 d6 g6c]) (by simp [execOp, go_sem, Act.eval, h11, h7]) ?_
     exact (D3.out (fv 10) (.slice g6 d6 g6c) w1 h10 (PT.below (hT.get (List.mem_cons_of_mem _ (List.mem_cons_of_mem _ (List.mem_cons_of_mem _ (List.mem_cons_of_mem _ (List.mem_cons_of_mem _ (List.mem_cons_of_mem _ (List.mem_cons_of_mem _ (List.mem_cons_of_mem _ (List.mem_cons_of_mem _ (List.mem_cons_of_mem _ (List.mem_cons_of_mem _ (List.mem_cons_of_mem _ (List.mem_cons_of_mem _ (List.mem_cons_of_mem _ (List.mem_cons_of_mem _ (List.mem_cons_of_mem _ (List.mem_cons_of_mem _ (List.mem_cons_of_mem _ (List.mem_cons_of_mem _ (List.mem_cons_of_mem _ (List.mem_cons_of_mem _ (List.mem_cons_of_mem _ (List.mem_cons_of_mem _ (List.mem_cons_of_mem _ List.mem_cons_self))))))))))))))))))))))))) (below_drew hb1))).mono fun e w2 ⟨h1, h2⟩ => ⟨_, h1, rfl, h2⟩
    ·have h7 : EV _ (fv 7) w1 := hp 7 (LC (by kernel_rfl))
     refine tyAt_yes (by simp [Region.wanted, yielded, h7]) ?_
     simp [tyUpon, execOp, go_sem, Act.eval, h7, hs0, hs1, hs2, Below.refl]
    ·have h7 : EV _ (fv 7) w1 := hp 7 (LC (by kernel_rfl))
     refine tyAt_yes (by simp [Region.wanted, yielded, h7]) ?_
     simp [tyUpon, execOp, go_sem, Act.eval, h7, hs0, hs1, hs2, Below.refl]
    ·have h13 : EV _ (fv 13) w1 := hp 13 (LC (by kernel_rfl))
     have h14 : EV _ (fv 14) w1 := hp 14 (LC (by kernel_rfl))
     have h7 : EV _ (fv 7) w1 := hp 7 (LC (by kernel_rfl))
     refine tyAt_yes (by simp [Region.wanted, yielded, h13, h14, h7]) ?_
     refine ty_call (f := 43) (args := #[.slice g4 d4 g4c, .slice g6 d6 g6c]) (by simp [execOp, go_sem, Act.eval, h13, h14, h7]) ?_
     exact (D4.out (.slice g4 d4 g4c) (.slice g6 d6 g6c) w1 (PT.below (hT.get (List.mem_cons_of_mem _ (List.mem_cons_of_mem _ (List.mem_cons_of_mem _ (List.mem_cons_of_mem _ (List.mem_cons_of_mem _ (List.mem_cons_of_mem _ (List.mem_cons_of_mem _ (List.mem_cons_of_mem _ (List.mem_cons_of_mem _ (List.mem_cons_of_mem _ (List.mem_cons_of_mem _ (List.mem_cons_of_mem _ (List.mem_cons_of_mem _ (List.mem_cons_of_mem _ (List.mem_cons_of_mem _ (List.mem_cons_of_mem _ (List.mem_cons_of_mem _ (List.mem_cons_of_mem _ (List.mem_cons_of_mem _ (List.mem_cons_of_mem _ (List.mem_cons_of_mem _ (List.mem_cons_of_mem _ (List.mem_cons_of_mem _ (List.mem_cons_of_mem _ (List.mem_cons_of_mem _ (List.mem_cons_of_mem _ List.mem_cons_self))))))))))))))))))))))))))) (below_drew hb1)) (PT.below (hT.get (List.mem_cons_of_mem _ (List.mem_cons_of_mem _ (List.mem_cons_of_mem _ (List.mem_cons_of_mem _ (List.mem_cons_of_mem _ (List.mem_cons_of_mem _ (List.mem_cons_of_mem _ (List.mem_cons_of_mem _ (List.mem_cons_of_mem _ (List.mem_cons_of_mem _ (List.mem_cons_of_mem _ (List.mem_cons_of_mem _ (List.mem_cons_of_mem _ (List.mem_cons_of_mem _ (List.mem_cons_of_mem _ (List.mem_cons_of_mem _ (List.mem_cons_of_mem _ (List.mem_cons_of_mem _ (List.mem_cons_of_mem _ (List.mem_cons_of_mem _ (List.mem_cons_of_mem _ (List.mem_cons_of_mem _ (List.mem_cons_of_mem _ (List.mem_cons_of_mem _ List.mem_cons_self))))))))))))))))))))))))) (below_drew hb1))).mono fun e w2 ⟨h1, h2⟩ => ⟨_, h1, rfl, h2⟩
    ·have h7 : EV _ (fv 7) w1 := hp 7 (LC (by kernel_rfl))
     refine tyAt_yes (by simp [Region.wanted, yielded, h7]) ?_
     simp [tyUpon, execOp, go_sem, Act.eval, h7, hs0, hs1, hs2, Below.refl]
    ·have h7 : EV _ (fv 7) w1 := hp 7 (LC (by kernel_rfl))
     refine tyAt_yes (by simp [Region.wanted, yielded, h7]) ?_
     simp [tyUpon, execOp, go_sem, Act.eval, h7, hs0, hs1, hs2, Below.refl]
    ·have h16 : EV _ (fv 16) w1 := hp 16 (LC (by kernel_rfl))
     have h17 : EV _ (fv 17) w1 := hp 17 (LC (by kernel_rfl))
     have h7 : EV _ (fv 7) w1 := hp 7 (LC (by kernel_rfl))
     refine tyAt_yes (by simp [Region.wanted, yielded, h16, h17, h7]) ?_
     refine ty_call (f := 43) (args := #[.slice g5 d5 g5c, .slice g6 d6 g6c]) (by simp [execOp, go_sem, Act.eval, h16, h17, h7]) ?_
     exact (D5.out (.slice g5 d5 g5c) (.slice g6 d6 g6c) w1 (PT.below (hT.get (List.mem_cons_of_mem _ (List.mem_cons_of_mem _ (List.mem_cons_of_mem _ (List.mem_cons_of_mem _ (List.mem_cons_of_mem _ (List.mem_cons_of_mem _ (List.mem_cons_of_mem _ (List.mem_cons_of_mem _ (List.mem_cons_of_mem _ (List.mem_cons_of_mem _ (List.mem_cons_of_mem _ (List.mem_cons_of_mem _ (List.mem_cons_of_mem _ (List.mem_cons_of_mem _ (List.mem_cons_of_mem _ (List.mem_cons_of_mem _ (List.mem_cons_of_mem _ (List.mem_cons_of_mem _ (List.mem_cons_of_mem _ (List.mem_cons_of_mem _ (List.mem_cons_of_mem _ (List.mem_cons_of_mem _ (List.mem_cons_of_mem _ (List.mem_cons_of_mem _ (List.mem_cons_of_mem _ List.mem_cons_self)))))))))))))))))))))))))) (below_drew hb1)) (PT.below (hT.get (List.mem_cons_of_mem _ (List.mem_cons_of_mem _ (List.mem_cons_of_mem _ (List.mem_cons_of_mem _ (List.mem_cons_of_mem _ (List.mem_cons_of_mem _ (List.mem_cons_of_mem _ (List.mem_cons_of_mem _ (List.mem_cons_of_mem _ (List.mem_cons_of_mem _ (List.mem_cons_of_mem _ (List.mem_cons_of_mem _ (List.mem_cons_of_mem _ (List.mem_cons_of_mem _ (List.mem_cons_of_mem _ (List.mem_cons_of_mem _ (List.mem_cons_of_mem _ (List.mem_cons_of_mem _ (List.mem_cons_of_mem _ (List.mem_cons_of_mem _ (List.mem_cons_of_mem _ (List.mem_cons_of_mem _ (List.mem_cons_of_mem _ (List.mem_cons_of_mem _ List.mem_cons_self))))))))))))))))))))))))) (below_drew hb1))).mono fun e w2 ⟨h1, h2⟩ => ⟨_, h1, rfl, h2⟩
    ·have h15 : EV _ (fv 15) w1 := hp 15 (LC (by kernel_rfl))
     have h18 : EV _ (fv 18) w1 := hp 18 (LC (by kernel_rfl))
     have h7 : EV _ (fv 7) w1 := hp 7 (LC (by kernel_rfl))
     refine tyAt_yes (by simp [Region.wanted, yielded, h15, h18, h7]) ?_
     refine ty_call (f := 35) (args := #[.agg #[.int .u64 ((zl e3.num : Nat) : Int), .string (zh e3.num), .bool (zs e3.num), .int .u64 ((lo (fe e3) : Nat) : Int), .string (hs (fe e3))], .agg #[.int .u64 ((zl e4.num : Nat) : Int), .string (zh e4.num), .bool (zs e4.num), .int .u64 ((lo (fe e4) : Nat) : Int), .string (hs (fe e4))]]) (by simp [execOp, go_sem, Act.eval, h15, h18, h7]) ?_
     exact (F3.out w1).mono fun e w2 ⟨h1, h2⟩ => ⟨_, h1, rfl, h2⟩
    ·have h12 : EV _ (fv 12) w1 := hp 12 (LC (by kernel_rfl))
     have h19 : EV _ (fv 19) w1 := hp 19 (LC (by kernel_rfl))
     have h7 : EV _ (fv 7) w1 := hp 7 (LC (by kernel_rfl))
     refine tyAt_yes (by simp [Region.wanted, yielded, h12, h19, h7]) ?_
     simp [tyUpon, execOp, go_sem, Act.eval, h12, h19, h7, hs0, hs1, hs2, Below.refl]
    ·have h7 : EV _ (fv 7) w1 := hp 7 (LC (by kernel_rfl))
     have h20 : EV _ (fv 20) w1 := hp 20 (LC (by kernel_rfl))
     refine tyAt_none rfl ?_
     simp [tyUpon, execOp, go_sem, Act.eval, h7, h20, hs0, hs1, hs2, Below.refl]
    ·have h21 : EV _ (fv 21) w1 := hp 21 (LC (by kernel_rfl))
     refine tyAt_none rfl ?_
     simp [tyUpon, execOp, go_sem, Act.eval, h21, hs0, hs1, hs2, Below.refl]
    ·have h22 : EV _ (fv 22) w1 := hp 22 (LC (by kernel_rfl))
     refine tyAt_yes (by simp [Region.wanted, yielded, h22]) ?_
     have hc := (hL0.call (below_drew hb1)).fc
     simp only [fcG, cellsF, neK, and_true, ne_eq, Nat.zero_add, Nat.reduceAdd] at hc
     simp [tyUpon, execOp, go_sem, Act.eval, hc, h22, hs0, hs1, hs2, Below.refl]
    ·have h22 : EV _ (fv 22) w1 := hp 22 (LC (by kernel_rfl))
     refine tyAt_yes (by simp [Region.wanted, yielded, h22]) ?_
     simp [tyUpon, execOp, go_sem, Act.eval, h22, hs0, hs1, hs2, Below.refl]
    ·have h23 : EV _ (fv 23) w1 := hp 23 (LC (by kernel_rfl))
     have h24 : EV _ (fv 24) w1 := hp 24 (LC (by kernel_rfl))
     have h22 : EV _ (fv 22) w1 := hp 22 (LC (by kernel_rfl))
     refine tyAt_yes (by simp [Region.wanted, yielded, h23, h24, h22]) ?_
     refine ty_call (f := 42) (args := #[.agg #[.int .u64 ((zl p.num : Nat) : Int), .string (zh p.num), .bool (zs p.num), .int .u64 ((lo (fe p) : Nat) : Int), .string (hs (fe p))], .slice g4 d4 g4c]) (by simp [execOp, go_sem, Act.eval, h23, h24, h22]) ?_
     exact (T4.out (.slice g4 d4 g4c) w1 (PT.below (hT.get (List.mem_cons_of_mem _ (List.mem_cons_of_mem _ (List.mem_cons_of_mem _ (List.mem_cons_of_mem _ (List.mem_cons_of_mem _ (List.mem_cons_of_mem _ (List.mem_cons_of_mem _ (List.mem_cons_of_mem _ (List.mem_cons_of_mem _ (List.mem_cons_of_mem _ (List.mem_cons_of_mem _ (List.mem_cons_of_mem _ (List.mem_cons_of_mem _ (List.mem_cons_of_mem _ (List.mem_cons_of_mem _ (List.mem_cons_of_mem _ (List.mem_cons_of_mem _ (List.mem_cons_of_mem _ (List.mem_cons_of_mem _ (List.mem_cons_of_mem _ (List.mem_cons_of_mem _ (List.mem_cons_of_mem _ (List.mem_cons_of_mem _ (List.mem_cons_of_mem _ (List.mem_cons_of_mem _ (List.mem_cons_of_mem _ List.mem_cons_self))))))))))))))))))))))))))) (below_drew hb1))).mono fun e w2 ⟨pv, h1, h2, h3⟩ => ⟨pv, h1, h2, h3⟩
    ·have h22 : EV _ (fv 22) w1 := hp 22 (LC (by kernel_rfl))
     refine tyAt_yes (by simp [Region.wanted, yielded, h22]) ?_
     simp [tyUpon, execOp, go_sem, Act.eval, h22, hs0, hs1, hs2, Below.refl]
    ·have h25 : (PP px) (fv 25) w1 := hp 25 (LC (by kernel_rfl))
     have h26 : EV _ (fv 26) w1 := hp 26 (LC (by kernel_rfl))
     have h22 : EV _ (fv 22) w1 := hp 22 (LC (by kernel_rfl))
     refine tyAt_yes (by simp [Region.wanted, yielded, h26, h22]) ?_
     refine ty_call (f := 43) (args := #[fv 25, .slice g6 d6 g6c]) (by simp [execOp, go_sem, Act.eval, h26, h22]) ?_
     exact (D6.out (fv 25) (.slice g6 d6 g6c) w1 h25 (PT.below (hT.get (List.mem_cons_of_mem _ (List.mem_cons_of_mem _ (List.mem_cons_of_mem _ (List.mem_cons_of_mem _ (List.mem_cons_of_mem _ (List.mem_cons_of_mem _ (List.mem_cons_of_mem _ (List.mem_cons_of_mem _ (List.mem_cons_of_mem _ (List.mem_cons_of_mem _ (List.mem_cons_of_mem _ (List.mem_cons_of_mem _ (List.mem_cons_of_mem _ (List.mem_cons_of_mem _ (List.mem_cons_of_mem _ (List.mem_cons_of_mem _ (List.mem_cons_of_mem _ (List.mem_cons_of_mem _ (List.mem_cons_of_mem _ (List.mem_cons_of_mem _ (List.mem_cons_of_mem _ (List.mem_cons_of_mem _ (List.mem_cons_of_mem _ (List.mem_cons_of_mem _ List.mem_cons_self))))))))))))))))))))))))) (below_drew hb1))).mono fun e w2 ⟨h1, h2⟩ => ⟨_, h1, rfl, h2⟩
    ·have h22 : EV _ (fv 22) w1 := hp 22 (LC (by kernel_rfl))
     refine tyAt_yes (by simp [Region.wanted, yielded, h22]) ?_
     have hc := (hL0.call (below_drew hb1)).fc
     simp only [fcG, cellsF, neK, and_true, ne_eq, Nat.zero_add, Nat.reduceAdd] at hc
     simp [tyUpon, execOp, go_sem, Act.eval, hc, h22, hs0, hs1, hs2, Below.refl]
    ·have h22 : EV _ (fv 22) w1 := hp 22 (LC (by kernel_rfl))
     refine tyAt_yes (by simp [Region.wanted, yielded, h22]) ?_
     simp [tyUpon, execOp, go_sem, Act.eval, h22, hs0, hs1, hs2, Below.refl]
    ·have h22 : EV _ (fv 22) w1 := hp 22 (LC (by kernel_rfl))
     refine tyAt_yes (by simp [Region.wanted, yielded, h22]) ?_
     simp [tyUpon, execOp, go_sem, Act.eval, h22, hs0, hs1, hs2, Below.refl]
    ·have h29 : EV _ (fv 29) w1 := hp 29 (LC (by kernel_rfl))
     have h30 : EV _ (fv 30) w1 := hp 30 (LC (by kernel_rfl))
     have h22 : EV _ (fv 22) w1 := hp 22 (LC (by kernel_rfl))
     refine tyAt_yes (by simp [Region.wanted, yielded, h29, h30, h22]) ?_
     refine ty_call (f := 43) (args := #[.slice g4 d4 g4c, .slice g6 d6 g6c]) (by simp [execOp, go_sem, Act.eval, h29, h30, h22]) ?_
     exact (D4.out (.slice g4 d4 g4c) (.slice g6 d6 g6c) w1 (PT.below (hT.get (List.mem_cons_of_mem _ (List.mem_cons_of_mem _ (List.mem_cons_of_mem _ (List.mem_cons_of_mem _ (List.mem_cons_of_mem _ (List.mem_cons_of_mem _ (List.mem_cons_of_mem _ (List.mem_cons_of_mem _ (List.mem_cons_of_mem _ (List.mem_cons_of_mem _ (List.mem_cons_of_mem _ (List.mem_cons_of_mem _ (List.mem_cons_of_mem _ (List.mem_cons_of_mem _ (List.mem_cons_of_mem _ (List.mem_cons_of_mem _ (List.mem_cons_of_mem _ (List.mem_cons_of_mem _ (List.mem_cons_of_mem _ (List.mem_cons_of_mem _ (List.mem_cons_of_mem _ (List.mem_cons_of_mem _ (List.mem_cons_of_mem _ (List.mem_cons_of_mem _ (List.mem_cons_of_mem _ (List.mem_cons_of_mem _ List.mem_cons_self))))))))))))))))))))))))))) (below_drew hb1)) (PT.below (hT.get (List.mem_cons_of_mem _ (List.mem_cons_of_mem _ (List.mem_cons_of_mem _ (List.mem_cons_of_mem _ (List.mem_cons_of_mem _ (List.mem_cons_of_mem _ (List.mem_cons_of_mem _ (List.mem_cons_of_mem _ (List.mem_cons_of_mem _ (List.mem_cons_of_mem _ (List.mem_cons_of_mem _ (List.mem_cons_of_mem _ (List.mem_cons_of_mem _ (List.mem_cons_of_mem _ (List.mem_cons_of_mem _ (List.mem_cons_of_mem _ (List.mem_cons_of_mem _ (List.mem_cons_of_mem _ (List.mem_cons_of_mem _ (List.mem_cons_of_mem _ (List.mem_cons_of_mem _ (List.mem_cons_of_mem _ (List.mem_cons_of_mem _ (List.mem_cons_of_mem _ List.mem_cons_self))))))))))))))))))))))))) (below_drew hb1))).mono fun e w2 ⟨h1, h2⟩ => ⟨_, h1, rfl, h2⟩
    ·have h28 : EV _ (fv 28) w1 := hp 28 (LC (by kernel_rfl))
     have h31 : EV _ (fv 31) w1 := hp 31 (LC (by kernel_rfl))
     have h22 : EV _ (fv 22) w1 := hp 22 (LC (by kernel_rfl))
     refine tyAt_yes (by simp [Region.wanted, yielded, h28, h31, h22]) ?_
     refine ty_call (f := 36) (args := #[.agg #[.int .u64 ((zl p.num : Nat) : Int), .string (zh p.num), .bool (zs p.num), .int .u64 ((lo (fe p) : Nat) : Int), .string (hs (fe p))], .agg #[.int .u64 ((zl e3.num : Nat) : Int), .string (zh e3.num), .bool (zs e3.num), .int .u64 ((lo (fe e3) : Nat) : Int), .string (hs (fe e3))]]) (by simp [execOp, go_sem, Act.eval, h28, h31, h22]) ?_
     exact (F4.out w1).mono fun e w2 ⟨h1, h2⟩ => ⟨_, h1, rfl, h2⟩
    ·have h27 : EV _ (fv 27) w1 := hp 27 (LC (by kernel_rfl))
     have h32 : EV _ (fv 32) w1 := hp 32 (LC (by kernel_rfl))
     have h22 : EV _ (fv 22) w1 := hp 22 (LC (by kernel_rfl))
     refine tyAt_yes (by simp [Region.wanted, yielded, h27, h32, h22]) ?_
     simp [tyUpon, execOp, go_sem, Act.eval, h27, h32, h22, hs0, hs1, hs2, Below.refl]
    ·have h22 : EV _ (fv 22) w1 := hp 22 (LC (by kernel_rfl))
     have h33 : EV _ (fv 33) w1 := hp 33 (LC (by kernel_rfl))
     refine tyAt_none rfl ?_
     simp [tyUpon, execOp, go_sem, Act.eval, h22, h33, hs0, hs1, hs2, Below.refl]
    ·have h34 : EV _ (fv 34) w1 := hp 34 (LC (by kernel_rfl))
     refine tyAt_none rfl ?_
     simp [tyUpon, execOp, go_sem, Act.eval, h34, hs0, hs1, hs2, Below.refl]
    ·have h35 : EV _ (fv 35) w1 := hp 35 (LC (by kernel_rfl))
     refine tyAt_yes (by simp [Region.wanted, yielded, h35]) ?_
     refine ty_call (f := 12) (args := #[]) (by simp [execOp, go_sem, Act.eval, h35]) ?_
     exact (HW.out w1 (hKT.out.at ((hL0.call (below_drew hb1)).bl) kKT)).mono fun e w2 ⟨h1, h2⟩ => ⟨_, h1, rfl, h2⟩
    ·have h35 : EV _ (fv 35) w1 := hp 35 (LC (by kernel_rfl))
     have h36 : EV _ (fv 36) w1 := hp 36 (LC (by kernel_rfl))
     refine tyAt_none rfl ?_
     simp [tyUpon, execOp, go_sem, Act.eval, h35, h36, hs0, hs1, hs2, Below.refl]
    ·have h37 : EV _ (fv 37) w1 := hp 37 (LC (by kernel_rfl))
     refine tyAt_none rfl ?_
     simp [tyUpon, execOp, go_sem, Act.eval, h37, hs0, hs1, hs2, Below.refl]
   ·intro fv x23 hb1 hv
    have e0 : fv 0 = _ := hv 0 (by omega)
    have e1 : fv 1 = _ := hv 1 (by omega)
    have e2 : fv 2 = _ := hv 2 (by omega)
    have e3 : fv 3 = _ := hv 3 (by omega)
    have e4 : fv 4 = _ := hv 4 (by omega)
    have e5 : fv 5 = _ := hv 5 (by omega)
    have e6 : fv 6 = _ := hv 6 (by omega)
    have e7 : fv 7 = _ := hv 7 (by omega)
    have e8 : fv 8 = _ := hv 8 (by omega)
    have e9 : fv 9 = _ := hv 9 (by omega)
    have q10 : PT x23 (fv 10) sxy := hv 10 (by omega)
    obtain ⟨g31, d31, g31c, e10, -⟩ := pt_form q10
    rw [e10] at q10
    have e11 : fv 11 = _ := hv 11 (by omega)
    have e12 : fv 12 = _ := hv 12 (by omega)
    have e13 : fv 13 = _ := hv 13 (by omega)
    have e14 : fv 14 = _ := hv 14 (by omega)
    have e15 : fv 15 = _ := hv 15 (by omega)
    have e16 : fv 16 = _ := hv 16 (by omega)
    have e17 : fv 17 = _ := hv 17 (by omega)
    have e18 : fv 18 = _ := hv 18 (by omega)
    have e19 : fv 19 = _ := hv 19 (by omega)
    have e20 : fv 20 = _ := hv 20 (by omega)
    have e21 : fv 21 = _ := hv 21 (by omega)
    have e22 : fv 22 = _ := hv 22 (by omega)
    have e23 : fv 23 = _ := hv 23 (by omega)
    have e24 : fv 24 = _ := hv 24 (by omega)
    have q25 : PT x23 (fv 25) px := hv 25 (by omega)
    obtain ⟨g32, d32, g32c, e25, -⟩ := pt_form q25
    rw [e25] at q25
    have e26 : fv 26 = _ := hv 26 (by omega)
    have e27 : fv 27 = _ := hv 27 (by omega)
    have e28 : fv 28 = _ := hv 28 (by omega)
    have e29 : fv 29 = _ := hv 29 (by omega)
    have e30 : fv 30 = _ := hv 30 (by omega)
    have e31 : fv 31 = _ := hv 31 (by omega)
    have e32 : fv 32 = _ := hv 32 (by omega)
    have e33 : fv 33 = _ := hv 33 (by omega)
    have e34 : fv 34 = _ := hv 34 (by omega)
    have e35 : fv 35 = _ := hv 35 (by omega)
    have e36 : fv 36 = _ := hv 36 (by omega)
    have e37 : fv 37 = _ := hv 37 (by omega)
    have e38 : fv 38 = _ := hv 38 (by omega)
    simp only [List.take_succ_cons, List.take_zero, putsV, Act.put, List.setIfInBounds_toArray, List.set_cons_succ, List.set_cons_zero, List.drop_succ_cons, List.drop_zero, Nat.zero_add, Nat.reduceAdd, e0, e1, e2, e3, e4, e5, e6, e7, e8, e9, e10, e11, e12, e13, e14, e15, e16, e17, e18, e19, e20, e21, e22, e23, e24, e25, e26, e27, e28, e29, e30, e31, e32, e33, e34, e35, e36, e37, e38]
    replace hL0 := hL0.call (below_drew hb1)
    replace hT := hT.call (below_drew hb1)
    replace hT := hT.cons q10
    replace hT := hT.cons q25
    clear e0 e1 e2 e3 e4 e5 e6 e7 e8 e9 e10 e11 e12 e13 e14 e15 e16 e17 e18 e19 e20 e21 e22 e23 e24 e25 e26 e27 e28 e29 e30 e31 e32 e33 e34 e35 e36 e37 e38 hb1 hv q10 q25 fv
    go_wp2_with fail
    exact bodyPost_ret (v := .bool true) (by simp [results, Tryz.results5, go_sem]) rfl ⟨rfl, hL0.bl⟩
end Go.Proofs.YtoahpkelajimfaaGreatDoor
namespace Go.Proofs.YtoahpkelajimfaaGreatDoor
open Go.RowKit
attribute [local irreducible] lo hs sm s64 c64 d64 b64 mh ml pd pc qd qc val hiB str cmpI srD lz nb zl zh zs fe qmade
theorem sum_comm (n : Nat) (x y : List Rat) : sumL n y x = sumL n x y := tab_ext fun i _ => by grind
theorem sum_assoc (n : Nat) (x y z : List Rat) : sumL n x (sumL n y z) = sumL n (sumL n x y) z := tab_ext fun i hi => by rw [gv_sum hi, gv_sum hi]; grind
theorem dif_sum (n : Nat) (x y : List Rat) : sumL n x (mulL n (-1) y) = difL n x y := tab_ext fun i hi => by rw [gv_mul hi]; grind
theorem mul_nul (n : Nat) (x : List Rat) : mulL n 0 x = nulL n := tab_ext fun i hi => by grind
theorem sum_nul {n : Nat} {x : List Rat} (hx : x.length = n) : sumL n x (nulL n) = x := (gv_ext hx fun i hi => by rw [gv_nul hi]; grind).symm
theorem mul_add (n : Nat) (p q : Rat) (x : List Rat) : sumL n (mulL n p x) (mulL n q x) = mulL n (p + q) x := tab_ext fun i hi => by rw [gv_mul hi, gv_mul hi]; grind
theorem mul_sum (n : Nat) (p : Rat) (x y : List Rat) : sumL n (mulL n p x) (mulL n p y) = mulL n p (sumL n x y) := tab_ext fun i hi => by rw [gv_mul hi, gv_mul hi, gv_sum hi]; grind
theorem mul_mul (n : Nat) (p q : Rat) (x : List Rat) : mulL n p (mulL n q x) = mulL n (p * q) x := tab_ext fun i hi => by rw [gv_mul hi]; grind
theorem dot_comm (n : Nat) (x y : List Rat) : dotL n y x = dotL n x y := bs_congr fun i _ => Rat.mul_comm _ _
theorem dot_sum (n : Nat) (x y z : List Rat) : dotL n (sumL n x y) z = dotL n x z + dotL n y z := by
 unfold dotL
 rw [← bs_add]
 exact bs_congr fun i hi => by rw [gv_sum hi]; grind
theorem dot_mul (n : Nat) (p : Rat) (x z : List Rat) : dotL n (mulL n p x) z = p * dotL n x z := by
 unfold dotL
 rw [← bs_mul]
 exact bs_congr fun i hi => by rw [gv_mul hi]; grind
set_option maxHeartbeats 4000000 in
theorem vspace_any (l1 l2 : Int × Int) (la lb lg : List (Int × Int)) (h1 : QR l1) (h2 : QR l2) (al am an : Option Addr) (nl cl nm cm nn cn : Nat) (w : World) (hv0 : QV w (.slice al nl cl) la) (hu : QV w (.slice am nm cm) lb) (hg : QV w (.slice an nn cn) lg) (ht : Tab w) :
  Calls Tryz.prog 5 #[.agg #[.int .i64 l1.1, .int .u32 l1.2], .agg #[.int .i64 l2.1, .int .u32 l2.2], .slice al nl cl, .slice am nm cm, .slice an nn cn] w fun e w' => e = .returned (.bool true) ∧ Below w.heap.size w w' := by
 by_cases g1 : 20 < nl
 ·exact vspace_l1 al am an nl cl nm cm nn cn 0 _ _ _ _ Tab Keeps.tab vworks_any (decide_eq_true (by omega)) (decide_eq_true g1) w ht
 by_cases g2 : 20 < nm
 ·exact vspace_l2 al am an nl cl nm cm nn cn 0 _ _ _ _ Tab Keeps.tab vworks_any (decide_eq_false (by omega)) (decide_eq_false g1) (decide_eq_true (by omega)) (decide_eq_true g2) w ht
 by_cases g3 : 20 < nn
 ·exact vspace_l3 al am an nl cl nm cm nn cn 0 _ _ _ _ Tab Keeps.tab vworks_any (decide_eq_false (by omega)) (decide_eq_false g1) (decide_eq_false (by omega)) (decide_eq_false g2) (decide_eq_true (by omega)) (decide_eq_true g3) w ht
 obtain ⟨n, hn⟩ : ∃ n, n = min (min nl nm) nn := ⟨_, rfl⟩
 have gx := gv_of (take_len (qv_len hv0) (by omega : n ≤ nl)) (take_rg (qv_rg hv0) n)
 have gy := gv_of (take_len (qv_len hu) (by omega : n ≤ nm)) (take_rg (qv_rg hu) n)
 have gz := gv_of (take_len (qv_len hg) (by omega : n ≤ nn)) (take_rg (qv_rg hg) n)
 have hA := fun w hv => vVG (la.take n) (by rw [take_len (qv_len hv0) (by omega)]; omega) (.slice al n cl) w hv
 have hB := fun w hv => vVG (lb.take n) (by rw [take_len (qv_len hu) (by omega)]; omega) (.slice am n cm) w hv
 have hC := fun w hv => vVG (lg.take n) (by rw [take_len (qv_len hg) (by omega)]; omega) (.slice an n cn) w hv
 generalize (la.take n).map qm = x at gx hA
 generalize (lb.take n).map qm = y at gy hB
 generalize (lg.take n).map qm = z at gz hC
 have sp := qm_sz h1
 have sq := qm_sz h2
 have HQ1 := fun w => qmof h1 w
 have HQ2 := fun w => qmof h2 w
 generalize qm l1 = p at sp HQ1
 generalize qm l2 = q at sq HQ2
 have sm1 : Sz (-1 : Rat) 1 := szc _ (by decide +kernel) (by decide +kernel)
 have s0 : Sz (0 : Rat) 1 := szc _ (by decide +kernel) (by decide +kernel)
 have HI := fun w => intF (-1) (by decide) (by decide) w
 rw [show (((-1 : Int)) : Rat) = -1 from rfl] at HI
 have T2 := fun p w hp => ltimesG s0 gx (by omega) (by omega) (by omega) (mul_nul n x) p w hp
 rw [frV_q0] at T2
 have sxy := gx.sum gy
 have sA := sxy.sum gz
 have syz := gy.sum gz
 have sny := GV.mul sm1 gy
 have les := gx.dif gy
 have nul := GV.nul n
 have spq := sp.add sq
 have px := GV.mul sp gx
 have qx := GV.mul sq gx
 have py := GV.mul sp gy
 have t1 := GV.mul spq gx
 have t3 := GV.mul sp sxy
 have smq := sp.mul sq
 have t5 := GV.mul smq gx
 have e3 := gx.dot gz
 have e4 := gy.dot gz
 refine vspace_w al am an nl cl nm cm nn cn n l1.1 l1.2 l2.1 l2.2 x y z (difL n x y) (nulL n) (sumL n x y) (sumL n (sumL n x y) z) (sumL n y z) (mulL n (-1) y) (mulL n (p + q) x) (mulL n p x) (mulL n q x) (mulL n p (sumL n x y)) (mulL n p y) (mulL n (p * q) x)
  p q (-1) (p + q) (p * q) (dotL n x y) (dotL n (sumL n x y) z) (dotL n x z) (dotL n y z) (dotL n (mulL n p x) z)
  (fun w => QV w (.slice al n cl) (la.take n)) (QV.keeps _ _) hA (fun w => QV w (.slice am n cm) (lb.take n)) (QV.keeps _ _) hB (fun w => QV w (.slice an n cn) (lg.take n)) (QV.keeps _ _) hC
  HQ1
  HQ2
  (fun u1 u2 w h g => subG gx gy (by omega) (by omega) (by omega) u1 u2 w h g)
  (fun w => zeroG (by omega) w)
  (fun u1 u2 w h g => laddG gx gy (by omega) (by omega) (by omega) (rfl) u1 u2 w h g)
  (fun u1 u2 w h g => laddG gy gx (by omega) (by omega) (by omega) (sum_comm n x y) u1 u2 w h g)
  (fun u1 u2 w h g => sameT sxy (by omega) u1 u2 w h g)
  (fun u1 u2 w h g => laddG sxy gz (by omega) (by omega) (by omega) (rfl) u1 u2 w h g)
  (fun u1 u2 w h g => laddG gy gz (by omega) (by omega) (by omega) (rfl) u1 u2 w h g)
  (fun u1 u2 w h g => laddG gx syz (by omega) (by omega) (by omega) (sum_assoc n x y z) u1 u2 w h g)
  (fun u1 u2 w h g => sameT sA (by omega) u1 u2 w h g)
  HI
  (fun u1 w h => ltimesG sm1 gy (by omega) (by omega) (by omega) (rfl) u1 w h)
  (fun u1 u2 w h g => laddG gx sny (by omega) (by omega) (by omega) (dif_sum n x y) u1 u2 w h g)
  (fun u1 u2 w h g => sameT les (by omega) u1 u2 w h g)
  T2
  (fun u1 u2 w h g => sameT nul (by omega) u1 u2 w h g)
  (fun u1 u2 w h g => laddG gx nul (by omega) (by omega) (by omega) (sum_nul gx.len) u1 u2 w h g)
  (fun u1 u2 w h g => sameT gx (by omega) u1 u2 w h g)
  (fun w => addF _ _ 100000 ((sp).mono (by omega)) ((sq).mono (by omega)) (by omega) w)
  (fun u1 w h => ltimesG spq gx (by omega) (by omega) (by omega) (rfl) u1 w h)
  (fun u1 w h => ltimesG sp gx (by omega) (by omega) (by omega) (rfl) u1 w h)
  (fun u1 w h => ltimesG sq gx (by omega) (by omega) (by omega) (rfl) u1 w h)
  (fun u1 u2 w h g => laddG px qx (by omega) (by omega) (by omega) (mul_add n p q x) u1 u2 w h g)
  (fun u1 u2 w h g => sameT t1 (by omega) u1 u2 w h g)
  (fun u1 w h => ltimesG sp sxy (by omega) (by omega) (by omega) (rfl) u1 w h)
  (fun u1 w h => ltimesG sp gy (by omega) (by omega) (by omega) (rfl) u1 w h)
  (fun u1 u2 w h g => laddG px py (by omega) (by omega) (by omega) (mul_sum n p x y) u1 u2 w h g)
  (fun u1 u2 w h g => sameT t3 (by omega) u1 u2 w h g)
  (fun w => mulF _ _ 100000 ((sp).mono (by omega)) ((sq).mono (by omega)) (by omega) w)
  (fun u1 w h => ltimesG smq gx (by omega) (by omega) (by omega) (rfl) u1 w h)
  (fun u1 w h => ltimesG sp qx (by omega) (by omega) (by omega) (mul_mul n p q x) u1 w h)
  (fun u1 u2 w h g => sameT t5 (by omega) u1 u2 w h g)
  (fun u1 u2 w h g => ldotG gx gy (by omega) (by omega) (by omega) (rfl) u1 u2 w h g)
  (fun u1 u2 w h g => ldotG gy gx (by omega) (by omega) (by omega) (dot_comm n x y) u1 u2 w h g)
  (fun u1 u2 w h g => ldotG sxy gz (by omega) (by omega) (by omega) (rfl) u1 u2 w h g)
  (fun u1 u2 w h g => ldotG gx gz (by omega) (by omega) (by omega) (rfl) u1 u2 w h g)
  (fun u1 u2 w h g => ldotG gy gz (by omega) (by omega) (by omega) (rfl) u1 u2 w h g)
  ?_
  (fun u1 u2 w h g => ldotG px gz (by omega) (by omega) (by omega) (rfl) u1 u2 w h g)
  ?_
  Tab Keeps.tab vworks_any (decide_eq_false (by omega)) (decide_eq_false g1) (decide_eq_false (by omega)) (decide_eq_false g2) (decide_eq_false (by omega)) (decide_eq_false g3)
  (by split <;> split <;> omega) (qv_slice hv0 n (by omega)) (qv_slice hu n (by omega)) (qv_slice hg n (by omega)) w (hv0.take n (by omega)) (hu.take n (by omega)) (hg.take n (by omega)) ht
 ·intro w
  rw [dot_sum]
  exact addF _ _ 100000 (e3.mono (by omega)) (e4.mono (by omega)) (by omega) w
 ·intro w
  rw [dot_mul]
  exact mulF _ _ 100000 (sp.mono (by omega)) (e3.mono (by omega)) (by omega) w
end Go.Proofs.YtoahpkelajimfaaGreatDoor
namespace Go.Proofs.YtoahpkelajimfaaGreatDoor
open Go.ChangeShapes Go.WideShapes Go.ChangeAt Go.RowKit
theorem own : ownKnob Tryz.prog.godebug = none := by kernel_rfl
theorem laidOut : laidOutB Tryz.prog = true := by kernel_rfl
theorem cells24 : Tryz.prog.cellsOf 32 = 1 := by kernel_rfl
/-- The variables that every row of this layer lists. -/
def laidAll : List (String × DataW Unit) := [("math/bits.deBruijn32tab", Rows.laid_math_bits_deBruijn32tab), ("math/bits.deBruijn64tab", Rows.laid_math_bits_deBruijn64tab), ("internal/strconv.uint64pow10", Rows.laid_internal_strconv_uint64pow10)]
theorem gPow : Tryz.prog.globalNamed "internal/strconv.uint64pow10" = some 2 := by kernel_rfl
theorem gPowType : (Tryz.prog.globals[2]?).map (·.type) = some 220 := by kernel_rfl
theorem cells20 : Tryz.prog.cellsOf 220 = 20 := by kernel_rfl
theorem tab_of {W : World} (h : laidMetH Tryz.prog laidAll W) : Tab W := by
 have h1 := laidMetH.filter (fun x => x.1 == "internal/strconv.uint64pow10") h
 have e : laidAll.filter (fun x => x.1 == "internal/strconv.uint64pow10") = [("internal/strconv.uint64pow10", Rows.laid_internal_strconv_uint64pow10)] := by kernel_rfl
 rw [e, MakeChecks.laidMetH_plain _ _ _ (by kernel_rfl)] at h1
 exact Lib.tabIs_of_head (rest := []) gPow gPowType Tryz.underlying220 Tryz.underlying32 cells24 cells20 (show laidMet Tryz.prog (("internal/strconv.uint64pow10", Lib.tabData .u64 Lib.pow10Tab) :: []) W from h1)
end Go.Proofs.YtoahpkelajimfaaGreatDoor
namespace Go.Proofs.YtoahpkelajimfaaGreatDoor
open Go.ChangeShapes Go.WideShapes Go.ChangeAt Go.RowKit Go.Joins
set_option maxRecDepth 100000 in
theorem cellsQ : Tryz.prog.cellsOf 24 = 2 := by kernel_rfl
theorem cellsI : Tryz.prog.cellsOf 2 = 1 := by kernel_rfl
theorem cellsU : Tryz.prog.cellsOf 22 = 1 := by kernel_rfl
set_option maxRecDepth 100000 in
theorem q_of {H : Type} {enc : TypeId × Value → H} {W : World} {base : Nat} {v : Value} {d : DataW H} {p : List MemPlace} (hv : Value.okWide Tryz.prog W .any base 24 v)
  (h : DataW.Trod enc Tryz.prog W 0 (fun _ => true) true 24 v d p) : ∃ n e : Int, v = .agg #[.int .i64 n, .int .u32 e] ∧ (-9223372036854775808 ≤ n ∧ n < 9223372036854775808) ∧ (0 ≤ e ∧ e < 4294967296) := by
 obtain ⟨v0, v1, y0, y1, m, rfl, rfl, rfl, h0, h1⟩ := open_agg2 Tryz.underlying24 (by kernel_rfl) cellsQ hv h
 obtain ⟨n, e0, -, f0⟩ := DataW.trod_int Tryz.underlying2 h0
 obtain ⟨e, e1, -, f1⟩ := DataW.trod_int Tryz.underlying22 h1
 simp only [List.cons.injEq, and_true] at e0 e1
 subst e0 e1
 have b0 := bounds_i64 f0
 have b1 := bounds_u32 f1
 exact ⟨n, e, rfl, by omega, by omega⟩
end Go.Proofs.YtoahpkelajimfaaGreatDoor
namespace Go.Proofs.YtoahpkelajimfaaGreatDoor
open Go.ChangeShapes Go.WideShapes Go.ChangeAt Go.RowKit Go.Joins
section
variable {H : Type} {enc : TypeId × Value → H} {P : Program} {w : World} {base : Nat} {spare : Nat → Bool} {held : Bool}
theorem trodAll_five {t t1 t2 t3 t4 : TypeId} {args : Array Value} {ds : List (DataW H)} {ps : List MemPlace} (h : DataW.TrodAll enc P w base spare held [t, t1, t2, t3, t4] args.toList ds ps) :
  ∃ v v1 v2 v3 v4 d d1 d2 d3 d4 p p1 p2 p3 p4, args = #[v, v1, v2, v3, v4] ∧ ds = [d, d1, d2, d3, d4] ∧ ps = p ++ p1 ++ p2 ++ p3 ++ p4 ∧ DataW.Trod enc P w base spare held t v d p ∧ DataW.Trod enc P w base spare held t1 v1 d1 p1 ∧ DataW.Trod enc P w base spare held t2 v2 d2 p2 ∧ DataW.Trod enc P w base spare held t3 v3 d3 p3 ∧ DataW.Trod enc P w base spare held t4 v4 d4 p4 := by
 obtain ⟨v, vs, d, ds1, p, q, hargs, rfl, rfl, hd, hr⟩ := trodAll_cons h
 obtain ⟨v1, vs1, d1, ds2, p1, q1, rfl, rfl, rfl, hd1, hr1⟩ := trodAll_cons hr
 obtain ⟨v2, vs2, d2, ds3, p2, q2, rfl, rfl, rfl, hd2, hr2⟩ := trodAll_cons hr1
 obtain ⟨v3, vs3, d3, ds4, p3, q3, rfl, rfl, rfl, hd3, hr3⟩ := trodAll_cons hr2
 obtain ⟨v4, vs4, d4, ds5, p4, q4, rfl, rfl, rfl, hd4, hr4⟩ := trodAll_cons hr3
 obtain ⟨rfl, rfl, rfl⟩ := trodAll_nil hr4
 exact ⟨v, v1, v2, v3, v4, d, d1, d2, d3, d4, p, p1, p2, p3, p4, by cases args; simp_all, rfl, by simp, hd, hd1, hd2, hd3, hd4⟩
theorem trodAll_mk5 {t t1 t2 t3 t4 : TypeId} {v v1 v2 v3 v4 : Value} {d d1 d2 d3 d4 : DataW H} {p p1 p2 p3 p4 : List MemPlace} (h : DataW.Trod enc P w base spare held t v d p) (h1 : DataW.Trod enc P w base spare held t1 v1 d1 p1)
  (h2 : DataW.Trod enc P w base spare held t2 v2 d2 p2) (h3 : DataW.Trod enc P w base spare held t3 v3 d3 p3) (h4 : DataW.Trod enc P w base spare held t4 v4 d4 p4) : DataW.TrodAll enc P w base spare held [t, t1, t2, t3, t4] [v, v1, v2, v3, v4] [d, d1, d2, d3, d4] (p ++ (p1 ++ (p2 ++ (p3 ++ p4)))) := ⟨p, p1 ++ (p2 ++ (p3 ++ p4)), h, trodAll_mk4 h1 h2 h3 h4, rfl⟩
end
theorem addaddV (a : Addr) (i j : Nat) : (a.add i).add j = a.add (i + j) := by
 unfold Addr.add
 by_cases h : i = 0
 ·subst h; simp
 ·by_cases h2 : j = 0
  ·subst h2; simp [h]
  ·simp [h, h2, Nat.add_assoc]
set_option maxRecDepth 100000 in
theorem qv_of {H : Type} {enc : TypeId × Value → H} {W : World} {base : Nat} {v : Value} {d : DataW H} {p : List MemPlace} (hv : Value.okWide Tryz.prog W .any base 25 v)
  (h : DataW.Trod enc Tryz.prog W 0 (fun _ => true) true 25 v d p) : ∃ a n c l, v = .slice a n c ∧ QV W (.slice a n c) l := by
 obtain ⟨a0, len, cap, rfl⟩ := okWide_slice Tryz.underlying25 hv
 obtain ⟨fuel, hf⟩ := h
 rcases Go.Deep.open_slice_pairs Tryz.underlying25 Tryz.underlying24 cellsQ rfl rfl cellsI cellsU hf with ⟨hcs, hx⟩ | ⟨a, len', cap', m, n, V0, V1, D0, D1, P0, P1, hcs, _, hl, _, hm, hx, hcell⟩
 ·simp [Value.cells] at hcs
  obtain ⟨rfl, rfl, rfl⟩ := hcs
  exact ⟨none, 0, 0, [], rfl, none, 0, rfl, Nat.le_refl _, fun _ => rfl, fun h => absurd h (Nat.lt_irrefl _)⟩
 ·simp [Value.cells] at hcs
  obtain ⟨rfl, rfl, rfl⟩ := hcs
  simp only [if_true] at hm
  by_cases h0 : len = 0
  ·subst h0
   exact ⟨some a, 0, cap, [], rfl, some a, cap, rfl, Nat.zero_le _, (fun h => by cases h), fun h => absurd h (Nat.lt_irrefl _)⟩
  have each : ∀ i, i < len → ∃ z : Int × Int, W.cell? (a.add (i * 2)) = some (.int .i64 z.1) ∧ W.cell? ((a.add (i * 2)).add 1) = some (.int .u32 z.2) ∧ (-9223372036854775808 ≤ z.1 ∧ z.1 < 9223372036854775808) ∧ 0 ≤ z.2 ∧ z.2 < 4294967296 := by
   intro i hi
   obtain ⟨e0, e1, g0, g1⟩ := hcell i (by omega)
   obtain ⟨x, y0, -, f0⟩ := DataW.trod_int Tryz.underlying2 g0
   obtain ⟨y, y1, -, f1⟩ := DataW.trod_int Tryz.underlying22 g1
   simp only [List.cons.injEq, and_true] at y0 y1
   rw [y0] at e0
   rw [y1] at e1
   have b0 := bounds_i64 f0
   have b1 := bounds_u32 f1
   exact ⟨(x, y), e0, by rw [addaddV]; exact e1, by omega, by omega⟩
  obtain ⟨q, hq⟩ := Go.Deep.choose_lt each
  refine ⟨some a, len, cap, (List.range len).map q, rfl, some a, cap, by simp, by simpa using hl, (fun h => by cases h), fun _ => ⟨a, rfl, fun i hi => ?_, fun i hi => ?_, fun z hz => ?_, ?_⟩⟩
  ·have hi' : i < len := by simpa using hi
   have := (hq i hi').1
   simpa using this
  ·have hi' : i < len := by simpa using hi
   have := (hq i hi').2.1
   simpa using this
  ·obtain ⟨i, hi, rfl⟩ := List.mem_map.1 hz
   exact (hq i (List.mem_range.1 hi)).2.2
  ·have e := (hq 0 (by omega)).1
   have := World.block_lt_of_cell? W _ e
   rw [add_blk] at this
   exact this
end Go.Proofs.YtoahpkelajimfaaGreatDoor
