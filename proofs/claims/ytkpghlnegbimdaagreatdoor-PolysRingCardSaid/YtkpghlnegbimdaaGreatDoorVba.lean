/-
  The law answers true at every input, and leaves its arguments as they were: a part of the proof. CONDITIONS: the package-level tables start as the program's text lays them (the card ties them).
-/
import Derived.Test.YtkpghlnegbimdaaGreatDoorZae
set_option linter.unusedVariables false
set_option linter.unusedSimpArgs false
set_option maxHeartbeats 16000000
set_option maxRecDepth 100000
namespace Go.Proofs.YtkpghlnegbimdaaGreatDoor
open Go.RowKit
theorem new_frac (w : World) : (Instr.alloc 47 true (.tuple #[])).run Tryz.prog w = .ok (.pointer (some ⟨w.heap.size, 0, none⟩)) (w.alloc (.cells #[.int .u64 0, .string ⟨#[]⟩, .bool false, .int .u64 0, .string ⟨#[]⟩] 47)) := by
 simp [go_sem, Instr.alloc]
theorem put_frac (i0 i : Int) (s0 s : ByteArray) (b0 b : Bool) (j0 j : Int) (t0 t : ByteArray) (w : World) (k : Nat) (h : Hd w k [.int .u64 i0, .string s0, .bool b0, .int .u64 j0, .string t0]) :
  ∃ w', (Instr.storeAt 47 (.pointer (some ⟨k, 0, none⟩)) (.agg #[.int .u64 i, .string s, .bool b, .int .u64 j, .string t])).run Tryz.prog w = .ok () w' ∧ Hd w' k [.int .u64 i, .string s, .bool b, .int .u64 j, .string t] ∧ Upd k w w' := by
 have h0 : w.cell? ⟨k, 0, none⟩ = some (.int .u64 i0) := h.cell 0 (by simp)
 have h1 : w.cell? ⟨k, 1, none⟩ = some (.string s0) := h.cell 1 (by simp)
 have h2 : w.cell? ⟨k, 2, none⟩ = some (.bool b0) := h.cell 2 (by simp)
 have h3 : w.cell? ⟨k, 3, none⟩ = some (.int .u64 j0) := h.cell 3 (by simp)
 have h4 : w.cell? ⟨k, 4, none⟩ = some (.string t0) := h.cell 4 (by simp)
 have hf := h.frz
 refine ⟨_, ?_, setAll_hd [.int .u64 i, .string s, .bool b, .int .u64 j, .string t] 0 w k [] [.int .u64 i0, .string s0, .bool b0, .int .u64 j0, .string t0] rfl rfl h, ((((((Upd.refl k w).setCell 0 _).setCell 1 _).setCell 2 _).setCell 3 _).setCell 4 _)⟩
 simp [go_sem, Instr.storeAt, Instr.sureAddr, h0, h1, h2, h3, h4, hf, setAll]
end Go.Proofs.YtkpghlnegbimdaaGreatDoor
namespace Go.Proofs.YtkpghlnegbimdaaGreatDoor
open Go.RowKit
theorem prod_add (p q r : TL) : Eqv (prodL p (q ++ r)) (prodL p q ++ prodL p r) := fun F => by
 rw [pair_append, pair_prod, pair_prod, pair_prod, ← pair_add]
 exact congrArg (pair p) (funext fun i => funext fun j => pair_append q r _)
theorem add_comm' (p q : TL) : Eqv (p ++ q) (q ++ p) := fun F => by rw [pair_append, pair_append]; grind
theorem add_eqv {p p' q q' : TL} (h : Eqv p p') (g : Eqv q q') : Eqv (p ++ q) (p' ++ q') := fun F => by rw [pair_append, pair_append, h, g]
theorem powQ_add (x : Rat) (i k : Nat) : x ^ (i + k) = x ^ i * x ^ k := by
 induction k with
 | zero => rw [Nat.add_zero, Rat.pow_zero, Rat.mul_one]
 | succ k ih => rw [Nat.add_succ, Rat.pow_succ, ih, Rat.pow_succ, Rat.mul_assoc]
theorem at_prod (p q : TL) (x y : Rat) : atL (prodL p q) x y = atL p x y * atL q x y := by
 unfold atL
 rw [pair_prod]
 have h : (fun i j => pair q fun k l => x ^ (i + k) * y ^ (j + l)) = fun i j => pair q (fun k l => x ^ k * y ^ l) * (x ^ i * y ^ j) := by
  funext i j
  rw [Rat.mul_comm, ← pair_mul]
  exact congrArg (pair q) (funext fun k => funext fun l => by rw [powQ_add, powQ_add]; grind)
 rw [h, pair_mul, Rat.mul_comm]
theorem at_add (p q : TL) (x y : Rat) : atL (p ++ q) x y = atL p x y + atL q x y := pair_append p q _
theorem at_eqv {p q : TL} (h : Eqv p q) (x y : Rat) : atL p x y = atL q x y := h _
end Go.Proofs.YtkpghlnegbimdaaGreatDoor
namespace Go.Proofs.YtkpghlnegbimdaaGreatDoor
open Go.RowKit
theorem KLt.add_eq {a b c d : Nat × Nat} (h : ¬ KLt b a) (g : ¬ KLt d c) (e1 : a.1 + c.1 = b.1 + d.1) (e2 : a.2 + c.2 = b.2 + d.2) : a = b ∧ c = d := by
 obtain ⟨a1, a2⟩ := a
 obtain ⟨b1, b2⟩ := b
 obtain ⟨c1, c2⟩ := c
 obtain ⟨d1, d2⟩ := d
 unfold KLt at *
 simp only [Prod.mk.injEq] at *
 omega
theorem TopK.eqv {p q : TL} {m : Nat × Nat} (h : TopK p m) (e : Eqv p q) : TopK q m := ⟨by rw [← e]; exact h.1, fun k hk => by rw [← e]; exact h.2 k hk⟩
/-- The greatest term of a product. -/
theorem prod_top {p q : TL} (hp : NF p) (hq : NF q) (hp0 : p ≠ []) (hq0 : q ≠ []) :
  TopK (prodL p q) ((key (p.getLast hp0)).1 + (key (q.getLast hq0)).1, (key (p.getLast hp0)).2 + (key (q.getLast hq0)).2) := by
 obtain ⟨⟨p1, p2⟩, p3⟩ := nf_top hp hp0
 obtain ⟨⟨q1, q2⟩, q3⟩ := nf_top hq hq0
 generalize key (p.getLast hp0) = a at *
 generalize key (q.getLast hq0) = b at *
 constructor
 ·rw [pair_prod]
  have h : pair p (fun i j => pair q fun k l => ind (a.1 + b.1, a.2 + b.2) (i + k) (j + l)) = pair p (fun i j => pair q (ind b) * ind a i j) := by
   refine pair_congr p fun s hs => ?_
   by_cases e : key s = a
   ·have e2 : ind a s.1 s.2.1 = 1 := if_pos e
    rw [e2, Rat.mul_one]
    refine pair_congr q fun t ht => ?_
    unfold ind
    by_cases f : key t = b
    ·rw [if_pos (by rw [← e, ← f]), if_pos f]
    ·rw [if_neg (fun g => f ?_), if_neg f]
     simp only [Prod.mk.injEq] at g
     exact (KLt.add_eq (p3 s hs) (q3 t ht) g.1 g.2).2
   ·have e2 : ind a s.1 s.2.1 = 0 := if_neg e
    rw [e2, Rat.mul_zero]
    refine (pair_congr q fun t ht => ?_).trans (pair_zero q)
    unfold ind
    rw [if_neg (fun g => e ?_)]
    simp only [Prod.mk.injEq] at g
    exact (KLt.add_eq (p3 s hs) (q3 t ht) g.1 g.2).1
  rw [h, pair_mul]
  intro e
  rcases Rat.mul_eq_zero.1 e with h1 | h1
  ·exact q1 h1
  ·exact p1 h1
 ·intro k hk
  rw [pair_prod]
  refine (pair_congr p fun s hs => ?_).trans (pair_zero p)
  refine (pair_congr q fun t ht => ?_).trans (pair_zero q)
  unfold ind
  rw [if_neg]
  intro g
  refine KLt.add (p3 s hs) (q3 t ht) ?_
  rw [← g] at hk
  exact hk
/-- Degrees add. -/
theorem prod_degree {p q r : TL} (hp : NF p) (hq : NF q) (hr : NF r) (e : Eqv r (prodL p q)) (hp0 : p ≠ []) (hq0 : q ≠ []) :
  ∃ hr0 : r ≠ [], (r.getLast hr0).1 + (r.getLast hr0).2.1 = ((p.getLast hp0).1 + (p.getLast hp0).2.1) + ((q.getLast hq0).1 + (q.getLast hq0).2.1) := by
 have ht := (prod_top hp hq hp0 hq0).eqv e.symm
 have hr0 : r ≠ [] := fun h => ht.1 (by rw [h]; rfl)
 refine ⟨hr0, ?_⟩
 have := (nf_top hr hr0).1.uniq ht
 simp only [key, Prod.mk.injEq] at this
 omega
end Go.Proofs.YtkpghlnegbimdaaGreatDoor
namespace Go.Proofs.YtkpghlnegbimdaaGreatDoor
open Go.RowKit
attribute [local irreducible] lo hs sm s64 c64 d64 b64 mh ml pd pc qd qc val hiB str cmpI srD lz nb zl zh zs
theorem fneg_w (n m : Int) (e : Nat) (HN : RT 76 #[intV n] (intV m)) (w : World) :
  Calls Tryz.prog 31 #[frV n e] w fun xe w' => xe = .returned (frV m e) ∧ Below w.heap.size w w' := by
 have hL0 : GL w w [] := GL.start w
 replace HN := Lib.hid HN
 obtain ⟨x1, hweq, hL0⟩ := GL.named ((hL0.new rfl [.int .u64 ((zl n : Nat) : Int), .string (zh n), .bool (zs n), .int .u64 ((lo e : Nat) : Int), .string (hs e)] 47).new (K := w.heap.size + 1) (szA _ _) [.int .u64 0, .string ⟨#[]⟩, .bool false, .int .u64 0, .string ⟨#[]⟩] 47)
 go_enter Tryz.func31, Tryz.ntmps31
 go_upto_region 1 with fail
 clear hweq
 obtain ⟨α, iα, F, hF1, hF2⟩ := cls x1
 have hq0 := cls_box hF1 hL0 _ _ (mK mZ)
 simp only [zC, Nat.reduceAdd] at hq0
 refine region_qs 6 (C := fun w' => ∃ x, w' = F x) (by kernel_rfl) (by kernel_rfl) (cls_drew hF2) ?_
 simp only [zT]
 repeat (go_big_quiet_step (first | fail | (go_at_call 76; with_reducible exact cls_call hF1 hF2 HN.out _)))
 refine wpQuiet_nil ?_
 rintro wq ⟨xq, rfl⟩
 replace hL0 := hL0.call (hF1 xq)
 clear  hq0 hF2
 generalize F xq = x2 at hL0 ⊢
 clear hF1 xq iα F α
 have hA := hL0.fc
 simp only [zF, Nat.reduceAdd] at hA
 obtain ⟨x3, hput1, hP⟩ := GL.named (hL0.put 0 (w.heap.size + 1) _ rfl [.int .u64 ((zl m : Nat) : Int), .string (zh m), .bool (zs m), .int .u64 ((lo e : Nat) : Int), .string (hs e)] rfl)
 simp only [setAll] at hput1
 simp only [List.set_cons_zero, List.set_cons_succ] at hP
 have hB1 := hP.fc
 simp only [zF, Nat.reduceAdd] at hB1
 replace hL0 := hP
 go_wp2_with fail
 exact bodyPost_ret (v := frV m e) (by simp [results, Tryz.results31, go_sem, hB1]) rfl ⟨rfl, hL0.bl⟩
end Go.Proofs.YtkpghlnegbimdaaGreatDoor
namespace Go.Proofs.YtkpghlnegbimdaaGreatDoor
open Go.RowKit
attribute [local irreducible] lo hs sm s64 c64 d64 b64 mh ml pd pc qd qc val hiB str cmpI srD lz nb zl zh zs
theorem negF (q : Rat) (w : World) : Calls Tryz.prog 31 #[fracV q] w fun x w' => x = .returned (fracV (-q)) ∧ Below w.heap.size w w' := fneg_w q.num (-q.num) (fe q) (fun w => negI q.num w) w
end Go.Proofs.YtkpghlnegbimdaaGreatDoor
namespace Go.Proofs.YtkpghlnegbimdaaGreatDoor
open Go.RowKit Go.Proofs.YtkpghlnegbimdaaGreatDoor.Rx
theorem ptr_ne {v1 v2 : Value} {a b : Nat} (h1 : v1 = .pointer (some ⟨a, 0, none⟩)) (h2 : v2 = .pointer (some ⟨b, 0, none⟩)) (h : v1 ≠ v2) : a ≠ b := fun e => h (by rw [h1, h2, e])
end Go.Proofs.YtkpghlnegbimdaaGreatDoor
namespace Go.Proofs.YtkpghlnegbimdaaGreatDoor
open Go.RowKit
attribute [local irreducible] lo hs sm s64 c64 d64 b64 mh ml pd pc qd qc val hiB str cmpI srD lz nb zl zh zs fe klT ordZ
theorem mulN_eqv (p q : TL) : Eqv (mulN p q) (prodL p q) := nfL_eqv _
end Go.Proofs.YtkpghlnegbimdaaGreatDoor
namespace Go.Proofs.YtkpghlnegbimdaaGreatDoor
open Go.ChangeShapes Go.WideShapes Go.ChangeAt Go.RowKit Go.Joins
theorem cellsQ : Tryz.prog.cellsOf 59 = 2 := by kernel_rfl
theorem q_of {H : Type} {enc : TypeId × Value → H} {W : World} {base : Nat} {v : Value} {d : DataW H} {p : List MemPlace} (hv : Value.okWide Tryz.prog W .any base 59 v)
  (h : DataW.Trod enc Tryz.prog W 0 (fun _ => true) true 59 v d p) : ∃ n e : Int, v = .agg #[.int .i64 n, .int .u32 e] ∧ (-9223372036854775808 ≤ n ∧ n < 9223372036854775808) ∧ (0 ≤ e ∧ e < 4294967296) := by
 obtain ⟨v0, v1, y0, y1, m, rfl, rfl, rfl, h0, h1⟩ := open_agg2 Tryz.underlying59 (by kernel_rfl) cellsQ hv h
 obtain ⟨n, e0, -, f0⟩ := DataW.trod_int Tryz.underlying2 h0
 obtain ⟨e, e1, -, f1⟩ := DataW.trod_int Tryz.underlying57 h1
 simp only [List.cons.injEq, and_true] at e0 e1
 subst e0 e1
 have b0 := bounds_i64 f0
 have b1 := bounds_u32 f1
 exact ⟨n, e, rfl, by omega, by omega⟩
end Go.Proofs.YtkpghlnegbimdaaGreatDoor
namespace Go.Proofs.YtkpghlnegbimdaaGreatDoor
open Go.RowKit
attribute [local irreducible] lo hs sm s64 c64 d64 b64 mh ml pd pc qd qc val hiB str cmpI srD lz nb zl zh zs fe klT ordZ
theorem pring_l1 (al am an : Option Addr) (nl cl nm cm nn cn : Nat) (n3 d3 n4 d4 : Int)  (KT : World → Prop) (hKT : Keeps KT) (HW : ∀ w, KT w → Calls Tryz.prog 8 #[] w fun xe w' => xe = .returned (.bool true) ∧ Below w.heap.size w w') (l_nl : decide ((8 : Int) < ((nl : Nat) : Int)) = true) (k_nl : decide (8 < nl) = true) (w : World) (kKT : KT w) :
  Calls Tryz.prog 4 #[.slice al nl cl, .slice am nm cm, .slice an nn cn, .agg #[.int .i64 n3, .int .u32 d3], .agg #[.int .i64 n4, .int .u32 d4]] w fun e w' => e = .returned (.bool true) ∧ Below w.heap.size w w' := by
 replace hKT := Lib.hid hKT
 replace HW := Lib.hid HW
 have hL0 : GL w w [] := GL.start w
 have hT : PTs w [] := PTs.nil w
 replace hT := ((hT.new (.cells #[.int .i64 n3, .int .u32 d3] 59)).new (.cells #[.int .i64 n4, .int .u32 d4] 59))
 replace hL0 := ((hL0.new rfl [.int .i64 n3, .int .u32 d3] 59).new (K := w.heap.size + 1) (szA _ _) [.int .i64 n4, .int .u32 d4] 59)
 generalize hweq : ((w.alloc (.cells #[.int .i64 n3, .int .u32 d3] 59)).alloc (.cells #[.int .i64 n4, .int .u32 d4] 59)) = x1 at hL0 hT
 go_enter Tryz.func4, Tryz.ntmps4
 go_wp2_with fail
 with_reducible refine Calls.mono (HW.out _ (hKT.out.at hL0.bl kKT)) ?_
 rintro e x2 ⟨rfl, hb⟩
 replace hL0 := hL0.call hb
 replace hT := hT.call hb
 clear hb hweq
 go_wp2_with fail
 exact bodyPost_ret (v := .bool true) (by simp [results, Tryz.results4, go_sem]) rfl ⟨rfl, hL0.bl⟩
theorem pring_l2 (al am an : Option Addr) (nl cl nm cm nn cn : Nat) (n3 d3 n4 d4 : Int)  (KT : World → Prop) (hKT : Keeps KT) (HW : ∀ w, KT w → Calls Tryz.prog 8 #[] w fun xe w' => xe = .returned (.bool true) ∧ Below w.heap.size w w') (l_nl : decide ((8 : Int) < ((nl : Nat) : Int)) = false) (k_nl : decide (8 < nl) = false) (l_nm : decide ((8 : Int) < ((nm : Nat) : Int)) = true) (k_nm : decide (8 < nm) = true) (w : World) (kKT : KT w) :
  Calls Tryz.prog 4 #[.slice al nl cl, .slice am nm cm, .slice an nn cn, .agg #[.int .i64 n3, .int .u32 d3], .agg #[.int .i64 n4, .int .u32 d4]] w fun e w' => e = .returned (.bool true) ∧ Below w.heap.size w w' := by
 replace hKT := Lib.hid hKT
 replace HW := Lib.hid HW
 have hL0 : GL w w [] := GL.start w
 have hT : PTs w [] := PTs.nil w
 replace hT := ((hT.new (.cells #[.int .i64 n3, .int .u32 d3] 59)).new (.cells #[.int .i64 n4, .int .u32 d4] 59))
 replace hL0 := ((hL0.new rfl [.int .i64 n3, .int .u32 d3] 59).new (K := w.heap.size + 1) (szA _ _) [.int .i64 n4, .int .u32 d4] 59)
 generalize hweq : ((w.alloc (.cells #[.int .i64 n3, .int .u32 d3] 59)).alloc (.cells #[.int .i64 n4, .int .u32 d4] 59)) = x1 at hL0 hT
 go_enter Tryz.func4, Tryz.ntmps4
 go_wp2_with fail
 with_reducible refine Calls.mono (HW.out _ (hKT.out.at hL0.bl kKT)) ?_
 rintro e x2 ⟨rfl, hb⟩
 replace hL0 := hL0.call hb
 replace hT := hT.call hb
 clear hb hweq
 go_wp2_with fail
 exact bodyPost_ret (v := .bool true) (by simp [results, Tryz.results4, go_sem]) rfl ⟨rfl, hL0.bl⟩
theorem pring_l3 (al am an : Option Addr) (nl cl nm cm nn cn : Nat) (n3 d3 n4 d4 : Int)  (KT : World → Prop) (hKT : Keeps KT) (HW : ∀ w, KT w → Calls Tryz.prog 8 #[] w fun xe w' => xe = .returned (.bool true) ∧ Below w.heap.size w w') (l_nl : decide ((8 : Int) < ((nl : Nat) : Int)) = false) (k_nl : decide (8 < nl) = false) (l_nm : decide ((8 : Int) < ((nm : Nat) : Int)) = false) (k_nm : decide (8 < nm) = false) (l_nn : decide ((8 : Int) < ((nn : Nat) : Int)) = true) (k_nn : decide (8 < nn) = true) (w : World) (kKT : KT w) :
  Calls Tryz.prog 4 #[.slice al nl cl, .slice am nm cm, .slice an nn cn, .agg #[.int .i64 n3, .int .u32 d3], .agg #[.int .i64 n4, .int .u32 d4]] w fun e w' => e = .returned (.bool true) ∧ Below w.heap.size w w' := by
 replace hKT := Lib.hid hKT
 replace HW := Lib.hid HW
 have hL0 : GL w w [] := GL.start w
 have hT : PTs w [] := PTs.nil w
 replace hT := ((hT.new (.cells #[.int .i64 n3, .int .u32 d3] 59)).new (.cells #[.int .i64 n4, .int .u32 d4] 59))
 replace hL0 := ((hL0.new rfl [.int .i64 n3, .int .u32 d3] 59).new (K := w.heap.size + 1) (szA _ _) [.int .i64 n4, .int .u32 d4] 59)
 generalize hweq : ((w.alloc (.cells #[.int .i64 n3, .int .u32 d3] 59)).alloc (.cells #[.int .i64 n4, .int .u32 d4] 59)) = x1 at hL0 hT
 go_enter Tryz.func4, Tryz.ntmps4
 go_wp2_with fail
 with_reducible refine Calls.mono (HW.out _ (hKT.out.at hL0.bl kKT)) ?_
 rintro e x2 ⟨rfl, hb⟩
 replace hL0 := hL0.call hb
 replace hT := hT.call hb
 clear hb hweq
 go_wp2_with fail
 exact bodyPost_ret (v := .bool true) (by simp [results, Tryz.results4, go_sem]) rfl ⟨rfl, hL0.bl⟩
theorem pring_w (al am an : Option Addr) (nl cl nm cm nn cn : Nat) (n3 d3 n4 d4 : Int) (pa pb pab pc p2 p3 p4 p5 p6 p7 s1 s2 s3 s4 s5 s6 s7 : List TI) (xq yq uq vq wq zq mq : Rat) (da db dc : Int) (KL : World → Prop) (hKL : Keeps KL) (HMa : ∀ (w : World), KL w → Calls Tryz.prog 22 #[.slice al nl cl, .int .i64 4] w fun e w' => ∃ pv, e = .returned pv ∧ PT w' pv pa ∧ Below w.heap.size w w') (KM : World → Prop) (hKM : Keeps KM) (HMb : ∀ (w : World), KM w → Calls Tryz.prog 22 #[.slice am nm cm, .int .i64 4] w fun e w' => ∃ pv, e = .returned pv ∧ PT w' pv pb ∧ Below w.heap.size w w') (KN : World → Prop) (hKN : Keeps KN) (HMc : ∀ (w : World), KN w → Calls Tryz.prog 22 #[.slice an nn cn, .int .i64 4] w fun e w' => ∃ pv, e = .returned pv ∧ PT w' pv pc ∧ Below w.heap.size w w') (M1 : ∀ (p0 p1 : Value) (w : World), PT w p0 pa → PT w p1 pb → Calls Tryz.prog 23 #[p0, p1] w fun e w' => ∃ pv, e = .returned (.tuple #[pv, .int .i64 0]) ∧ PT w' pv pab ∧ Below w.heap.size w w') (M2 : ∀ (p0 p1 : Value) (w : World), PT w p0 pb → PT w p1 pa → Calls Tryz.prog 23 #[p0, p1] w fun e w' => ∃ pv, e = .returned (.tuple #[pv, .int .i64 0]) ∧ PT w' pv p2 ∧ Below w.heap.size w w') (M3 : ∀ (p0 p1 : Value) (w : World), PT w p0 pb → PT w p1 pc → Calls Tryz.prog 23 #[p0, p1] w fun e w' => ∃ pv, e = .returned (.tuple #[pv, .int .i64 0]) ∧ PT w' pv p3 ∧ Below w.heap.size w w') (M4 : ∀ (p0 p1 : Value) (w : World), PT w p0 pa → PT w p1 pc → Calls Tryz.prog 23 #[p0, p1] w fun e w' => ∃ pv, e = .returned (.tuple #[pv, .int .i64 0]) ∧ PT w' pv p4 ∧ Below w.heap.size w w') (M5 : ∀ (p0 p1 : Value) (w : World), PT w p0 pab → PT w p1 pc → Calls Tryz.prog 23 #[p0, p1] w fun e w' => ∃ pv, e = .returned (.tuple #[pv, .int .i64 0]) ∧ PT w' pv p5 ∧ Below w.heap.size w w') (M6 : ∀ (p0 p1 : Value) (w : World), PT w p0 pa → PT w p1 p3 → Calls Tryz.prog 23 #[p0, p1] w fun e w' => ∃ pv, e = .returned (.tuple #[pv, .int .i64 0]) ∧ PT w' pv p6 ∧ Below w.heap.size w w') (A1 : ∀ (p0 p1 : Value) (w : World), PT w p0 pb → PT w p1 pc → Calls Tryz.prog 24 #[p0, p1] w fun e w' => ∃ pv, e = .returned pv ∧ PT w' pv s1 ∧ Below w.heap.size w w') (M7 : ∀ (p0 p1 : Value) (w : World), PT w p0 pa → PT w p1 s1 → Calls Tryz.prog 23 #[p0, p1] w fun e w' => ∃ pv, e = .returned (.tuple #[pv, .int .i64 0]) ∧ PT w' pv p7 ∧ Below w.heap.size w w') (S1 : ∀ (p0 p1 : Value) (w : World), PT w p0 pab → PT w p1 p2 → Calls Tryz.prog 17 #[p0, p1] w fun e w' => e = .returned (.bool true) ∧ Below w.heap.size w w') (S2 : ∀ (p0 p1 : Value) (w : World), PT w p0 p5 → PT w p1 p6 → Calls Tryz.prog 17 #[p0, p1] w fun e w' => e = .returned (.bool true) ∧ Below w.heap.size w w') (A2 : ∀ (p0 p1 : Value) (w : World), PT w p0 pab → PT w p1 p4 → Calls Tryz.prog 24 #[p0, p1] w fun e w' => ∃ pv, e = .returned pv ∧ PT w' pv s2 ∧ Below w.heap.size w w') (S3 : ∀ (p0 p1 : Value) (w : World), PT w p0 p7 → PT w p1 s2 → Calls Tryz.prog 17 #[p0, p1] w fun e w' => e = .returned (.bool true) ∧ Below w.heap.size w w') (A3 : ∀ (p0 p1 : Value) (w : World), PT w p0 pa → PT w p1 pb → Calls Tryz.prog 24 #[p0, p1] w fun e w' => ∃ pv, e = .returned pv ∧ PT w' pv s3 ∧ Below w.heap.size w w') (A4 : ∀ (p0 p1 : Value) (w : World), PT w p0 pb → PT w p1 pa → Calls Tryz.prog 24 #[p0, p1] w fun e w' => ∃ pv, e = .returned pv ∧ PT w' pv s4 ∧ Below w.heap.size w w') (S4 : ∀ (p0 p1 : Value) (w : World), PT w p0 s3 → PT w p1 s4 → Calls Tryz.prog 17 #[p0, p1] w fun e w' => e = .returned (.bool true) ∧ Below w.heap.size w w') (B1 : ∀ (p0 p1 : Value) (w : World), PT w p0 s3 → PT w p1 pb → Calls Tryz.prog 25 #[p0, p1] w fun e w' => ∃ pv, e = .returned pv ∧ PT w' pv s5 ∧ Below w.heap.size w w') (S5 : ∀ (p0 p1 : Value) (w : World), PT w p0 s5 → PT w p1 pa → Calls Tryz.prog 17 #[p0, p1] w fun e w' => e = .returned (.bool true) ∧ Below w.heap.size w w') (B2 : ∀ (p0 p1 : Value) (w : World), PT w p0 pa → PT w p1 pa → Calls Tryz.prog 25 #[p0, p1] w fun e w' => ∃ pv, e = .returned pv ∧ PT w' pv s6 ∧ Below w.heap.size w w') (D0 : ∀ (p0 : Value) (w : World), PT w p0 s6 → Calls Tryz.prog 15 #[p0] w fun e w' => e = .returned (.int .i64 (-1)) ∧ Below w.heap.size w w') (HQ1 : ∀ w, Calls Tryz.prog 26 #[.agg #[.int .i64 n3, .int .u32 d3]] w fun xe w' => xe = .returned (fracV xq) ∧ Below w.heap.size w w') (HQ2 : ∀ w, Calls Tryz.prog 26 #[.agg #[.int .i64 n4, .int .u32 d4]] w fun xe w' => xe = .returned (fracV yq) ∧ Below w.heap.size w w') (T1 : ∀ (p0 : Value) (w : World), PT w p0 pa → Calls Tryz.prog 27 #[p0, fracV xq, fracV yq] w fun e w' => e = .returned (fracV uq) ∧ Below w.heap.size w w') (T2 : ∀ (p0 : Value) (w : World), PT w p0 pb → Calls Tryz.prog 27 #[p0, fracV xq, fracV yq] w fun e w' => e = .returned (fracV vq) ∧ Below w.heap.size w w') (T3 : ∀ (p0 : Value) (w : World), PT w p0 pab → Calls Tryz.prog 27 #[p0, fracV xq, fracV yq] w fun e w' => e = .returned (fracV wq) ∧ Below w.heap.size w w') (F1 : ∀ w, Calls Tryz.prog 28 #[fracV uq, fracV vq] w fun xe w' => xe = .returned (fracV wq) ∧ Below w.heap.size w w') (T4 : ∀ (p0 : Value) (w : World), PT w p0 s3 → Calls Tryz.prog 27 #[p0, fracV xq, fracV yq] w fun e w' => e = .returned (fracV zq) ∧ Below w.heap.size w w') (F2 : ∀ w, Calls Tryz.prog 29 #[fracV uq, fracV vq] w fun xe w' => xe = .returned (fracV zq) ∧ Below w.heap.size w w') (N1 : ∀ (p0 : Value) (w : World), PT w p0 pa → Calls Tryz.prog 30 #[p0] w fun e w' => ∃ pv, e = .returned pv ∧ PT w' pv s7 ∧ Below w.heap.size w w') (T5 : ∀ (p0 : Value) (w : World), PT w p0 s7 → Calls Tryz.prog 27 #[p0, fracV xq, fracV yq] w fun e w' => e = .returned (fracV mq) ∧ Below w.heap.size w w') (F3 : ∀ w, Calls Tryz.prog 31 #[fracV uq] w fun xe w' => xe = .returned (fracV mq) ∧ Below w.heap.size w w') (G1 : ∀ (p0 : Value) (w : World), PT w p0 pab → Calls Tryz.prog 15 #[p0] w fun e w' => e = .returned (.int .i64 dc) ∧ Below w.heap.size w w') (G2 : ∀ (p0 : Value) (w : World), PT w p0 pa → Calls Tryz.prog 15 #[p0] w fun e w' => e = .returned (.int .i64 da) ∧ Below w.heap.size w w') (G3 : ∀ (p0 : Value) (w : World), PT w p0 pb → Calls Tryz.prog 15 #[p0] w fun e w' => e = .returned (.int .i64 db) ∧ Below w.heap.size w w') (KT : World → Prop) (hKT : Keeps KT) (HW : ∀ w, KT w → Calls Tryz.prog 8 #[] w fun xe w' => xe = .returned (.bool true) ∧ Below w.heap.size w w') (l_nl : decide ((8 : Int) < ((nl : Nat) : Int)) = false) (k_nl : decide (8 < nl) = false) (l_nm : decide ((8 : Int) < ((nm : Nat) : Int)) = false) (k_nm : decide (8 < nm) = false) (l_nn : decide ((8 : Int) < ((nn : Nat) : Int)) = false) (k_nn : decide (8 < nn) = false) (hnil : pa.length = 0 ∨ pb.length = 0 → pab.length = 0) (hdeg : pa.length ≠ 0 → pb.length ≠ 0 → IntKind.i64.wrap (da + db) = dc ∧ wrap64 (da + db) = dc) (w : World) (kKL : KL w) (kKM : KM w) (kKN : KN w) (kKT : KT w) :
  Calls Tryz.prog 4 #[.slice al nl cl, .slice am nm cm, .slice an nn cn, .agg #[.int .i64 n3, .int .u32 d3], .agg #[.int .i64 n4, .int .u32 d4]] w fun e w' => e = .returned (.bool true) ∧ Below w.heap.size w w' := by
 replace hKL := Lib.hid hKL
 replace HMa := Lib.hid HMa
 replace hKM := Lib.hid hKM
 replace HMb := Lib.hid HMb
 replace hKN := Lib.hid hKN
 replace HMc := Lib.hid HMc
 replace M1 := Lib.hid M1
 replace M2 := Lib.hid M2
 replace M3 := Lib.hid M3
 replace M4 := Lib.hid M4
 replace M5 := Lib.hid M5
 replace M6 := Lib.hid M6
 replace A1 := Lib.hid A1
 replace M7 := Lib.hid M7
 replace S1 := Lib.hid S1
 replace S2 := Lib.hid S2
 replace A2 := Lib.hid A2
 replace S3 := Lib.hid S3
 replace A3 := Lib.hid A3
 replace A4 := Lib.hid A4
 replace S4 := Lib.hid S4
 replace B1 := Lib.hid B1
 replace S5 := Lib.hid S5
 replace B2 := Lib.hid B2
 replace D0 := Lib.hid D0
 replace HQ1 := Lib.hid HQ1
 replace HQ2 := Lib.hid HQ2
 replace T1 := Lib.hid T1
 replace T2 := Lib.hid T2
 replace T3 := Lib.hid T3
 replace F1 := Lib.hid F1
 replace T4 := Lib.hid T4
 replace F2 := Lib.hid F2
 replace N1 := Lib.hid N1
 replace T5 := Lib.hid T5
 replace F3 := Lib.hid F3
 replace G1 := Lib.hid G1
 replace G2 := Lib.hid G2
 replace G3 := Lib.hid G3
 replace hKT := Lib.hid hKT
 replace HW := Lib.hid HW
 have hL0 : GL w w [] := GL.start w
 have hT : PTs w [] := PTs.nil w
 replace hnil := Lib.hid hnil
 replace hdeg := Lib.hid hdeg
 replace hT := ((hT.new (.cells #[.int .i64 n3, .int .u32 d3] 59)).new (.cells #[.int .i64 n4, .int .u32 d4] 59))
 replace hL0 := ((hL0.new rfl [.int .i64 n3, .int .u32 d3] 59).new (K := w.heap.size + 1) (szA _ _) [.int .i64 n4, .int .u32 d4] 59)
 generalize hweq : ((w.alloc (.cells #[.int .i64 n3, .int .u32 d3] 59)).alloc (.cells #[.int .i64 n4, .int .u32 d4] 59)) = x1 at hL0 hT
 go_enter Tryz.func4, Tryz.ntmps4
 go_wp2_with fail
 with_reducible refine Calls.mono (HMa.out _ (hKL.out.at (hL0.bl) kKL)) ?_
 rintro e x2 ⟨v0, rfl, q0, hb⟩
 replace hL0 := hL0.call hb
 replace hT := hT.call hb
 clear hb hweq
 obtain ⟨g1, d1, g1c, rfl, d1h⟩ := pt_form q0
 replace d1h := Lib.hid d1h
 replace hT := hT.cons q0
 clear q0
 go_wp2_with fail
 with_reducible refine Calls.mono (HMb.out _ (hKM.out.at (hL0.bl) kKM)) ?_
 rintro e x3 ⟨v0, rfl, q0, hb⟩
 replace hL0 := hL0.call hb
 replace hT := hT.call hb
 clear hb
 obtain ⟨g2, d2, g2c, rfl, d2h⟩ := pt_form q0
 replace d2h := Lib.hid d2h
 replace hT := hT.cons q0
 clear q0
 go_wp2_with fail
 with_reducible refine Calls.mono (HMc.out _ (hKN.out.at (hL0.bl) kKN)) ?_
 rintro e x4 ⟨v0, rfl, q0, hb⟩
 replace hL0 := hL0.call hb
 replace hT := hT.call hb
 clear hb
 obtain ⟨g3, d3, g3c, rfl, -⟩ := pt_form q0
 replace hT := hT.cons q0
 clear q0
 go_wp2_with fail
 with_reducible refine Calls.mono (M1.out (.slice g1 d1 g1c) (.slice g2 d2 g2c) _ (hT.get (mK (mK mZ))) (hT.get (mK mZ))) ?_
 rintro e x5 ⟨v0, rfl, q0, hb⟩
 replace hL0 := hL0.call hb
 replace hT := hT.call hb
 clear hb
 obtain ⟨g4, d4, g4c, rfl, d4h⟩ := pt_form q0
 replace d4h := Lib.hid d4h
 replace hT := hT.cons q0
 clear q0
 go_wp2_with fail
 with_reducible refine Calls.mono (M2.out (.slice g2 d2 g2c) (.slice g1 d1 g1c) _ (hT.get (mK (mK mZ))) (hT.get (mK (mK (mK mZ))))) ?_
 rintro e x6 ⟨v0, rfl, q0, hb⟩
 replace hL0 := hL0.call hb
 replace hT := hT.call hb
 clear hb
 obtain ⟨g5, d5, g5c, rfl, -⟩ := pt_form q0
 replace hT := hT.cons q0
 clear q0
 go_wp2_with fail
 with_reducible refine Calls.mono (M3.out (.slice g2 d2 g2c) (.slice g3 d3 g3c) _ (hT.get (mK (mK (mK mZ)))) (hT.get (mK (mK mZ)))) ?_
 rintro e x7 ⟨v0, rfl, q0, hb⟩
 replace hL0 := hL0.call hb
 replace hT := hT.call hb
 clear hb
 obtain ⟨g6, d6, g6c, rfl, -⟩ := pt_form q0
 replace hT := hT.cons q0
 clear q0
 go_wp2_with fail
 with_reducible refine Calls.mono (M4.out (.slice g1 d1 g1c) (.slice g3 d3 g3c) _ (hT.get (mK (mK (mK (mK (mK mZ)))))) (hT.get (mK (mK (mK mZ))))) ?_
 rintro e x8 ⟨v0, rfl, q0, hb⟩
 replace hL0 := hL0.call hb
 replace hT := hT.call hb
 clear hb
 obtain ⟨g7, d7, g7c, rfl, -⟩ := pt_form q0
 replace hT := hT.cons q0
 clear q0
 go_wp2_with fail
 with_reducible refine Calls.mono (M5.out (.slice g4 d4 g4c) (.slice g3 d3 g3c) _ (hT.get (mK (mK (mK mZ)))) (hT.get (mK (mK (mK (mK mZ)))))) ?_
 rintro e x9 ⟨v0, rfl, q0, hb⟩
 replace hL0 := hL0.call hb
 replace hT := hT.call hb
 clear hb
 obtain ⟨g8, d8, g8c, rfl, -⟩ := pt_form q0
 replace hT := hT.cons q0
 clear q0
 go_wp2_with fail
 with_reducible refine Calls.mono (M6.out (.slice g1 d1 g1c) (.slice g6 d6 g6c) _ (hT.get (mK (mK (mK (mK (mK (mK (mK mZ)))))))) (hT.get (mK (mK mZ)))) ?_
 rintro e x10 ⟨v0, rfl, q0, hb⟩
 replace hL0 := hL0.call hb
 replace hT := hT.call hb
 clear hb
 obtain ⟨g9, d9, g9c, rfl, -⟩ := pt_form q0
 replace hT := hT.cons q0
 clear q0
 go_wp2_with fail
 with_reducible refine Calls.mono (A1.out (.slice g2 d2 g2c) (.slice g3 d3 g3c) _ (hT.get (mK (mK (mK (mK (mK (mK (mK mZ)))))))) (hT.get (mK (mK (mK (mK (mK (mK mZ)))))))) ?_
 rintro e x11 ⟨v0, rfl, q0, hb⟩
 replace hL0 := hL0.call hb
 replace hT := hT.call hb
 clear hb
 obtain ⟨g10, d10, g10c, rfl, -⟩ := pt_form q0
 replace hT := hT.cons q0
 clear q0
 go_wp2_with fail
 with_reducible refine Calls.mono (M7.out (.slice g1 d1 g1c) (.slice g10 d10 g10c) _ (hT.get (mK (mK (mK (mK (mK (mK (mK (mK (mK mZ)))))))))) (hT.get mZ)) ?_
 rintro e x12 ⟨v0, rfl, q0, hb⟩
 replace hL0 := hL0.call hb
 replace hT := hT.call hb
 clear hb
 obtain ⟨g11, d11, g11c, rfl, -⟩ := pt_form q0
 replace hT := hT.cons q0
 clear q0
 go_wp2_with fail
 with_reducible refine Calls.mono (S1.out (.slice g4 d4 g4c) (.slice g5 d5 g5c) _ (hT.get (mK (mK (mK (mK (mK (mK (mK mZ)))))))) (hT.get (mK (mK (mK (mK (mK (mK mZ)))))))) ?_
 rintro e x13 ⟨rfl, hb⟩
 replace hL0 := hL0.call hb
 replace hT := hT.call hb
 clear hb
 go_wp2_with fail
 with_reducible refine Calls.mono (S2.out (.slice g8 d8 g8c) (.slice g9 d9 g9c) _ (hT.get (mK (mK (mK mZ)))) (hT.get (mK (mK mZ)))) ?_
 rintro e x14 ⟨rfl, hb⟩
 replace hL0 := hL0.call hb
 replace hT := hT.call hb
 clear hb
 go_wp2_with fail
 with_reducible refine Calls.mono (A2.out (.slice g4 d4 g4c) (.slice g7 d7 g7c) _ (hT.get (mK (mK (mK (mK (mK (mK (mK mZ)))))))) (hT.get (mK (mK (mK (mK mZ)))))) ?_
 rintro e x15 ⟨v0, rfl, q0, hb⟩
 replace hL0 := hL0.call hb
 replace hT := hT.call hb
 clear hb
 obtain ⟨g12, d12, g12c, rfl, -⟩ := pt_form q0
 replace hT := hT.cons q0
 clear q0
 go_wp2_with fail
 with_reducible refine Calls.mono (S3.out (.slice g11 d11 g11c) (.slice g12 d12 g12c) _ (hT.get (mK mZ)) (hT.get mZ)) ?_
 rintro e x16 ⟨rfl, hb⟩
 replace hL0 := hL0.call hb
 replace hT := hT.call hb
 clear hb
 go_wp2_with fail
 with_reducible refine Calls.mono (A3.out (.slice g1 d1 g1c) (.slice g2 d2 g2c) _ (hT.get (mK (mK (mK (mK (mK (mK (mK (mK (mK (mK (mK mZ)))))))))))) (hT.get (mK (mK (mK (mK (mK (mK (mK (mK (mK (mK mZ)))))))))))) ?_
 rintro e x17 ⟨v0, rfl, q0, hb⟩
 replace hL0 := hL0.call hb
 replace hT := hT.call hb
 clear hb
 obtain ⟨g13, d13, g13c, rfl, -⟩ := pt_form q0
 replace hT := hT.cons q0
 clear q0
 go_wp2_with fail
 with_reducible refine Calls.mono (A4.out (.slice g2 d2 g2c) (.slice g1 d1 g1c) _ (hT.get (mK (mK (mK (mK (mK (mK (mK (mK (mK (mK (mK mZ)))))))))))) (hT.get (mK (mK (mK (mK (mK (mK (mK (mK (mK (mK (mK (mK mZ)))))))))))))) ?_
 rintro e x18 ⟨v0, rfl, q0, hb⟩
 replace hL0 := hL0.call hb
 replace hT := hT.call hb
 clear hb
 obtain ⟨g14, d14, g14c, rfl, -⟩ := pt_form q0
 replace hT := hT.cons q0
 clear q0
 go_wp2_with fail
 with_reducible refine Calls.mono (S4.out (.slice g13 d13 g13c) (.slice g14 d14 g14c) _ (hT.get (mK mZ)) (hT.get mZ)) ?_
 rintro e x19 ⟨rfl, hb⟩
 replace hL0 := hL0.call hb
 replace hT := hT.call hb
 clear hb
 go_wp2_with fail
 with_reducible refine Calls.mono (A3.out (.slice g1 d1 g1c) (.slice g2 d2 g2c) _ (hT.get (mK (mK (mK (mK (mK (mK (mK (mK (mK (mK (mK (mK (mK mZ)))))))))))))) (hT.get (mK (mK (mK (mK (mK (mK (mK (mK (mK (mK (mK (mK mZ)))))))))))))) ?_
 rintro e x20 ⟨v0, rfl, q0, hb⟩
 replace hL0 := hL0.call hb
 replace hT := hT.call hb
 clear hb
 obtain ⟨g15, d15, g15c, rfl, -⟩ := pt_form q0
 replace hT := hT.cons q0
 clear q0
 go_wp2_with fail
 with_reducible refine Calls.mono (B1.out (.slice g15 d15 g15c) (.slice g2 d2 g2c) _ (hT.get mZ) (hT.get (mK (mK (mK (mK (mK (mK (mK (mK (mK (mK (mK (mK (mK mZ))))))))))))))) ?_
 rintro e x21 ⟨v0, rfl, q0, hb⟩
 replace hL0 := hL0.call hb
 replace hT := hT.call hb
 clear hb
 obtain ⟨g16, d16, g16c, rfl, -⟩ := pt_form q0
 replace hT := hT.cons q0
 clear q0
 go_wp2_with fail
 with_reducible refine Calls.mono (S5.out (.slice g16 d16 g16c) (.slice g1 d1 g1c) _ (hT.get mZ) (hT.get (mK (mK (mK (mK (mK (mK (mK (mK (mK (mK (mK (mK (mK (mK (mK mZ))))))))))))))))) ?_
 rintro e x22 ⟨rfl, hb⟩
 replace hL0 := hL0.call hb
 replace hT := hT.call hb
 clear hb
 go_wp2_with fail
 with_reducible refine Calls.mono (B2.out (.slice g1 d1 g1c) (.slice g1 d1 g1c) _ (hT.get (mK (mK (mK (mK (mK (mK (mK (mK (mK (mK (mK (mK (mK (mK (mK mZ)))))))))))))))) (hT.get (mK (mK (mK (mK (mK (mK (mK (mK (mK (mK (mK (mK (mK (mK (mK mZ))))))))))))))))) ?_
 rintro e x23 ⟨v0, rfl, q0, hb⟩
 replace hL0 := hL0.call hb
 replace hT := hT.call hb
 clear hb
 obtain ⟨g17, d17, g17c, rfl, -⟩ := pt_form q0
 replace hT := hT.cons q0
 clear q0
 go_wp2_with fail
 with_reducible refine Calls.mono (D0.out (.slice g17 d17 g17c) _ (hT.get mZ)) ?_
 rintro e x24 ⟨rfl, hb⟩
 replace hL0 := hL0.call hb
 replace hT := hT.call hb
 clear hb
 go_upto_region 13 with fail
 refine region_gh (by kernel_rfl) (by kernel_rfl) ?_
 refine lex_seg (gl := []) 4 (by kernel_rfl) ?_
 intro α iα F hF1 hF2
 have hq := GL.seg hF1 hL0
 simp only [zC, Nat.reduceAdd] at hq
 simp only [zT]
 repeat (go_big_quiet_step (first | fail | (go_at_call 26; with_reducible exact seg_call hF2 HQ1.out _) | (go_at_call 26; with_reducible exact seg_call hF2 HQ2.out _)))
 refine wpQuiet_nil ?_
 clear hq hF1 hF2 iα F α
 refine lex_new [.int .u64 0, .string ⟨#[]⟩, .bool false, .int .u64 0, .string ⟨#[]⟩] 28 47 47 rfl rfl (of_decide_eq_true (by kernel_rfl)) (by kernel_rfl) rfl new_frac ?_
 simp only [Act.put, zP]
 refine lex_new [.int .u64 0, .string ⟨#[]⟩, .bool false, .int .u64 0, .string ⟨#[]⟩] 29 47 47 rfl rfl (of_decide_eq_true (by kernel_rfl)) (by kernel_rfl) rfl new_frac ?_
 simp only [Act.put, zP]
 refine lex_put [.int .u64 ((zl xq.num : Nat) : Int), .string (zh xq.num), .bool (zs xq.num), .int .u64 ((lo (fe xq) : Nat) : Int), .string (hs (fe xq))] [.int .u64 0, .string ⟨#[]⟩, .bool false, .int .u64 0, .string ⟨#[]⟩] 28 47 (.tmp 150) rfl (by kernel_rfl) (by simp [toG, upd]) rfl (fun w k h => put_frac _ _ _ _ _ _ _ _ _ _ w k h) ?_
 simp only [Act.put]
 refine lex_put [.int .u64 ((zl yq.num : Nat) : Int), .string (zh yq.num), .bool (zs yq.num), .int .u64 ((lo (fe yq) : Nat) : Int), .string (hs (fe yq))] [.int .u64 0, .string ⟨#[]⟩, .bool false, .int .u64 0, .string ⟨#[]⟩] 29 47 (.tmp 152) rfl (by kernel_rfl) (by simp [toG, upd]) rfl (fun w k h => put_frac _ _ _ _ _ _ _ _ _ _ w k h) ?_
 simp only [Act.put]
 refine lexG_nil ?_
 intro κ x25 hSim
 replace hL0 := hL0.ghs hSim [(29, [.int .u64 ((zl yq.num : Nat) : Int), .string (zh yq.num), .bool (zs yq.num), .int .u64 ((lo (fe yq) : Nat) : Int), .string (hs (fe yq))]), (28, [.int .u64 ((zl xq.num : Nat) : Int), .string (zh xq.num), .bool (zs xq.num), .int .u64 ((lo (fe xq) : Nat) : Int), .string (hs (fe xq))])] (by simp) (by intro p hp; simp only [List.mem_cons, List.not_mem_nil, or_false] at hp; rcases hp with rfl | rfl <;> exact ⟨_, by simp only [toG, upd]; rfl⟩)
 simp only [List.map_cons, List.map_nil, List.cons_append, List.nil_append] at hL0
 simp only [over_toG, over_nil, Act.put, zP]
 replace hT := hT.call (below_drew hSim.base)
 clear hSim
 generalize κ 29 = k25_29 at *
 generalize κ 28 = k25_28 at *
 go_upto_region 14 with fail
 refine region_tal 10 [EV (.slice g1 d1 g1c), EV (.agg #[.int .u64 ((zl xq.num : Nat) : Int), .string (zh xq.num), .bool (zs xq.num), .int .u64 ((lo (fe xq) : Nat) : Int), .string (hs (fe xq))]), EV (.agg #[.int .u64 ((zl yq.num : Nat) : Int), .string (zh yq.num), .bool (zs yq.num), .int .u64 ((lo (fe yq) : Nat) : Int), .string (hs (fe yq))]), EV (.agg #[.int .u64 ((zl uq.num : Nat) : Int), .string (zh uq.num), .bool (zs uq.num), .int .u64 ((lo (fe uq) : Nat) : Int), .string (hs (fe uq))]), EV (.slice g2 d2 g2c), EV (.agg #[.int .u64 ((zl xq.num : Nat) : Int), .string (zh xq.num), .bool (zs xq.num), .int .u64 ((lo (fe xq) : Nat) : Int), .string (hs (fe xq))]), EV (.agg #[.int .u64 ((zl yq.num : Nat) : Int), .string (zh yq.num), .bool (zs yq.num), .int .u64 ((lo (fe yq) : Nat) : Int), .string (hs (fe yq))]), EV (.agg #[.int .u64 ((zl vq.num : Nat) : Int), .string (zh vq.num), .bool (zs vq.num), .int .u64 ((lo (fe vq) : Nat) : Int), .string (hs (fe vq))]), NewB x25.heap.size [.int .u64 0, .string ⟨#[]⟩, .bool false, .int .u64 0, .string ⟨#[]⟩], NewB x25.heap.size [.int .u64 0, .string ⟨#[]⟩, .bool false, .int .u64 0, .string ⟨#[]⟩]] [8, 9] (by kernel_rfl) (by kernel_rfl) ?_ ?_ ?_ ?_ ?_
 ·repeat' first | exact stays_nil | apply stays_cons | exact stays_eq _ | exact stays_new _ _
 ·simp only [List.take_succ_cons, List.take_zero, hopsR, and_true]
  refine ⟨?_, ?_, ?_, ?_, ?_, ?_, ?_, ?_, ?_, ?_⟩ <;> intro fv w1 hb1 hp
  all_goals (have hc := (hL0.call (below_drew hb1)).fc; simp only [zF, Nat.reduceAdd] at hc; simp only [putsV, Act.put, zP, Nat.zero_add, Nat.reduceAdd])
  ·refine tyAt_none rfl ?_
   simp [tyUpon, execOp, go_sem, Act.eval, Below.refl]
  ·refine tyAt_none rfl ?_
   simp [tyUpon, execOp, go_sem, Act.eval, hc, Below.refl]
  ·refine tyAt_none rfl ?_
   simp [tyUpon, execOp, go_sem, Act.eval, hc, Below.refl]
  ·have h0 : EV _ (fv 0) w1 := hp 0 (LC (by kernel_rfl))
   have h1 : EV _ (fv 1) w1 := hp 1 (LC (by kernel_rfl))
   have h2 : EV _ (fv 2) w1 := hp 2 (LC (by kernel_rfl))
   refine tyAt_none rfl ?_
   refine ty_call (f := 27) (args := #[.slice g1 d1 g1c, .agg #[.int .u64 ((zl xq.num : Nat) : Int), .string (zh xq.num), .bool (zs xq.num), .int .u64 ((lo (fe xq) : Nat) : Int), .string (hs (fe xq))], .agg #[.int .u64 ((zl yq.num : Nat) : Int), .string (zh yq.num), .bool (zs yq.num), .int .u64 ((lo (fe yq) : Nat) : Int), .string (hs (fe yq))]]) (by simp [execOp, go_sem, Act.eval, h0, h1, h2]) ?_
   exact (T1.out (.slice g1 d1 g1c) w1 (PT.below (hT.get (mK (mK (mK (mK (mK (mK (mK (mK (mK (mK (mK (mK (mK (mK (mK (mK mZ))))))))))))))))) (below_drew hb1))).mono fun e w2 ⟨h1, h2⟩ => ⟨_, h1, rfl, h2⟩
  ·refine tyAt_none rfl ?_
   simp [tyUpon, execOp, go_sem, Act.eval, Below.refl]
  ·refine tyAt_none rfl ?_
   simp [tyUpon, execOp, go_sem, Act.eval, hc, Below.refl]
  ·refine tyAt_none rfl ?_
   simp [tyUpon, execOp, go_sem, Act.eval, hc, Below.refl]
  ·have h4 : EV _ (fv 4) w1 := hp 4 (LC (by kernel_rfl))
   have h5 : EV _ (fv 5) w1 := hp 5 (LC (by kernel_rfl))
   have h6 : EV _ (fv 6) w1 := hp 6 (LC (by kernel_rfl))
   refine tyAt_none rfl ?_
   refine ty_call (f := 27) (args := #[.slice g2 d2 g2c, .agg #[.int .u64 ((zl xq.num : Nat) : Int), .string (zh xq.num), .bool (zs xq.num), .int .u64 ((lo (fe xq) : Nat) : Int), .string (hs (fe xq))], .agg #[.int .u64 ((zl yq.num : Nat) : Int), .string (zh yq.num), .bool (zs yq.num), .int .u64 ((lo (fe yq) : Nat) : Int), .string (hs (fe yq))]]) (by simp [execOp, go_sem, Act.eval, h4, h5, h6]) ?_
   exact (T2.out (.slice g2 d2 g2c) w1 (PT.below (hT.get (mK (mK (mK (mK (mK (mK (mK (mK (mK (mK (mK (mK (mK (mK (mK mZ)))))))))))))))) (below_drew hb1))).mono fun e w2 ⟨h1, h2⟩ => ⟨_, h1, rfl, h2⟩
  ·exact tyAt_new rfl rfl new_frac (below_drew hb1).size
  ·exact tyAt_new rfl rfl new_frac (below_drew hb1).size
 ·intro j hj u w2 hT
  simp only [List.contains_iff_mem, List.mem_cons, List.not_mem_nil, or_false] at hj
  rcases hj with rfl | rfl <;> exact NewB.ptr hT
 ·exact ⟨⟨_, _, _, _, rfl, rfl, rfl, new_frac⟩, ⟨_, _, _, _, rfl, rfl, rfl, new_frac⟩, trivial⟩
 ·intro fv x26 hb1 hv hne
  have e0 : fv 0 = _ := hv 0 (by omega)
  have e1 : fv 1 = _ := hv 1 (by omega)
  have e2 : fv 2 = _ := hv 2 (by omega)
  have e3 : fv 3 = _ := hv 3 (by omega)
  have e4 : fv 4 = _ := hv 4 (by omega)
  have e5 : fv 5 = _ := hv 5 (by omega)
  have e6 : fv 6 = _ := hv 6 (by omega)
  have e7 : fv 7 = _ := hv 7 (by omega)
  obtain ⟨kb8, e8, n8, m8⟩ : NewB x25.heap.size [.int .u64 0, .string ⟨#[]⟩, .bool false, .int .u64 0, .string ⟨#[]⟩] (fv 8) x26 := hv 8 (by omega)
  obtain ⟨kb9, e9, n9, m9⟩ : NewB x25.heap.size [.int .u64 0, .string ⟨#[]⟩, .bool false, .int .u64 0, .string ⟨#[]⟩] (fv 9) x26 := hv 9 (by omega)
  simp only [List.take_succ_cons, List.take_zero, putsV, Act.put, zP, List.drop_succ_cons, List.drop_zero, Nat.zero_add, Nat.reduceAdd, e0, e1, e2, e3, e4, e5, e6, e7, e8, e9]
  have hx0 := hL0
  replace hL0 := hL0.call (below_drew hb1)
  replace hT := hT.call (below_drew hb1)
  replace hL0 := GL.tnew (M := []) hL0 hx0 n8 m8 (fun p hp => by cases hp)
  replace hL0 := GL.tnew (M := [(kb8, [.int .u64 0, .string ⟨#[]⟩, .bool false, .int .u64 0, .string ⟨#[]⟩])]) hL0 hx0 n9 m9 (by intro p hp; simp only [List.mem_cons, List.not_mem_nil, or_false] at hp; rcases hp with rfl; exact ptr_ne e8 e9 (hne 8 9 (by omega) (by omega) (by omega) rfl rfl))
  simp only [List.cons_append, List.nil_append] at hL0
  clear e0 e1 e2 e3 e4 e5 e6 e7 e8 e9 hb1 hv hne hx0 n8 m8 n9 m9 fv
  have hT1 := hT.put ((((((Upd.refl kb8 x26).setCell 0 (.int .u64 ((zl uq.num : Nat) : Int))).setCell 1 (.string (zh uq.num))).setCell 2 (.bool (zs uq.num))).setCell 3 (.int .u64 ((lo (fe uq) : Nat) : Int))).setCell 4 (.string (hs (fe uq)))) (hL0.get _ _ (mK mZ)) (by intro v hv n; simp only [List.mem_cons, List.not_mem_nil, or_false] at hv; rcases hv with rfl | rfl | rfl | rfl | rfl <;> simp)
  have hA := hL0.fc
  simp only [zF, Nat.reduceAdd] at hA
  have hP := hL0.put 1 (kb8) _ rfl [.int .u64 ((zl uq.num : Nat) : Int), .string (zh uq.num), .bool (zs uq.num), .int .u64 ((lo (fe uq) : Nat) : Int), .string (hs (fe uq))] rfl
  simp only [setAll, List.set_cons_zero, List.set_cons_succ] at hP
  generalize hput1 : (((((x26.setCell ⟨kb8, 0, none⟩ (.int .u64 ((zl uq.num : Nat) : Int))).setCell ⟨kb8, 1, none⟩ (.string (zh uq.num))).setCell ⟨kb8, 2, none⟩ (.bool (zs uq.num))).setCell ⟨kb8, 3, none⟩ (.int .u64 ((lo (fe uq) : Nat) : Int))).setCell ⟨kb8, 4, none⟩ (.string (hs (fe uq)))) = x27 at hP hT1
  have hB1 := hP.fc
  simp only [zF, Nat.reduceAdd] at hB1
  replace hL0 := hP
  replace hT := hT1
  clear hT1
  have hT1 := hT.put ((((((Upd.refl kb9 x27).setCell 0 (.int .u64 ((zl vq.num : Nat) : Int))).setCell 1 (.string (zh vq.num))).setCell 2 (.bool (zs vq.num))).setCell 3 (.int .u64 ((lo (fe vq) : Nat) : Int))).setCell 4 (.string (hs (fe vq)))) (hL0.get _ _ mZ) (by intro v hv n; simp only [List.mem_cons, List.not_mem_nil, or_false] at hv; rcases hv with rfl | rfl | rfl | rfl | rfl <;> simp)
  have hP := hL0.put 0 (kb9) _ rfl [.int .u64 ((zl vq.num : Nat) : Int), .string (zh vq.num), .bool (zs vq.num), .int .u64 ((lo (fe vq) : Nat) : Int), .string (hs (fe vq))] rfl
  simp only [setAll, List.set_cons_zero, List.set_cons_succ] at hP
  generalize hput2 : (((((x27.setCell ⟨kb9, 0, none⟩ (.int .u64 ((zl vq.num : Nat) : Int))).setCell ⟨kb9, 1, none⟩ (.string (zh vq.num))).setCell ⟨kb9, 2, none⟩ (.bool (zs vq.num))).setCell ⟨kb9, 3, none⟩ (.int .u64 ((lo (fe vq) : Nat) : Int))).setCell ⟨kb9, 4, none⟩ (.string (hs (fe vq)))) = x28 at hP hT1
  have hB2 := hP.fc
  simp only [zF, Nat.reduceAdd] at hB2
  replace hL0 := hP
  replace hT := hT1
  clear hT1
  go_upto_region 15 with fail
  clear hput1 hB1 hput2 hB2
  clear hA
  refine region_tl 30 [EV (.slice g4 d4 g4c), EV (.agg #[.int .u64 ((zl xq.num : Nat) : Int), .string (zh xq.num), .bool (zs xq.num), .int .u64 ((lo (fe xq) : Nat) : Int), .string (hs (fe xq))]), EV (.agg #[.int .u64 ((zl yq.num : Nat) : Int), .string (zh yq.num), .bool (zs yq.num), .int .u64 ((lo (fe yq) : Nat) : Int), .string (hs (fe yq))]), EV (.agg #[.int .u64 ((zl wq.num : Nat) : Int), .string (zh wq.num), .bool (zs wq.num), .int .u64 ((lo (fe wq) : Nat) : Int), .string (hs (fe wq))]), EV (.agg #[.int .u64 ((zl uq.num : Nat) : Int), .string (zh uq.num), .bool (zs uq.num), .int .u64 ((lo (fe uq) : Nat) : Int), .string (hs (fe uq))]), EV (.agg #[.int .u64 ((zl vq.num : Nat) : Int), .string (zh vq.num), .bool (zs vq.num), .int .u64 ((lo (fe vq) : Nat) : Int), .string (hs (fe vq))]), EV (.agg #[.int .u64 ((zl wq.num : Nat) : Int), .string (zh wq.num), .bool (zs wq.num), .int .u64 ((lo (fe wq) : Nat) : Int), .string (hs (fe wq))]), EV (.bool false), EV (.bool false), EV (.slice g1 d1 g1c), EV (.slice g2 d2 g2c), PP s3, EV (.agg #[.int .u64 ((zl xq.num : Nat) : Int), .string (zh xq.num), .bool (zs xq.num), .int .u64 ((lo (fe xq) : Nat) : Int), .string (hs (fe xq))]), EV (.agg #[.int .u64 ((zl yq.num : Nat) : Int), .string (zh yq.num), .bool (zs yq.num), .int .u64 ((lo (fe yq) : Nat) : Int), .string (hs (fe yq))]), EV (.agg #[.int .u64 ((zl zq.num : Nat) : Int), .string (zh zq.num), .bool (zs zq.num), .int .u64 ((lo (fe zq) : Nat) : Int), .string (hs (fe zq))]), EV (.agg #[.int .u64 ((zl uq.num : Nat) : Int), .string (zh uq.num), .bool (zs uq.num), .int .u64 ((lo (fe uq) : Nat) : Int), .string (hs (fe uq))]), EV (.agg #[.int .u64 ((zl vq.num : Nat) : Int), .string (zh vq.num), .bool (zs vq.num), .int .u64 ((lo (fe vq) : Nat) : Int), .string (hs (fe vq))]), EV (.agg #[.int .u64 ((zl zq.num : Nat) : Int), .string (zh zq.num), .bool (zs zq.num), .int .u64 ((lo (fe zq) : Nat) : Int), .string (hs (fe zq))]), EV (.bool false), EV (.bool false), EV (.bool false), EV (.slice g1 d1 g1c), PP s7, EV (.agg #[.int .u64 ((zl xq.num : Nat) : Int), .string (zh xq.num), .bool (zs xq.num), .int .u64 ((lo (fe xq) : Nat) : Int), .string (hs (fe xq))]), EV (.agg #[.int .u64 ((zl yq.num : Nat) : Int), .string (zh yq.num), .bool (zs yq.num), .int .u64 ((lo (fe yq) : Nat) : Int), .string (hs (fe yq))]), EV (.agg #[.int .u64 ((zl mq.num : Nat) : Int), .string (zh mq.num), .bool (zs mq.num), .int .u64 ((lo (fe mq) : Nat) : Int), .string (hs (fe mq))]), EV (.agg #[.int .u64 ((zl uq.num : Nat) : Int), .string (zh uq.num), .bool (zs uq.num), .int .u64 ((lo (fe uq) : Nat) : Int), .string (hs (fe uq))]), EV (.agg #[.int .u64 ((zl mq.num : Nat) : Int), .string (zh mq.num), .bool (zs mq.num), .int .u64 ((lo (fe mq) : Nat) : Int), .string (hs (fe mq))]), EV (.bool false), EV (.bool false)] (by kernel_rfl) (by kernel_rfl) ?_ ?_ ?_
  ·repeat' first | exact stays_nil | apply stays_cons | exact stays_eq _ | exact stays_pt _
  ·simp only [List.take_succ_cons, List.take_zero, hopsR, and_true]
   refine ⟨?_, ?_, ?_, ?_, ?_, ?_, ?_, ?_, ?_, ?_, ?_, ?_, ?_, ?_, ?_, ?_, ?_, ?_, ?_, ?_, ?_, ?_, ?_, ?_, ?_, ?_, ?_, ?_, ?_, ?_⟩ <;> intro fv w1 hb1 hp
   all_goals (have hc := (hL0.call (below_drew hb1)).fc; simp only [zF, Nat.reduceAdd] at hc; simp only [putsV, Act.put, zP, Nat.zero_add, Nat.reduceAdd])
   ·refine tyAt_none rfl ?_
    simp [tyUpon, execOp, go_sem, Act.eval, Below.refl]
   ·refine tyAt_none rfl ?_
    simp [tyUpon, execOp, go_sem, Act.eval, hc, Below.refl]
   ·refine tyAt_none rfl ?_
    simp [tyUpon, execOp, go_sem, Act.eval, hc, Below.refl]
   ·have h0 : EV _ (fv 0) w1 := hp 0 (LC (by kernel_rfl))
    have h1 : EV _ (fv 1) w1 := hp 1 (LC (by kernel_rfl))
    have h2 : EV _ (fv 2) w1 := hp 2 (LC (by kernel_rfl))
    refine tyAt_none rfl ?_
    refine ty_call (f := 27) (args := #[.slice g4 d4 g4c, .agg #[.int .u64 ((zl xq.num : Nat) : Int), .string (zh xq.num), .bool (zs xq.num), .int .u64 ((lo (fe xq) : Nat) : Int), .string (hs (fe xq))], .agg #[.int .u64 ((zl yq.num : Nat) : Int), .string (zh yq.num), .bool (zs yq.num), .int .u64 ((lo (fe yq) : Nat) : Int), .string (hs (fe yq))]]) (by simp [execOp, go_sem, Act.eval, h0, h1, h2]) ?_
    exact (T3.out (.slice g4 d4 g4c) w1 (PT.below (hT.get (mK (mK (mK (mK (mK (mK (mK (mK (mK (mK (mK (mK (mK mZ)))))))))))))) (below_drew hb1))).mono fun e w2 ⟨h1, h2⟩ => ⟨_, h1, rfl, h2⟩
   ·refine tyAt_none rfl ?_
    simp [tyUpon, execOp, go_sem, Act.eval, hc, Below.refl]
   ·refine tyAt_none rfl ?_
    simp [tyUpon, execOp, go_sem, Act.eval, hc, Below.refl]
   ·have h4 : EV _ (fv 4) w1 := hp 4 (LC (by kernel_rfl))
    have h5 : EV _ (fv 5) w1 := hp 5 (LC (by kernel_rfl))
    refine tyAt_none rfl ?_
    refine ty_call (f := 28) (args := #[.agg #[.int .u64 ((zl uq.num : Nat) : Int), .string (zh uq.num), .bool (zs uq.num), .int .u64 ((lo (fe uq) : Nat) : Int), .string (hs (fe uq))], .agg #[.int .u64 ((zl vq.num : Nat) : Int), .string (zh vq.num), .bool (zs vq.num), .int .u64 ((lo (fe vq) : Nat) : Int), .string (hs (fe vq))]]) (by simp [execOp, go_sem, Act.eval, h4, h5]) ?_
    exact (F1.out w1).mono fun e w2 ⟨h1, h2⟩ => ⟨_, h1, rfl, h2⟩
   ·have h3 : EV _ (fv 3) w1 := hp 3 (LC (by kernel_rfl))
    have h6 : EV _ (fv 6) w1 := hp 6 (LC (by kernel_rfl))
    refine tyAt_none rfl ?_
    simp [tyUpon, execOp, go_sem, Act.eval, h3, h6, Below.refl]
   ·have h7 : EV _ (fv 7) w1 := hp 7 (LC (by kernel_rfl))
    refine tyAt_none rfl ?_
    simp [tyUpon, execOp, go_sem, Act.eval, h7, Below.refl]
   ·have h8 : EV _ (fv 8) w1 := hp 8 (LC (by kernel_rfl))
    refine tyAt_yes (by simp [Region.wanted, yielded, h8]) ?_
    simp [tyUpon, execOp, go_sem, Act.eval, h8, Below.refl]
   ·have h8 : EV _ (fv 8) w1 := hp 8 (LC (by kernel_rfl))
    refine tyAt_yes (by simp [Region.wanted, yielded, h8]) ?_
    simp [tyUpon, execOp, go_sem, Act.eval, h8, Below.refl]
   ·have h9 : EV _ (fv 9) w1 := hp 9 (LC (by kernel_rfl))
    have h10 : EV _ (fv 10) w1 := hp 10 (LC (by kernel_rfl))
    have h8 : EV _ (fv 8) w1 := hp 8 (LC (by kernel_rfl))
    refine tyAt_yes (by simp [Region.wanted, yielded, h9, h10, h8]) ?_
    refine ty_call (f := 24) (args := #[.slice g1 d1 g1c, .slice g2 d2 g2c]) (by simp [execOp, go_sem, Act.eval, h9, h10, h8]) ?_
    exact (A3.out (.slice g1 d1 g1c) (.slice g2 d2 g2c) w1 (PT.below (hT.get (mK (mK (mK (mK (mK (mK (mK (mK (mK (mK (mK (mK (mK (mK (mK (mK mZ))))))))))))))))) (below_drew hb1)) (PT.below (hT.get (mK (mK (mK (mK (mK (mK (mK (mK (mK (mK (mK (mK (mK (mK (mK mZ)))))))))))))))) (below_drew hb1))).mono fun e w2 ⟨pv, h1, h2, h3⟩ => ⟨pv, h1, h2, h3⟩
   ·have h8 : EV _ (fv 8) w1 := hp 8 (LC (by kernel_rfl))
    refine tyAt_yes (by simp [Region.wanted, yielded, h8]) ?_
    simp [tyUpon, execOp, go_sem, Act.eval, hc, h8, Below.refl]
   ·have h8 : EV _ (fv 8) w1 := hp 8 (LC (by kernel_rfl))
    refine tyAt_yes (by simp [Region.wanted, yielded, h8]) ?_
    simp [tyUpon, execOp, go_sem, Act.eval, hc, h8, Below.refl]
   ·have h11 : (PP s3) (fv 11) w1 := hp 11 (LC (by kernel_rfl))
    have h12 : EV _ (fv 12) w1 := hp 12 (LC (by kernel_rfl))
    have h13 : EV _ (fv 13) w1 := hp 13 (LC (by kernel_rfl))
    have h8 : EV _ (fv 8) w1 := hp 8 (LC (by kernel_rfl))
    refine tyAt_yes (by simp [Region.wanted, yielded, h12, h13, h8]) ?_
    refine ty_call (f := 27) (args := #[fv 11, .agg #[.int .u64 ((zl xq.num : Nat) : Int), .string (zh xq.num), .bool (zs xq.num), .int .u64 ((lo (fe xq) : Nat) : Int), .string (hs (fe xq))], .agg #[.int .u64 ((zl yq.num : Nat) : Int), .string (zh yq.num), .bool (zs yq.num), .int .u64 ((lo (fe yq) : Nat) : Int), .string (hs (fe yq))]]) (by simp [execOp, go_sem, Act.eval, h12, h13, h8]) ?_
    exact (T4.out (fv 11) w1 h11).mono fun e w2 ⟨h1, h2⟩ => ⟨_, h1, rfl, h2⟩
   ·have h8 : EV _ (fv 8) w1 := hp 8 (LC (by kernel_rfl))
    refine tyAt_yes (by simp [Region.wanted, yielded, h8]) ?_
    simp [tyUpon, execOp, go_sem, Act.eval, hc, h8, Below.refl]
   ·have h8 : EV _ (fv 8) w1 := hp 8 (LC (by kernel_rfl))
    refine tyAt_yes (by simp [Region.wanted, yielded, h8]) ?_
    simp [tyUpon, execOp, go_sem, Act.eval, hc, h8, Below.refl]
   ·have h15 : EV _ (fv 15) w1 := hp 15 (LC (by kernel_rfl))
    have h16 : EV _ (fv 16) w1 := hp 16 (LC (by kernel_rfl))
    have h8 : EV _ (fv 8) w1 := hp 8 (LC (by kernel_rfl))
    refine tyAt_yes (by simp [Region.wanted, yielded, h15, h16, h8]) ?_
    refine ty_call (f := 29) (args := #[.agg #[.int .u64 ((zl uq.num : Nat) : Int), .string (zh uq.num), .bool (zs uq.num), .int .u64 ((lo (fe uq) : Nat) : Int), .string (hs (fe uq))], .agg #[.int .u64 ((zl vq.num : Nat) : Int), .string (zh vq.num), .bool (zs vq.num), .int .u64 ((lo (fe vq) : Nat) : Int), .string (hs (fe vq))]]) (by simp [execOp, go_sem, Act.eval, h15, h16, h8]) ?_
    exact (F2.out w1).mono fun e w2 ⟨h1, h2⟩ => ⟨_, h1, rfl, h2⟩
   ·have h14 : EV _ (fv 14) w1 := hp 14 (LC (by kernel_rfl))
    have h17 : EV _ (fv 17) w1 := hp 17 (LC (by kernel_rfl))
    have h8 : EV _ (fv 8) w1 := hp 8 (LC (by kernel_rfl))
    refine tyAt_yes (by simp [Region.wanted, yielded, h14, h17, h8]) ?_
    simp [tyUpon, execOp, go_sem, Act.eval, h14, h17, h8, Below.refl]
   ·have h8 : EV _ (fv 8) w1 := hp 8 (LC (by kernel_rfl))
    have h18 : EV _ (fv 18) w1 := hp 18 (LC (by kernel_rfl))
    refine tyAt_none rfl ?_
    simp [tyUpon, execOp, go_sem, Act.eval, h8, h18, Below.refl]
   ·have h19 : EV _ (fv 19) w1 := hp 19 (LC (by kernel_rfl))
    refine tyAt_none rfl ?_
    simp [tyUpon, execOp, go_sem, Act.eval, h19, Below.refl]
   ·have h20 : EV _ (fv 20) w1 := hp 20 (LC (by kernel_rfl))
    refine tyAt_yes (by simp [Region.wanted, yielded, h20]) ?_
    simp [tyUpon, execOp, go_sem, Act.eval, h20, Below.refl]
   ·have h21 : EV _ (fv 21) w1 := hp 21 (LC (by kernel_rfl))
    have h20 : EV _ (fv 20) w1 := hp 20 (LC (by kernel_rfl))
    refine tyAt_yes (by simp [Region.wanted, yielded, h21, h20]) ?_
    refine ty_call (f := 30) (args := #[.slice g1 d1 g1c]) (by simp [execOp, go_sem, Act.eval, h21, h20]) ?_
    exact (N1.out (.slice g1 d1 g1c) w1 (PT.below (hT.get (mK (mK (mK (mK (mK (mK (mK (mK (mK (mK (mK (mK (mK (mK (mK (mK mZ))))))))))))))))) (below_drew hb1))).mono fun e w2 ⟨pv, h1, h2, h3⟩ => ⟨pv, h1, h2, h3⟩
   ·have h20 : EV _ (fv 20) w1 := hp 20 (LC (by kernel_rfl))
    refine tyAt_yes (by simp [Region.wanted, yielded, h20]) ?_
    simp [tyUpon, execOp, go_sem, Act.eval, hc, h20, Below.refl]
   ·have h20 : EV _ (fv 20) w1 := hp 20 (LC (by kernel_rfl))
    refine tyAt_yes (by simp [Region.wanted, yielded, h20]) ?_
    simp [tyUpon, execOp, go_sem, Act.eval, hc, h20, Below.refl]
   ·have h22 : (PP s7) (fv 22) w1 := hp 22 (LC (by kernel_rfl))
    have h23 : EV _ (fv 23) w1 := hp 23 (LC (by kernel_rfl))
    have h24 : EV _ (fv 24) w1 := hp 24 (LC (by kernel_rfl))
    have h20 : EV _ (fv 20) w1 := hp 20 (LC (by kernel_rfl))
    refine tyAt_yes (by simp [Region.wanted, yielded, h23, h24, h20]) ?_
    refine ty_call (f := 27) (args := #[fv 22, .agg #[.int .u64 ((zl xq.num : Nat) : Int), .string (zh xq.num), .bool (zs xq.num), .int .u64 ((lo (fe xq) : Nat) : Int), .string (hs (fe xq))], .agg #[.int .u64 ((zl yq.num : Nat) : Int), .string (zh yq.num), .bool (zs yq.num), .int .u64 ((lo (fe yq) : Nat) : Int), .string (hs (fe yq))]]) (by simp [execOp, go_sem, Act.eval, h23, h24, h20]) ?_
    exact (T5.out (fv 22) w1 h22).mono fun e w2 ⟨h1, h2⟩ => ⟨_, h1, rfl, h2⟩
   ·have h20 : EV _ (fv 20) w1 := hp 20 (LC (by kernel_rfl))
    refine tyAt_yes (by simp [Region.wanted, yielded, h20]) ?_
    simp [tyUpon, execOp, go_sem, Act.eval, hc, h20, Below.refl]
   ·have h26 : EV _ (fv 26) w1 := hp 26 (LC (by kernel_rfl))
    have h20 : EV _ (fv 20) w1 := hp 20 (LC (by kernel_rfl))
    refine tyAt_yes (by simp [Region.wanted, yielded, h26, h20]) ?_
    refine ty_call (f := 31) (args := #[.agg #[.int .u64 ((zl uq.num : Nat) : Int), .string (zh uq.num), .bool (zs uq.num), .int .u64 ((lo (fe uq) : Nat) : Int), .string (hs (fe uq))]]) (by simp [execOp, go_sem, Act.eval, h26, h20]) ?_
    exact (F3.out w1).mono fun e w2 ⟨h1, h2⟩ => ⟨_, h1, rfl, h2⟩
   ·have h25 : EV _ (fv 25) w1 := hp 25 (LC (by kernel_rfl))
    have h27 : EV _ (fv 27) w1 := hp 27 (LC (by kernel_rfl))
    have h20 : EV _ (fv 20) w1 := hp 20 (LC (by kernel_rfl))
    refine tyAt_yes (by simp [Region.wanted, yielded, h25, h27, h20]) ?_
    simp [tyUpon, execOp, go_sem, Act.eval, h25, h27, h20, Below.refl]
   ·have h20 : EV _ (fv 20) w1 := hp 20 (LC (by kernel_rfl))
    have h28 : EV _ (fv 28) w1 := hp 28 (LC (by kernel_rfl))
    refine tyAt_none rfl ?_
    simp [tyUpon, execOp, go_sem, Act.eval, h20, h28, Below.refl]
  ·intro fv x29 hb1 hv
   have e0 : fv 0 = _ := hv 0 (by omega)
   have e1 : fv 1 = _ := hv 1 (by omega)
   have e2 : fv 2 = _ := hv 2 (by omega)
   have e3 : fv 3 = _ := hv 3 (by omega)
   have e4 : fv 4 = _ := hv 4 (by omega)
   have e5 : fv 5 = _ := hv 5 (by omega)
   have e6 : fv 6 = _ := hv 6 (by omega)
   have e7 : fv 7 = _ := hv 7 (by omega)
   have e8 : fv 8 = _ := hv 8 (by omega)
   have e9 : fv 9 = _ := hv 9 (by omega)
   have e10 : fv 10 = _ := hv 10 (by omega)
   have q11 : PT x29 (fv 11) s3 := hv 11 (by omega)
   obtain ⟨g18, d18, g18c, e11, -⟩ := pt_form q11
   rw [e11] at q11
   have e12 : fv 12 = _ := hv 12 (by omega)
   have e13 : fv 13 = _ := hv 13 (by omega)
   have e14 : fv 14 = _ := hv 14 (by omega)
   have e15 : fv 15 = _ := hv 15 (by omega)
   have e16 : fv 16 = _ := hv 16 (by omega)
   have e17 : fv 17 = _ := hv 17 (by omega)
   have e18 : fv 18 = _ := hv 18 (by omega)
   have e19 : fv 19 = _ := hv 19 (by omega)
   have e20 : fv 20 = _ := hv 20 (by omega)
   have e21 : fv 21 = _ := hv 21 (by omega)
   have q22 : PT x29 (fv 22) s7 := hv 22 (by omega)
   obtain ⟨g19, d19, g19c, e22, -⟩ := pt_form q22
   rw [e22] at q22
   have e23 : fv 23 = _ := hv 23 (by omega)
   have e24 : fv 24 = _ := hv 24 (by omega)
   have e25 : fv 25 = _ := hv 25 (by omega)
   have e26 : fv 26 = _ := hv 26 (by omega)
   have e27 : fv 27 = _ := hv 27 (by omega)
   have e28 : fv 28 = _ := hv 28 (by omega)
   have e29 : fv 29 = _ := hv 29 (by omega)
   simp only [List.take_succ_cons, List.take_zero, putsV, Act.put, zP, List.drop_succ_cons, List.drop_zero, Nat.zero_add, Nat.reduceAdd, e0, e1, e2, e3, e4, e5, e6, e7, e8, e9, e10, e11, e12, e13, e14, e15, e16, e17, e18, e19, e20, e21, e22, e23, e24, e25, e26, e27, e28, e29]
   replace hL0 := hL0.call (below_drew hb1)
   replace hT := hT.call (below_drew hb1)
   replace hT := hT.cons q11
   replace hT := hT.cons q22
   clear e0 e1 e2 e3 e4 e5 e6 e7 e8 e9 e10 e11 e12 e13 e14 e15 e16 e17 e18 e19 e20 e21 e22 e23 e24 e25 e26 e27 e28 e29 hb1 hv q11 q22 fv
   by_cases za : d1 = 0
   ·skip
    have zp : d4 = 0 := by rw [d4h.out]; exact hnil.out (.inl (by rw [← d1h.out]; exact za))
    clear d1h d4h
    subst za
    subst zp
    go_wp2_with fail
    with_reducible refine Calls.mono (HW.out _ (hKT.out.at hL0.bl kKT)) ?_
    rintro e x30 ⟨rfl, hb⟩
    replace hL0 := hL0.call hb
    replace hT := hT.call hb
    clear hb
    go_wp2_with fail
    exact bodyPost_ret (v := .bool true) (by simp [results, Tryz.results4, go_sem]) rfl ⟨rfl, hL0.bl⟩
   ·skip
    have ya : ¬ ((d1 : Int) = 0) := by omega
    have xa : d1 ≠ 0 := za
    replace xa := Lib.hid xa
    clear za
    by_cases za : d2 = 0
    ·skip
     have zp : d4 = 0 := by rw [d4h.out]; exact hnil.out (.inr (by rw [← d2h.out]; exact za))
     clear d2h d4h
     subst za
     subst zp
     go_wp2_with fail
     with_reducible refine Calls.mono (HW.out _ (hKT.out.at hL0.bl kKT)) ?_
     rintro e x30 ⟨rfl, hb⟩
     replace hL0 := hL0.call hb
     replace hT := hT.call hb
     clear hb
     go_wp2_with fail
     exact bodyPost_ret (v := .bool true) (by simp [results, Tryz.results4, go_sem]) rfl ⟨rfl, hL0.bl⟩
    ·skip
     have yb : ¬ ((d2 : Int) = 0) := by omega
     obtain ⟨e1, e2⟩ := hdeg.out (by rw [← d1h.out]; exact xa.out) (by rw [← d2h.out]; exact za)
     have yd : ((d2 : Int) == 0) = false := beq_eq_false_iff_ne.2 yb
     have yc : ((d1 : Int) == 0) = false := beq_eq_false_iff_ne.2 ya
     have ye : ¬ (d1 = 0) := xa.out
     clear xa
     go_wp2_with fail
     with_reducible refine Calls.mono (G1.out (.slice g4 d4 g4c) _ (hT.get (mK (mK (mK (mK (mK (mK (mK (mK (mK (mK (mK (mK (mK (mK (mK mZ))))))))))))))))) ?_
     rintro e x30 ⟨rfl, hb⟩
     replace hL0 := hL0.call hb
     replace hT := hT.call hb
     clear hb
     go_wp2_with fail
     with_reducible refine Calls.mono (G2.out (.slice g1 d1 g1c) _ (hT.get (mK (mK (mK (mK (mK (mK (mK (mK (mK (mK (mK (mK (mK (mK (mK (mK (mK (mK mZ)))))))))))))))))))) ?_
     rintro e x31 ⟨rfl, hb⟩
     replace hL0 := hL0.call hb
     replace hT := hT.call hb
     clear hb
     go_wp2_with fail
     with_reducible refine Calls.mono (G3.out (.slice g2 d2 g2c) _ (hT.get (mK (mK (mK (mK (mK (mK (mK (mK (mK (mK (mK (mK (mK (mK (mK (mK (mK mZ))))))))))))))))))) ?_
     rintro e x32 ⟨rfl, hb⟩
     replace hL0 := hL0.call hb
     replace hT := hT.call hb
     clear hb
     go_wp2_with fail
     with_reducible refine Calls.mono (HW.out _ (hKT.out.at hL0.bl kKT)) ?_
     rintro e x33 ⟨rfl, hb⟩
     replace hL0 := hL0.call hb
     replace hT := hT.call hb
     clear hb
     go_wp2_with fail
     exact bodyPost_ret (v := .bool true) (by simp [results, Tryz.results4, go_sem]) rfl ⟨rfl, hL0.bl⟩
end Go.Proofs.YtkpghlnegbimdaaGreatDoor
namespace Go.Proofs.YtkpghlnegbimdaaGreatDoor
open Go.RowKit
attribute [local irreducible] lo hs sm s64 c64 d64 b64 mh ml pd pc qd qc val hiB str cmpI srD lz nb zl zh zs fe klT ordZ Bs
theorem scaleN_eqv (c : Rat) (p : TL) : Eqv (scaleN c p) (scaleL c p) := nfL_eqv _
theorem mul_comm8 (p q : TL) : mulN p q = mulN q p :=
 nf_uniq (nfL_nf _) (nfL_nf _) ((mulN_eqv p q).trans ((prod_comm p q).trans (mulN_eqv q p).symm))
theorem mul_assoc8 (p q r : TL) : mulN (mulN p q) r = mulN p (mulN q r) :=
 nf_uniq (nfL_nf _) (nfL_nf _) ((mulN_eqv _ _).trans ((prod_eqv (mulN_eqv p q) (Eqv.refl r)).trans ((prod_assoc p q r).trans (Eqv.symm ((mulN_eqv _ _).trans (prod_eqv (Eqv.refl p) (mulN_eqv q r)))))))
theorem mul_add8 (p q r : TL) : mulN p (addN q r) = addN (mulN p q) (mulN p r) :=
 nf_uniq (nfL_nf _) (nfL_nf _) ((mulN_eqv _ _).trans ((prod_eqv (Eqv.refl p) (addN_eqv q r)).trans ((prod_add p q r).trans (Eqv.symm ((addN_eqv _ _).trans (add_eqv (mulN_eqv p q) (mulN_eqv p r)))))))
theorem add_comm8 (p q : TL) : addN p q = addN q p :=
 nf_uniq (nfL_nf _) (nfL_nf _) ((addN_eqv p q).trans ((add_comm' p q).trans (addN_eqv q p).symm))
theorem sub_add8 {p : TL} (hp : NF p) (q : TL) : addN (addN p q) (scaleN (-1) q) = p :=
 nf_uniq (nfL_nf _) hp fun F => by
  rw [addN_eqv _ _ F, pair_append, addN_eqv p q F, pair_append, scaleN_eqv _ _ F, pair_scale]; grind
theorem sub_self8 (p : TL) : addN p (scaleN (-1) p) = [] :=
 nf_uniq (nfL_nf _) NF.nil fun F => by
  rw [addN_eqv _ _ F, pair_append, scaleN_eqv _ _ F, pair_scale]
  show _ = (0 : Rat)
  grind
theorem at_mul8 (p q : TL) (x y : Rat) : atL (mulN p q) x y = atL p x y * atL q x y := (at_eqv (mulN_eqv p q) x y).trans (at_prod p q x y)
theorem at_add8 (p q : TL) (x y : Rat) : atL (addN p q) x y = atL p x y + atL q x y := (at_eqv (addN_eqv p q) x y).trans (at_add p q x y)
theorem at_neg8 (p : TL) (x y : Rat) : atL (scaleN (-1) p) x y = -atL p x y := (at_eqv (scaleN_eqv (-1) p) x y).trans ((pair_scale _ _ _).trans (by show -1 * atL p x y = _; grind))
theorem nil_mul8 (q : TL) : mulN [] q = [] := rfl
theorem mul_nil8 (q : TL) : mulN q [] = [] := by rw [mul_comm8]; rfl
theorem deg_mul8 {p q : TL} (hp : NF p) (hq : NF q) (h : p ≠ []) (g : q ≠ []) : mulN p q ≠ [] ∧ degI (mulN p q) = degI p + degI q := by
 obtain ⟨h0, e⟩ := prod_degree (r := mulN p q) hp hq (nfL_nf _) (mulN_eqv p q) h g
 refine ⟨h0, ?_⟩
 rw [degI_last h0, degI_last h, degI_last g]
 omega
theorem at_sz {p : TL} {d K k : Nat} {x y : Rat} (h : GP p d K) (hd : d ≤ 12) (hK : K ≤ 2000) (hx : Sz x k) (hy : Sz y k) (hk : k ≤ 100) : Sz (atL p x y) 1000000 := by
 rw [← qsum_at]
 have sx : ∀ i, i ≤ 12 → Sz (x ^ i) 1201 := fun i hi => (hx.pow i).mono (by have : k * i ≤ 100 * 12 := Nat.mul_le_mul hk hi; omega)
 have sy : ∀ i, i ≤ 12 → Sz (y ^ i) 1201 := fun i hi => (hy.pow i).mono (by have : k * i ≤ 100 * 12 := Nat.mul_le_mul hk hi; omega)
 have hb : ∀ t ∈ p, t.1 ≤ 12 ∧ t.2.1 ≤ 12 := fun t ht => by have := h.tb t ht; omega
 have hz := qsum_sz (k := 4402) (p.map fun t => t.2.2 * (x ^ t.1 * y ^ t.2.1)) 1 0 (sz_0 (by omega)) (fun q hq => by
  obtain ⟨t, ht, rfl⟩ := List.mem_map.1 hq
  exact ((h.sz.mem ht).mul ((sx _ (hb t ht).1).mul (sy _ (hb t ht).2))).mono (by omega))
 refine hz.mono ?_
 rw [List.length_map]
 have h1 : p.length * (4402 + 1) ≤ 169 * 4403 := Nat.mul_le_mul_right _ (h.len hd)
 omega
end Go.Proofs.YtkpghlnegbimdaaGreatDoor
namespace Go.Proofs.YtkpghlnegbimdaaGreatDoor
open Go.RowKit
attribute [local irreducible] lo hs sm s64 c64 d64 b64 mh ml pd pc qd qc val hiB str cmpI srD lz nb zl zh zs fe klT ordZ
theorem pring_any (l m n : List RI) (hl : RO l) (hm : RO m) (hn : RO n) (n3 d3 n4 d4 : Int) (hbn3 : -9223372036854775808 ≤ n3 ∧ n3 < 9223372036854775808) (hbd3 : 0 ≤ d3 ∧ d3 < 4294967296) (hbn4 : -9223372036854775808 ≤ n4 ∧ n4 < 9223372036854775808) (hbd4 : 0 ≤ d4 ∧ d4 < 4294967296)
  (al am an : Option Addr) (nl cl nm cm nn cn : Nat) (w : World) (hv : RW8 w (.slice al nl cl) l) (hu : RW8 w (.slice am nm cm) m) (hz : RW8 w (.slice an nn cn) n) (ht : Tab w) :
  Calls Tryz.prog 4 #[.slice al nl cl, .slice am nm cm, .slice an nn cn, .agg #[.int .i64 n3, .int .u32 d3], .agg #[.int .i64 n4, .int .u32 d4]] w fun e w' => e = .returned (.bool true) ∧ Below w.heap.size w w' := by
 have n1 := (rt_parts hv).1
 have n2 := (rt_parts hu).1
 have n5 := (rt_parts hz).1
 by_cases g1 : 8 < nl
 ·exact pring_l1 al am an nl cl nm cm nn cn n3 d3 n4 d4 Tab Keeps.tab lworks_any (decide_eq_true (by omega)) (decide_eq_true g1) w ht
 by_cases g2 : 8 < nm
 ·exact pring_l2 al am an nl cl nm cm nn cn n3 d3 n4 d4 Tab Keeps.tab lworks_any (decide_eq_false (by omega)) (decide_eq_false g1) (decide_eq_true (by omega)) (decide_eq_true g2) w ht
 by_cases g3 : 8 < nn
 ·exact pring_l3 al am an nl cl nm cm nn cn n3 d3 n4 d4 Tab Keeps.tab lworks_any (decide_eq_false (by omega)) (decide_eq_false g1) (decide_eq_false (by omega)) (decide_eq_false g2) (decide_eq_true (by omega)) (decide_eq_true g3) w ht
 have ga := made_gp hl (by omega) (D := 4) (by omega)
 have gb := made_gp hm (by omega) (D := 4) (by omega)
 have gc := made_gp hn (by omega) (D := 4) (by omega)
 have hA := fun w hv => made_any hl (by omega) (D := 4) (by omega) al nl cl w hv
 have hB := fun w hv => made_any hm (by omega) (D := 4) (by omega) am nm cm w hv
 have hC := fun w hv => made_any hn (by omega) (D := 4) (by omega) an nn cn w hv
 generalize nrm (madeL l 4) = A at ga hA
 generalize nrm (madeL m 4) = B at gb hB
 generalize nrm (madeL n 4) = C at gc hC
 have gab := ga.mul gb
 have gba := gb.mul ga
 have gbc := gb.mul gc
 have gac := ga.mul gc
 have h5 := gab.mul gc
 have h6 := ga.mul gbc
 have hs1 := gb.add gc
 have h7 := ga.mul hs1
 have hs2 := gab.add gac
 have hs3 := ga.add gb
 have hs4 := gb.add ga
 have hs5 := hs3.add (gb.scale sz_m1)
 have hs6 := ga.add (ga.scale sz_m1)
 have hs7 := ga.scale sz_m1
 have hx := qmade_sz n3 d3.toNat hbn3.1 hbn3.2 (by omega)
 have hy := qmade_sz n4 d4.toNat hbn4.1 hbn4.2 (by omega)
 have su := at_sz ga (by omega) (by omega) hx hy (by omega)
 have sv := at_sz gb (by omega) (by omega) hx hy (by omega)
 have da := degI_ge A
 have db := degI_ge B
 have ea := degI_le ga.tb
 have eb := degI_le gb.tb
 generalize hX : qmade n3 d3.toNat = X at *
 generalize hY : qmade n4 d4.toNat = Y at *
 refine pring_w al am an nl cl nm cm nn cn n3 d3 n4 d4 (ofL A) (ofL B) (ofL (mulN A B)) (ofL C) (ofL (mulN B A)) (ofL (mulN B C)) (ofL (mulN A C)) (ofL (mulN (mulN A B) C)) (ofL (mulN A (mulN B C))) (ofL (mulN A (addN B C))) (ofL (addN B C)) (ofL (addN (mulN A B) (mulN A C))) (ofL (addN A B)) (ofL (addN B A)) (ofL (addN (addN A B) (scaleN (-1) B))) (ofL (addN A (scaleN (-1) A))) (ofL (scaleN (-1) A))
  X Y (atL A X Y) (atL B X Y) (atL (mulN A B) X Y) (atL (addN A B) X Y) (atL (scaleN (-1) A) X Y) (degI A) (degI B) (degI (mulN A B))
  (fun w => RW8 w (.slice al nl cl) l) (rtKeeps _ _) hA (fun w => RW8 w (.slice am nm cm) m) (rtKeeps _ _) hB (fun w => RW8 w (.slice an nn cn) n) (rtKeeps _ _) hC
  (fun p q w h g => mulG ga gb (by omega) (by omega) w p q h g)
  (fun p q w h g => mulG gb ga (by omega) (by omega) w p q h g)
  (fun p q w h g => mulG gb gc (by omega) (by omega) w p q h g)
  (fun p q w h g => mulG ga gc (by omega) (by omega) w p q h g)
  (fun p q w h g => mulG gab gc (by omega) (by omega) w p q h g)
  (fun p q w h g => mulG ga gbc (by omega) (by omega) w p q h g)
  (fun p q w h g => addG gb gc (by omega) (by omega) (by omega) w p q h g)
  (fun p q w h g => mulG ga hs1 (by omega) (by omega) w p q h g)
  (fun p q w h g => by have := sameG gab gba (by omega) (by omega) (by omega) (by omega) w p q h g; rwa [decide_eq_true (mul_comm8 A B)] at this)
  (fun p q w h g => by have := sameG h5 h6 (by omega) (by omega) (by omega) (by omega) w p q h g; rwa [decide_eq_true (mul_assoc8 A B C)] at this)
  (fun p q w h g => addG gab gac (by omega) (by omega) (by omega) w p q h g)
  (fun p q w h g => by have := sameG h7 hs2 (by omega) (by omega) (by omega) (by omega) w p q h g; rwa [decide_eq_true (mul_add8 A B C)] at this)
  (fun p q w h g => addG ga gb (by omega) (by omega) (by omega) w p q h g)
  (fun p q w h g => addG gb ga (by omega) (by omega) (by omega) w p q h g)
  (fun p q w h g => by have := sameG hs3 hs4 (by omega) (by omega) (by omega) (by omega) w p q h g; rwa [decide_eq_true (add_comm8 A B)] at this)
  (fun p q w h g => subG hs3 gb (by omega) (by omega) (by omega) w p q h g)
  (fun p q w h g => by have := sameG hs5 ga (by omega) (by omega) (by omega) (by omega) w p q h g; rwa [decide_eq_true (sub_add8 ga.nf B)] at this)
  (fun p q w h g => subG ga ga (by omega) (by omega) (by omega) w p q h g)
  (fun p w h => by have := degG hs6 (by omega) (by omega) w p h; rw [sub_self8] at this; exact this)
  (fun w => by rw [← hX]; exact qof_any n3 d3 hbn3.1 hbn3.2 hbd3.1 hbd3.2 w)
  (fun w => by rw [← hY]; exact qof_any n4 d4 hbn4.1 hbn4.2 hbd4.1 hbd4.2 w)
  (fun p w h => atG ga (by omega) (by omega) hx hy (by omega) w p h)
  (fun p w h => atG gb (by omega) (by omega) hx hy (by omega) w p h)
  (fun p w h => atG gab (by omega) (by omega) hx hy (by omega) w p h)
  (fun w => by have := mulF _ _ _ su sv (by omega) w; rwa [← at_mul8] at this)
  (fun p w h => atG hs3 (by omega) (by omega) hx hy (by omega) w p h)
  (fun w => by have := addF _ _ _ su sv (by omega) w; rwa [← at_add8] at this)
  (fun p w h => negG ga (by omega) (by omega) w p h)
  (fun p w h => atG hs7 (by omega) (by omega) hx hy (by omega) w p h)
  (fun w => by have := negF (atL A X Y) w; rwa [← at_neg8] at this)
  (fun p w h => degG gab (by omega) (by omega) w p h)
  (fun p w h => degG ga (by omega) (by omega) w p h)
  (fun p w h => degG gb (by omega) (by omega) w p h)
  Tab Keeps.tab lworks_any (decide_eq_false (by omega)) (decide_eq_false g1) (decide_eq_false (by omega)) (decide_eq_false g2) (decide_eq_false (by omega)) (decide_eq_false g3)
  (fun h => by
   rw [ofL_length, ofL_length] at h
   rw [ofL_length]
   rcases h with h | h
   ·rw [List.length_eq_zero_iff.1 h, nil_mul8]; rfl
   ·rw [List.length_eq_zero_iff.1 h, mul_nil8]; rfl)
  (fun h1 h2 => by
   rw [ofL_length] at h1 h2
   have := (deg_mul8 ga.nf gb.nf (fun e => h1 (by rw [e]; rfl)) (fun e => h2 (by rw [e]; rfl))).2
   rw [this]
   exact ⟨by simp [IntKind.wrap, IntKind.bits, IntKind.signed]; omega, by simp [wrap64]; omega⟩) w hv hu hz ht
end Go.Proofs.YtkpghlnegbimdaaGreatDoor
namespace Go.Proofs.YtkpghlnegbimdaaGreatDoor
open Go.ChangeShapes Go.WideShapes Go.ChangeAt Go.RowKit Go.Joins
section
variable {H : Type} {enc : TypeId × Value → H} {P : Program} {w : World} {base : Nat} {spare : Nat → Bool} {held : Bool}
theorem trodAll_five {t t1 t2 t3 t4 : TypeId} {args : Array Value} {ds : List (DataW H)} {ps : List MemPlace} (h : DataW.TrodAll enc P w base spare held [t, t1, t2, t3, t4] args.toList ds ps) :
  ∃ v v1 v2 v3 v4 d d1 d2 d3 d4 p p1 p2 p3 p4, args = #[v, v1, v2, v3, v4] ∧ ds = [d, d1, d2, d3, d4] ∧ ps = p ++ p1 ++ p2 ++ p3 ++ p4 ∧ DataW.Trod enc P w base spare held t v d p ∧ DataW.Trod enc P w base spare held t1 v1 d1 p1 ∧ DataW.Trod enc P w base spare held t2 v2 d2 p2 ∧ DataW.Trod enc P w base spare held t3 v3 d3 p3 ∧ DataW.Trod enc P w base spare held t4 v4 d4 p4 := by
 obtain ⟨v, vs, d, ds1, p, q, hargs, rfl, rfl, hd, hr⟩ := trodAll_cons h
 obtain ⟨v1, vs1, d1, ds2, p1, q1, rfl, rfl, rfl, hd1, hr1⟩ := trodAll_cons hr
 obtain ⟨v2, vs2, d2, ds3, p2, q2, rfl, rfl, rfl, hd2, hr2⟩ := trodAll_cons hr1
 obtain ⟨v3, vs3, d3, ds4, p3, q3, rfl, rfl, rfl, hd3, hr3⟩ := trodAll_cons hr2
 obtain ⟨v4, vs4, d4, ds5, p4, q4, rfl, rfl, rfl, hd4, hr4⟩ := trodAll_cons hr3
 obtain ⟨rfl, rfl, rfl⟩ := trodAll_nil hr4
 exact ⟨v, v1, v2, v3, v4, d, d1, d2, d3, d4, p, p1, p2, p3, p4, by cases args; simp_all, rfl, by simp, hd, hd1, hd2, hd3, hd4⟩
theorem trodAll_mk5 {t t1 t2 t3 t4 : TypeId} {v v1 v2 v3 v4 : Value} {d d1 d2 d3 d4 : DataW H} {p p1 p2 p3 p4 : List MemPlace} (h : DataW.Trod enc P w base spare held t v d p) (h1 : DataW.Trod enc P w base spare held t1 v1 d1 p1)
  (h2 : DataW.Trod enc P w base spare held t2 v2 d2 p2) (h3 : DataW.Trod enc P w base spare held t3 v3 d3 p3) (h4 : DataW.Trod enc P w base spare held t4 v4 d4 p4) : DataW.TrodAll enc P w base spare held [t, t1, t2, t3, t4] [v, v1, v2, v3, v4] [d, d1, d2, d3, d4] (p ++ (p1 ++ (p2 ++ (p3 ++ p4)))) := ⟨p, p1 ++ (p2 ++ (p3 ++ p4)), h, trodAll_mk4 h1 h2 h3 h4, rfl⟩
end
end Go.Proofs.YtkpghlnegbimdaaGreatDoor
