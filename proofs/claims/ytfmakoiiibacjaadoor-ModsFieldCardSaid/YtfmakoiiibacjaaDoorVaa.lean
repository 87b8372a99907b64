/-
  The law answers true at every input, and leaves its arguments as they were: a part of the proof. CONDITIONS: the package-level tables start as the program's text lays them (the card ties them).
-/
import Derived.Test.YtfmakoiiibacjaaDoorZaf
set_option linter.unusedVariables false
set_option linter.unusedSimpArgs false
namespace Go.Proofs.YtfmakoiiibacjaaDoor
theorem subN_self (a p : Nat) : subN a a p = 0 := by
 unfold subN
 rw [← rsd_add_l]
 have := rsd_le a p
 rw [show rsd a p + (p - rsd a p) = p by omega]
 unfold rsd; split
 ·rfl
 ·rw [Nat.mod_self]
theorem invB_iff {a p : Nat} : invB a p = true ↔ p ≠ 0 ∧ Nat.gcd a p = 1 := by
 have hi := inv_is a p
 constructor
 ·intro hb
  rcases hi with ⟨h, h1, h2⟩ | ⟨h, h1, h2⟩
  ·exact ⟨by omega, inv_gcd h2 (by omega)⟩
  ·rw [h] at hb; cases hb
 ·rintro ⟨k1, k2⟩
  rcases hi with ⟨h, h1, h2⟩ | ⟨h, h1, h2⟩
  ·exact h
  ·rcases h2 with h2 | h2
   ·exact absurd h2 k1
   ·exact absurd k2 h2
end Go.Proofs.YtfmakoiiibacjaaDoor
namespace Go.Proofs.YtfmakoiiibacjaaDoor
open Go.RowKit
attribute [local irreducible] lo hs sm s64 c64 d64 b64 mh ml pd pc qd qc val hiB str cmpI srD lz nb
theorem region_cls {P : Program} {α : Type} {F : α → World} {id : Nat} {Q : Exit → Act → World → Prop} {a : Act} {w : World} {l : List Oper} (hm : P.follows .mixedOrders = true) (hB : Region.lexB .any l.toArray = true)
  (hC : ∃ x, w.drew = F x) (h : wpQuiet P l.toArray (fun w' => ∃ x, w' = F x) (fun a' => ∀ w', (∃ x, w' = F x) → Q .normal a' w') l a) : (Code.region id l.toArray true).wp P Q a w :=
 wp_region_quiet (C := fun w' => ∃ x, w' = F x) hm hB hC (by simpa using h)
end Go.Proofs.YtfmakoiiibacjaaDoor
namespace Go.Proofs.YtfmakoiiibacjaaDoor
theorem pr_5 : isPr 5 := isPr_of (n := 1) (by decide) (by decide) (by decide +kernel)
theorem pr_7 : isPr 7 := isPr_of (n := 1) (by decide) (by decide) (by decide +kernel)
theorem pr_11 : isPr 11 := isPr_of (n := 2) (by decide) (by decide) (by decide +kernel)
theorem pr_101 : isPr 101 := isPr_of (n := 9) (by decide) (by decide) (by decide +kernel)
theorem pr_257 : isPr 257 := isPr_of (n := 15) (by decide) (by decide) (by decide +kernel)
theorem pr_10007 : isPr 10007 := isPr_of (n := 99) (by decide) (by decide) (by decide +kernel)
theorem pr_65537 : isPr 65537 := isPr_of (n := 255) (by decide) (by decide) (by decide +kernel)
theorem pr_1000003 : isPr 1000003 := isPr_of (n := 999) (by decide) (by decide) (by decide +kernel)
theorem pr_16777259 : isPr 16777259 := isPr_of (n := 4095) (by decide) (by decide) (by decide +kernel)
theorem pr_2147483629 : isPr 2147483629 := isPr_of (n := 46340) (by decide) (by decide) (by decide +kernel)
end Go.Proofs.YtfmakoiiibacjaaDoor
namespace Go.Proofs.YtfmakoiiibacjaaDoor
/-- Every operation waits for earlier ones alone, and what comes behind it waits for it or is apart from it. -/
def fastFrom (md : Region.Mode) (ops : Array Oper) : Nat → List Oper → Bool
 | _, [] => true
 | k, o :: l => (o.after.all fun e => !Region.binds md e || decide (e.on < k)) &&
   (l.all fun oj => (oj.after.any fun e => Region.binds md e && e.on == k) || o.apart ops oj) && fastFrom md ops (k + 1) l
def fastB (md : Region.Mode) (l : List Oper) : Bool := Region.noSelect l.toArray && fastFrom md l.toArray 0 l
def preL (s n : Nat) : Array Bool := ((List.range s).map fun i => decide (i < n)).toArray
theorem preL_get (s n i : Nat) (d : Bool) : (preL s n).getD i d = if i < s then decide (i < n) else d := by
 unfold preL
 by_cases h : i < s
 ·simp [h]
 ·simp [h]
theorem preL_set (s n : Nat) : (preL s n).setIfInBounds n true = preL s (n + 1) := by
 apply Array.ext
 ·simp [preL]
 ·intro i h1 h2
  simp only [preL, List.setIfInBounds_toArray, List.getElem_toArray]
  by_cases e : n = i
  ·subst e; simp
  ·rw [List.getElem_set_ne e]
   simp only [List.getElem_map, List.getElem_range]
   by_cases h : i < n
   ·rw [decide_eq_true h, decide_eq_true (by omega)]
   ·rw [decide_eq_false h, decide_eq_false (by omega)]
theorem preL_zero (s : Nat) : preL s 0 = Array.replicate s false := by
 apply Array.ext
 ·simp [preL]
 ·intro i h1 h2; simp [preL]
theorem lexFrom_of_fast {md : Region.Mode} {ops : Array Oper} : ∀ (l : List Oper) (k : Nat), (∀ j, l[j]? = ops[k + j]?) → k + l.length = ops.size → fastFrom md ops k l = true → Region.lexFrom md ops l.length k (preL ops.size k) = true
 | [], k, hl, hs, _ => by
  have : Region.ready md ops (preL ops.size k) = [] := by
   apply List.eq_nil_iff_forall_not_mem.2
   intro j hj
   obtain ⟨h1, o, ho, -⟩ := mem_ready.1 hj
   have hj' : j < ops.size := (Array.getElem?_eq_some_iff.1 ho).1
   rw [preL_get, if_pos hj', decide_eq_true (by simp at hs; omega)] at h1
   cases h1
  simp [Region.lexFrom, this]
 | o :: l, k, hl, hs, h => by
  have h0 : ops[k]? = some o := by simpa using (hl 0).symm
  have hk : k < ops.size := (Array.getElem?_eq_some_iff.1 h0).1
  simp only [fastFrom, Bool.and_eq_true] at h
  obtain ⟨⟨hw, hf⟩, hr⟩ := h
  simp only [List.length_cons, Region.lexFrom, Bool.and_eq_true]
  refine ⟨⟨List.contains_iff_mem.2 (mem_ready.2 ⟨by rw [preL_get, if_pos hk, decide_eq_false (by omega)], o, h0, fun e he hb => ?_⟩), ?_⟩, ?_⟩
  ·have h1 := (Array.all_eq_true_iff_forall_mem.1 hw) e he
   simp only [hb, Bool.not_true, Bool.false_or, decide_eq_true_eq] at h1
   rw [preL_get, if_pos (by omega), decide_eq_true h1]
  ·simp only [Region.free, h0, List.all_eq_true, List.mem_range]
   intro j hj
   by_cases e : j = k
   ·simp [e]
   ·by_cases hjk : j < k
    ·rw [preL_get, if_pos hj, decide_eq_true hjk]; simp
    ·have h2 : l[j - k - 1]? = ops[j]? := by
      have := hl (j - k)
      rw [show k + (j - k) = j by omega] at this
      rw [← this, show j - k = (j - k - 1) + 1 by omega, List.getElem?_cons_succ]
      rfl
     rw [Array.getElem?_eq_getElem hj] at h2
     have h3 := (List.all_eq_true.1 hf) ops[j] (List.mem_of_getElem? h2)
     rw [Array.getElem?_eq_getElem hj]
     simp only [Bool.or_eq_true] at h3 ⊢
     exact .inr h3
  ·rw [preL_set]
   exact lexFrom_of_fast l (k + 1) (fun j => by have := hl (j + 1); simpa [Nat.add_assoc, Nat.add_comm 1 j] using this) (by simp at hs; omega) hr
theorem lexB_of_fast {md : Region.Mode} {l : List Oper} (h : fastB md l = true) : Region.lexB md l.toArray = true := by
 simp only [fastB, Bool.and_eq_true] at h
 simp only [Region.lexB, Bool.and_eq_true]
 refine ⟨h.1, ?_⟩
 have := lexFrom_of_fast (md := md) (ops := l.toArray) l 0 (fun j => by simp) (by simp) h.2
 rw [preL_zero] at this
 simpa using this
end Go.Proofs.YtfmakoiiibacjaaDoor
namespace Go.Proofs.YtfmakoiiibacjaaDoor
open Go.RowKit
attribute [local irreducible] lo hs sm s64 c64 d64 b64 mh ml pd pc qd qc val hiB str cmpI srD lz nb zl zh zs rsd subN invV invB
set_option maxHeartbeats 4000000 in
set_option maxRecDepth 100000 in
theorem mfield_zero_w (a b c i p x m s u t o f g d r : Int) (H0 : ∀ w, Calls Tryd.prog 22 #[.int .u32 i] w fun xe w' => xe = .returned (.int .u32 p) ∧ Below w.heap.size w w') (A1 : ∀ w, Calls Tryd.prog 15 #[.int .u32 a, .int .u32 b, .int .u32 p] w fun xe w' => xe = .returned (.int .u32 x) ∧ Below w.heap.size w w') (A2 : ∀ w, Calls Tryd.prog 15 #[.int .u32 b, .int .u32 a, .int .u32 p] w fun xe w' => xe = .returned (.int .u32 x) ∧ Below w.heap.size w w') (M1 : ∀ w, Calls Tryd.prog 19 #[.int .u32 a, .int .u32 b, .int .u32 p] w fun xe w' => xe = .returned (.int .u32 m) ∧ Below w.heap.size w w') (M2 : ∀ w, Calls Tryd.prog 19 #[.int .u32 b, .int .u32 a, .int .u32 p] w fun xe w' => xe = .returned (.int .u32 m) ∧ Below w.heap.size w w') (A3 : ∀ w, Calls Tryd.prog 15 #[.int .u32 x, .int .u32 c, .int .u32 p] w fun xe w' => xe = .returned (.int .u32 s) ∧ Below w.heap.size w w') (A4 : ∀ w, Calls Tryd.prog 15 #[.int .u32 b, .int .u32 c, .int .u32 p] w fun xe w' => xe = .returned (.int .u32 u) ∧ Below w.heap.size w w') (A5 : ∀ w, Calls Tryd.prog 15 #[.int .u32 a, .int .u32 u, .int .u32 p] w fun xe w' => xe = .returned (.int .u32 s) ∧ Below w.heap.size w w') (M3 : ∀ w, Calls Tryd.prog 19 #[.int .u32 m, .int .u32 c, .int .u32 p] w fun xe w' => xe = .returned (.int .u32 t) ∧ Below w.heap.size w w') (M4 : ∀ w, Calls Tryd.prog 19 #[.int .u32 b, .int .u32 c, .int .u32 p] w fun xe w' => xe = .returned (.int .u32 o) ∧ Below w.heap.size w w') (M5 : ∀ w, Calls Tryd.prog 19 #[.int .u32 a, .int .u32 o, .int .u32 p] w fun xe w' => xe = .returned (.int .u32 t) ∧ Below w.heap.size w w') (M6 : ∀ w, Calls Tryd.prog 19 #[.int .u32 a, .int .u32 u, .int .u32 p] w fun xe w' => xe = .returned (.int .u32 f) ∧ Below w.heap.size w w') (M7 : ∀ w, Calls Tryd.prog 19 #[.int .u32 a, .int .u32 c, .int .u32 p] w fun xe w' => xe = .returned (.int .u32 g) ∧ Below w.heap.size w w') (A6 : ∀ w, Calls Tryd.prog 15 #[.int .u32 m, .int .u32 g, .int .u32 p] w fun xe w' => xe = .returned (.int .u32 f) ∧ Below w.heap.size w w') (S1 : ∀ w, Calls Tryd.prog 17 #[.int .u32 a, .int .u32 b, .int .u32 p] w fun xe w' => xe = .returned (.int .u32 d) ∧ Below w.heap.size w w') (S2 : ∀ w, Calls Tryd.prog 17 #[.int .u32 a, .int .u32 a, .int .u32 p] w fun xe w' => xe = .returned (.int .u32 0) ∧ Below w.heap.size w w') (A7 : ∀ w, Calls Tryd.prog 15 #[.int .u32 d, .int .u32 b, .int .u32 p] w fun xe w' => xe = .returned (.int .u32 0) ∧ Below w.heap.size w w') (HI : ∀ w, Calls Tryd.prog 13 #[.int .u32 a, .int .u32 p] w fun xe w' => xe = .returned (.tuple #[.int .u32 0, .bool false]) ∧ Below w.heap.size w w') (P1 : ∀ w, Calls Tryd.prog 20 #[.int .u32 a, .int .u64 r, .int .u32 p] w fun xe w' => xe = .returned (.int .u32 0) ∧ Below w.heap.size w w') (KT : World → Prop) (hKT : Keeps KT) (HW : ∀ w, KT w → Calls Tryd.prog 12 #[] w fun xe w' => xe = .returned (.bool true) ∧ Below w.heap.size w w') (hp0 : (p == 0) = false) (hp1 : p ≠ 0) (hr1 : p - 1 = r) (hr2 : r % 4294967296 = r) (hr3 : r % 18446744073709551616 = r) (hy : a.tmod p = 0) (w : World) (kKT : KT w) :
  Calls Tryd.prog 5 #[.int .u32 a, .int .u32 b, .int .u32 c, .int .u32 i] w fun xe w' => xe = .returned (.bool true) ∧ Below w.heap.size w w' := by
 have hL0 : GL w w [] := GL.start w
 replace H0 := Lib.hid H0
 replace A1 := Lib.hid A1
 replace A2 := Lib.hid A2
 replace M1 := Lib.hid M1
 replace M2 := Lib.hid M2
 replace A3 := Lib.hid A3
 replace A4 := Lib.hid A4
 replace A5 := Lib.hid A5
 replace M3 := Lib.hid M3
 replace M4 := Lib.hid M4
 replace M5 := Lib.hid M5
 replace M6 := Lib.hid M6
 replace M7 := Lib.hid M7
 replace A6 := Lib.hid A6
 replace S1 := Lib.hid S1
 replace S2 := Lib.hid S2
 replace A7 := Lib.hid A7
 replace HI := Lib.hid HI
 replace P1 := Lib.hid P1
 replace hKT := Lib.hid hKT
 replace HW := Lib.hid HW
 go_enter Tryd.func5, Tryd.ntmps5
 go_wp2_with fail
 with_reducible refine Calls.mono (H0.out _) ?_
 rintro e x1 ⟨rfl, hb⟩
 replace hL0 := hL0.call hb
 clear hb
 go_upto_region 2 with fail
 obtain ⟨α, iα, F, hF1, hF2⟩ := cls x1
 refine region_cls (F := F) (by kernel_rfl) (lexB_of_fast (by kernel_rfl)) (cls_drew hF2) ?_
 simp only [List.append]
 repeat (go_big_quiet_step (first | fail | (go_at_call 15; with_reducible exact cls_call hF1 hF2 A1.out _) | (go_at_call 15; with_reducible exact cls_call hF1 hF2 A2.out _) | (go_at_call 19; with_reducible exact cls_call hF1 hF2 M1.out _) | (go_at_call 19; with_reducible exact cls_call hF1 hF2 M2.out _) | (go_at_call 15; with_reducible exact cls_call hF1 hF2 A3.out _) | (go_at_call 15; with_reducible exact cls_call hF1 hF2 A4.out _) | (go_at_call 15; with_reducible exact cls_call hF1 hF2 A5.out _) | (go_at_call 19; with_reducible exact cls_call hF1 hF2 M3.out _) | (go_at_call 19; with_reducible exact cls_call hF1 hF2 M4.out _) | (go_at_call 19; with_reducible exact cls_call hF1 hF2 M5.out _) | (go_at_call 19; with_reducible exact cls_call hF1 hF2 M6.out _) | (go_at_call 19; with_reducible exact cls_call hF1 hF2 M7.out _) | (go_at_call 15; with_reducible exact cls_call hF1 hF2 A6.out _) | (go_at_call 17; with_reducible exact cls_call hF1 hF2 S1.out _) | (go_at_call 15; with_reducible exact cls_call hF1 hF2 A7.out _) | (go_at_call 17; with_reducible exact cls_call hF1 hF2 S2.out _)))
 refine wpQuiet_nil ?_
 rintro wq ⟨xq, rfl⟩
 replace hL0 := hL0.call (hF1 xq)
 clear  hF2
 generalize F xq = x2 at hL0 ⊢
 clear hF1 xq iα F α
 go_wp2_with fail
 with_reducible refine Calls.mono (HI.out _) ?_
 rintro e x3 ⟨rfl, hb⟩
 replace hL0 := hL0.call hb
 clear hb
 go_wp2_with fail
 with_reducible refine Calls.mono (P1.out _) ?_
 rintro e x4 ⟨rfl, hb⟩
 replace hL0 := hL0.call hb
 clear hb
 go_wp2_with fail
 with_reducible refine Calls.mono (HW.out _ (hKT.out.at hL0.bl kKT)) ?_
 rintro e x5 ⟨rfl, hb⟩
 replace hL0 := hL0.call hb
 clear hb
 go_wp2_with fail
 exact bodyPost_ret (v := .bool true) (by simp [results, Tryd.results5, go_sem]) rfl ⟨rfl, hL0.bl⟩
set_option maxHeartbeats 4000000 in
set_option maxRecDepth 100000 in
theorem mfield_pos_w (a b c i p x m s u t o f g d r y v q : Int) (H0 : ∀ w, Calls Tryd.prog 22 #[.int .u32 i] w fun xe w' => xe = .returned (.int .u32 p) ∧ Below w.heap.size w w') (A1 : ∀ w, Calls Tryd.prog 15 #[.int .u32 a, .int .u32 b, .int .u32 p] w fun xe w' => xe = .returned (.int .u32 x) ∧ Below w.heap.size w w') (A2 : ∀ w, Calls Tryd.prog 15 #[.int .u32 b, .int .u32 a, .int .u32 p] w fun xe w' => xe = .returned (.int .u32 x) ∧ Below w.heap.size w w') (M1 : ∀ w, Calls Tryd.prog 19 #[.int .u32 a, .int .u32 b, .int .u32 p] w fun xe w' => xe = .returned (.int .u32 m) ∧ Below w.heap.size w w') (M2 : ∀ w, Calls Tryd.prog 19 #[.int .u32 b, .int .u32 a, .int .u32 p] w fun xe w' => xe = .returned (.int .u32 m) ∧ Below w.heap.size w w') (A3 : ∀ w, Calls Tryd.prog 15 #[.int .u32 x, .int .u32 c, .int .u32 p] w fun xe w' => xe = .returned (.int .u32 s) ∧ Below w.heap.size w w') (A4 : ∀ w, Calls Tryd.prog 15 #[.int .u32 b, .int .u32 c, .int .u32 p] w fun xe w' => xe = .returned (.int .u32 u) ∧ Below w.heap.size w w') (A5 : ∀ w, Calls Tryd.prog 15 #[.int .u32 a, .int .u32 u, .int .u32 p] w fun xe w' => xe = .returned (.int .u32 s) ∧ Below w.heap.size w w') (M3 : ∀ w, Calls Tryd.prog 19 #[.int .u32 m, .int .u32 c, .int .u32 p] w fun xe w' => xe = .returned (.int .u32 t) ∧ Below w.heap.size w w') (M4 : ∀ w, Calls Tryd.prog 19 #[.int .u32 b, .int .u32 c, .int .u32 p] w fun xe w' => xe = .returned (.int .u32 o) ∧ Below w.heap.size w w') (M5 : ∀ w, Calls Tryd.prog 19 #[.int .u32 a, .int .u32 o, .int .u32 p] w fun xe w' => xe = .returned (.int .u32 t) ∧ Below w.heap.size w w') (M6 : ∀ w, Calls Tryd.prog 19 #[.int .u32 a, .int .u32 u, .int .u32 p] w fun xe w' => xe = .returned (.int .u32 f) ∧ Below w.heap.size w w') (M7 : ∀ w, Calls Tryd.prog 19 #[.int .u32 a, .int .u32 c, .int .u32 p] w fun xe w' => xe = .returned (.int .u32 g) ∧ Below w.heap.size w w') (A6 : ∀ w, Calls Tryd.prog 15 #[.int .u32 m, .int .u32 g, .int .u32 p] w fun xe w' => xe = .returned (.int .u32 f) ∧ Below w.heap.size w w') (S1 : ∀ w, Calls Tryd.prog 17 #[.int .u32 a, .int .u32 b, .int .u32 p] w fun xe w' => xe = .returned (.int .u32 d) ∧ Below w.heap.size w w') (S2 : ∀ w, Calls Tryd.prog 17 #[.int .u32 a, .int .u32 a, .int .u32 p] w fun xe w' => xe = .returned (.int .u32 0) ∧ Below w.heap.size w w') (A7 : ∀ w, Calls Tryd.prog 15 #[.int .u32 d, .int .u32 b, .int .u32 p] w fun xe w' => xe = .returned (.int .u32 y) ∧ Below w.heap.size w w') (HI : ∀ w, Calls Tryd.prog 13 #[.int .u32 a, .int .u32 p] w fun xe w' => xe = .returned (.tuple #[.int .u32 v, .bool true]) ∧ Below w.heap.size w w') (M8 : ∀ w, Calls Tryd.prog 19 #[.int .u32 a, .int .u32 v, .int .u32 p] w fun xe w' => xe = .returned (.int .u32 1) ∧ Below w.heap.size w w') (P1 : ∀ w, Calls Tryd.prog 20 #[.int .u32 a, .int .u64 r, .int .u32 p] w fun xe w' => xe = .returned (.int .u32 1) ∧ Below w.heap.size w w') (P2 : ∀ w, Calls Tryd.prog 20 #[.int .u32 a, .int .u64 q, .int .u32 p] w fun xe w' => xe = .returned (.int .u32 v) ∧ Below w.heap.size w w') (KT : World → Prop) (hKT : Keeps KT) (HW : ∀ w, KT w → Calls Tryd.prog 12 #[] w fun xe w' => xe = .returned (.bool true) ∧ Below w.heap.size w w') (hp0 : (p == 0) = false) (hp1 : p ≠ 0) (hr1 : p - 1 = r) (hr2 : r % 4294967296 = r) (hr3 : r % 18446744073709551616 = r) (hy : a.tmod p = y) (hy1 : y % 4294967296 = y) (hy2 : (y == 0) = false) (hv : v < p) (hq1 : p - 2 = q) (hq2 : q % 4294967296 = q) (hq3 : q % 18446744073709551616 = q) (w : World) (kKT : KT w) :
  Calls Tryd.prog 5 #[.int .u32 a, .int .u32 b, .int .u32 c, .int .u32 i] w fun xe w' => xe = .returned (.bool true) ∧ Below w.heap.size w w' := by
 have hL0 : GL w w [] := GL.start w
 replace H0 := Lib.hid H0
 replace A1 := Lib.hid A1
 replace A2 := Lib.hid A2
 replace M1 := Lib.hid M1
 replace M2 := Lib.hid M2
 replace A3 := Lib.hid A3
 replace A4 := Lib.hid A4
 replace A5 := Lib.hid A5
 replace M3 := Lib.hid M3
 replace M4 := Lib.hid M4
 replace M5 := Lib.hid M5
 replace M6 := Lib.hid M6
 replace M7 := Lib.hid M7
 replace A6 := Lib.hid A6
 replace S1 := Lib.hid S1
 replace S2 := Lib.hid S2
 replace A7 := Lib.hid A7
 replace HI := Lib.hid HI
 replace M8 := Lib.hid M8
 replace P1 := Lib.hid P1
 replace P2 := Lib.hid P2
 replace hKT := Lib.hid hKT
 replace HW := Lib.hid HW
 go_enter Tryd.func5, Tryd.ntmps5
 go_wp2_with fail
 with_reducible refine Calls.mono (H0.out _) ?_
 rintro e x1 ⟨rfl, hb⟩
 replace hL0 := hL0.call hb
 clear hb
 go_upto_region 2 with fail
 obtain ⟨α, iα, F, hF1, hF2⟩ := cls x1
 refine region_cls (F := F) (by kernel_rfl) (lexB_of_fast (by kernel_rfl)) (cls_drew hF2) ?_
 simp only [List.append]
 repeat (go_big_quiet_step (first | fail | (go_at_call 15; with_reducible exact cls_call hF1 hF2 A1.out _) | (go_at_call 15; with_reducible exact cls_call hF1 hF2 A2.out _) | (go_at_call 19; with_reducible exact cls_call hF1 hF2 M1.out _) | (go_at_call 19; with_reducible exact cls_call hF1 hF2 M2.out _) | (go_at_call 15; with_reducible exact cls_call hF1 hF2 A3.out _) | (go_at_call 15; with_reducible exact cls_call hF1 hF2 A4.out _) | (go_at_call 15; with_reducible exact cls_call hF1 hF2 A5.out _) | (go_at_call 19; with_reducible exact cls_call hF1 hF2 M3.out _) | (go_at_call 19; with_reducible exact cls_call hF1 hF2 M4.out _) | (go_at_call 19; with_reducible exact cls_call hF1 hF2 M5.out _) | (go_at_call 19; with_reducible exact cls_call hF1 hF2 M6.out _) | (go_at_call 19; with_reducible exact cls_call hF1 hF2 M7.out _) | (go_at_call 15; with_reducible exact cls_call hF1 hF2 A6.out _) | (go_at_call 17; with_reducible exact cls_call hF1 hF2 S1.out _) | (go_at_call 15; with_reducible exact cls_call hF1 hF2 A7.out _) | (go_at_call 17; with_reducible exact cls_call hF1 hF2 S2.out _)))
 refine wpQuiet_nil ?_
 rintro wq ⟨xq, rfl⟩
 replace hL0 := hL0.call (hF1 xq)
 clear  hF2
 generalize F xq = x2 at hL0 ⊢
 clear hF1 xq iα F α
 go_wp2_with fail
 with_reducible refine Calls.mono (HI.out _) ?_
 rintro e x3 ⟨rfl, hb⟩
 replace hL0 := hL0.call hb
 clear hb
 go_wp2_with fail
 with_reducible refine Calls.mono (M8.out _) ?_
 rintro e x4 ⟨rfl, hb⟩
 replace hL0 := hL0.call hb
 clear hb
 go_wp2_with fail
 with_reducible refine Calls.mono (P1.out _) ?_
 rintro e x5 ⟨rfl, hb⟩
 replace hL0 := hL0.call hb
 clear hb
 go_wp2_with fail
 with_reducible refine Calls.mono (P2.out _) ?_
 rintro e x6 ⟨rfl, hb⟩
 replace hL0 := hL0.call hb
 clear hb
 go_wp2_with fail
 with_reducible refine Calls.mono (HW.out _ (hKT.out.at hL0.bl kKT)) ?_
 rintro e x7 ⟨rfl, hb⟩
 replace hL0 := hL0.call hb
 clear hb
 go_wp2_with fail
 exact bodyPost_ret (v := .bool true) (by simp [results, Tryd.results5, go_sem]) rfl ⟨rfl, hL0.bl⟩
end Go.Proofs.YtfmakoiiibacjaaDoor
namespace Go.Proofs.YtfmakoiiibacjaaDoor
open Go.RowKit
/-- The law's primes. -/
def pP (i : Nat) : Nat := [2, 3, 5, 7, 11, 101, 257, 10007, 65537, 1000003, 16777259, 2147483629, 2147483647].getD (i % 13) 0
theorem pP_pr (i : Nat) : isPr (pP i) ∧ pP i < 2147483648 := by
 have h : i % 13 < 13 := Nat.mod_lt _ (by omega)
 unfold pP
 generalize i % 13 = j at h
 obtain rfl | rfl | rfl | rfl | rfl | rfl | rfl | rfl | rfl | rfl | rfl | rfl | rfl : j = 0 ∨ j = 1 ∨ j = 2 ∨ j = 3 ∨ j = 4 ∨ j = 5 ∨ j = 6 ∨ j = 7 ∨ j = 8 ∨ j = 9 ∨ j = 10 ∨ j = 11 ∨ j = 12 := by omega
 ·exact ⟨pr_2, by decide⟩
 ·exact ⟨pr_3, by decide⟩
 ·exact ⟨pr_5, by decide⟩
 ·exact ⟨pr_7, by decide⟩
 ·exact ⟨pr_11, by decide⟩
 ·exact ⟨pr_101, by decide⟩
 ·exact ⟨pr_257, by decide⟩
 ·exact ⟨pr_10007, by decide⟩
 ·exact ⟨pr_65537, by decide⟩
 ·exact ⟨pr_1000003, by decide⟩
 ·exact ⟨pr_16777259, by decide⟩
 ·exact ⟨pr_2147483629, by decide⟩
 ·exact ⟨pr_2147483647, by decide⟩
set_option maxHeartbeats 8000000 in
set_option maxRecDepth 100000 in
theorem mP_any (i : Nat) (hi : i < 4294967296) (w : World) :
  Calls Tryd.prog 22 #[.int .u32 (i : Int)] w fun e w' => e = .returned (.int .u32 ((pP i : Nat) : Int)) ∧ Below w.heap.size w w' := by
 have h : i % 13 < 13 := Nat.mod_lt _ (by omega)
 have e0 : (i : Int) % 13 = ((i % 13 : Nat) : Int) := by push_cast; rfl
 have e1 : pP i = [2, 3, 5, 7, 11, 101, 257, 10007, 65537, 1000003, 16777259, 2147483629, 2147483647].getD (i % 13) 0 := rfl
 have hb : Below w.heap.size w (w.alloc (.cells #[.int .u32 2, .int .u32 3, .int .u32 5, .int .u32 7, .int .u32 11, .int .u32 101, .int .u32 257, .int .u32 10007, .int .u32 65537, .int .u32 1000003, .int .u32 16777259, .int .u32 2147483629, .int .u32 2147483647] 22)) := (Below.refl _ _).alloc (Nat.le_refl _) _
 generalize i % 13 = j at *
 obtain rfl | rfl | rfl | rfl | rfl | rfl | rfl | rfl | rfl | rfl | rfl | rfl | rfl : j = 0 ∨ j = 1 ∨ j = 2 ∨ j = 3 ∨ j = 4 ∨ j = 5 ∨ j = 6 ∨ j = 7 ∨ j = 8 ∨ j = 9 ∨ j = 10 ∨ j = 11 ∨ j = 12 := by omega
 all_goals (
  replace e1 := Lib.hid e1
  clear h
  go_enter Tryd.func22, Tryd.ntmps22
  go_wp2_with fail
  go_ret
  exact ⟨by rw [e1.out]; rfl, hb⟩)
end Go.Proofs.YtfmakoiiibacjaaDoor
namespace Go.Proofs.YtfmakoiiibacjaaDoor
open Go.RowKit
theorem adM {p x y r : Nat} (hp : p < 4294967296) (hx : x < 4294967296) (hy : y < 4294967296) (h : rsd (x + y) p = r) (w : World) :
  Calls Tryd.prog 15 #[.int .u32 (x : Int), .int .u32 (y : Int), .int .u32 (p : Int)] w fun e w' => e = .returned (.int .u32 (r : Int)) ∧ Below w.heap.size w w' := toBelow (by have := madd_any x y p hx hy hp w; rwa [h] at this)
theorem suM {p x y r : Nat} (hp : p < 4294967296) (hx : x < 4294967296) (hy : y < 4294967296) (h : subN x y p = r) (w : World) :
  Calls Tryd.prog 17 #[.int .u32 (x : Int), .int .u32 (y : Int), .int .u32 (p : Int)] w fun e w' => e = .returned (.int .u32 (r : Int)) ∧ Below w.heap.size w w' := toBelow (by have := msub_any x y p hx hy hp w; rwa [h] at this)
theorem mfield_any (a b c i : Nat) (ha : a < 4294967296) (hb : b < 4294967296) (hc : c < 4294967296) (hi : i < 4294967296) (w : World) (hT : T32 w) :
  Calls Tryd.prog 5 #[.int .u32 (a : Int), .int .u32 (b : Int), .int .u32 (c : Int), .int .u32 (i : Int)] w fun e w' => e = .returned (.bool true) ∧ Below w.heap.size w w' := by
 have H0 := fun w => mP_any i hi w
 obtain ⟨hpr, hpl⟩ := pP_pr i
 generalize pP i = p at *
 have h1 := hpr.1
 have hp : p < 4294967296 := by omega
 have hne : p ≠ 0 := by omega
 have L := fun n => rsd_lt32 n hp
 have hm : (a : Int).tmod (p : Int) = ((rsd a p : Nat) : Int) := by rw [rsd_pos hne, Int.tmod_eq_emod_of_nonneg (by omega)]; push_cast; rfl
 have A1 := adM hp ha hb (r := rsd (a + b) p) rfl
 have A2 := adM hp hb ha (r := rsd (a + b) p) (by rw [Nat.add_comm])
 have M1 := muM hp ha hb (r := rsd (a * b) p) rfl
 have M2 := muM hp hb ha (r := rsd (a * b) p) (by rw [Nat.mul_comm])
 have A3 := adM hp (L (a + b)) hc (r := rsd (a + b + c) p) (rsd_add_l _ _ _)
 have A4 := adM hp hb hc (r := rsd (b + c) p) rfl
 have A5 := adM hp ha (L (b + c)) (r := rsd (a + b + c) p) (by rw [rsd_add_r, Nat.add_assoc])
 have M3 := muM hp (L (a * b)) hc (r := rsd (a * b * c) p) (rsd_mul_l _ _ _)
 have M4 := muM hp hb hc (r := rsd (b * c) p) rfl
 have M5 := muM hp ha (L (b * c)) (r := rsd (a * b * c) p) (by rw [rsd_mul_r, Nat.mul_assoc])
 have M6 := muM hp ha (L (b + c)) (r := rsd (a * (b + c)) p) (rsd_mul_r _ _ _)
 have M7 := muM hp ha hc (r := rsd (a * c) p) rfl
 have A6 := adM hp (L (a * b)) (L (a * c)) (r := rsd (a * (b + c)) p) (by rw [rsd_add_l, rsd_add_r, Nat.mul_add])
 have S1 := suM hp ha hb (r := subN a b p) rfl
 have S2 := suM hp ha ha (r := 0) (subN_self a p)
 have A7 := adM hp (subN_lt32 a b hp) hb (r := rsd a p) (subN_add a b p)
 have k0 : ((p : Int) == 0) = false := by simp; omega
 have k1 : (p : Int) ≠ 0 := by omega
 have k2 : (p : Int) - 1 = ((p - 1 : Nat) : Int) := by omega
 have k3 : ((p - 1 : Nat) : Int) % 4294967296 = ((p - 1 : Nat) : Int) := by omega
 have k4 : ((p - 1 : Nat) : Int) % 18446744073709551616 = ((p - 1 : Nat) : Int) := by omega
 by_cases hd : p ∣ a
 ·have hz : rsd a p = 0 := by rw [rsd_pos hne]; exact Nat.mod_eq_zero_of_dvd hd
  rw [hz] at hm A7
  have HI := fun w => minv_is a p 0 false ha hp (.inr ⟨rfl, rfl, .inr (by rw [Nat.gcd_eq_right hd]; omega)⟩) w
  have P1 := poM hp ha (n := p - 1) (by omega) (r := 0) (by rw [rsd_pos hne]; exact mod_zero_pow (by omega) hd)
  exact mfield_zero_w a b c i p _ _ _ _ _ _ _ _ _ ((p - 1 : Nat) : Int) H0 A1 A2 M1 M2 A3 A4 A5 M3 M4 M5 M6 M7 A6 S1 S2 A7 HI P1 T32 Keeps.t32 mworks_any k0 k1 k2 k3 k4 hm w hT
 ·have hz : rsd a p ≠ 0 := by rw [rsd_pos hne]; exact fun e => hd (Nat.dvd_of_mod_eq_zero e)
  have hL := L a
  have hg := pr_coprime hpr hd
  have hg2 : Nat.gcd a p = 1 := by first | exact hg | exact hg.symm
  have hB : invB a p = true := invB_iff.2 ⟨hne, hg2⟩
  have HI := fun w => minv_any a p ha hp w
  rw [hB] at HI
  have hf := fermat_one hpr hd
  have hI := inv_is a p
  rw [hB] at hI
  have hv : invV a p < p ∧ a * invV a p % p = 1 := by
   rcases hI with ⟨_, q1, q2⟩ | ⟨q, _⟩
   ·exact ⟨q1, by rw [q2, Nat.mod_eq_of_lt h1]⟩
   ·cases q
  have hpv : rsd (a ^ (p - 2)) p = invV a p := by
   have : IsInv a p (rsd (a ^ (p - 2)) p) true := .inl ⟨rfl, rsd_lt hne, by
    rw [rsd_pos hne, Nat.mul_mod_mod, ← Nat.pow_succ', show (p - 2).succ = p - 1 by omega, hf, Nat.mod_eq_of_lt h1]⟩
   exact (inv_eq this).1.symm
  have M8 := muM hp ha (y := invV a p) (by omega) (r := 1) (by rw [rsd_pos hne]; exact hv.2)
  have P1 := poM hp ha (n := p - 1) (by omega) (r := 1) (by rw [rsd_pos hne]; exact hf)
  have P2 := poM hp ha (n := p - 2) (by omega) (r := invV a p) hpv
  exact mfield_pos_w a b c i p _ _ _ _ _ _ _ _ _ ((p - 1 : Nat) : Int) ((rsd a p : Nat) : Int) ((invV a p : Nat) : Int) ((p - 2 : Nat) : Int) H0 A1 A2 M1 M2 A3 A4 A5 M3 M4 M5 M6 M7 A6 S1 S2 A7 HI M8 P1 P2 T32 Keeps.t32 mworks_any k0 k1 k2 k3 k4 hm
   (by omega) (by simp; omega) (by have := hv.1; omega) (by omega) (by omega) (by omega) w hT
end Go.Proofs.YtfmakoiiibacjaaDoor
namespace Go.Proofs.YtfmakoiiibacjaaDoor.modsField
open Go.ChangeShapes Go.WideShapes Go.ChangeAt Go.RowKit
set_option maxRecDepth 100000 in
theorem contract (H : Type) (enc : TypeId × Value → H) (W : World) (base : Nat) (args : Array Value) (ds gs : List (DataW H)) (before : List MemPlace)
  (hval : ∀ (j : Nat) t v, Tryd.f5.params[j]? = some t → args[j]? = some v → Value.okWide Tryd.prog W .any base t v)
  (hW : DataW.Whole enc Tryd.prog Tryd.f5.params.toList Rows.modsFieldSpec.vars false W args.toList ds gs before) (hL : laidMetH Tryd.prog Rows.modsFieldRow.laid W) (hSh : W.ShapedOpen Tryd.prog) :
  Calls Tryd.prog 5 args W fun e W' => ∃ v, e = .returned v ∧ Rows.modsFieldSpec.post enc Tryd.prog Tryd.f5 false true false false W args v W' := by
 have hW' := hW
 obtain ⟨p, q, hA0, hV, rfl, _, _⟩ := hW
 have hA : DataW.TrodAll enc Tryd.prog W 0 (fun _ => true) true Tryd.f5.params.toList args.toList ds p := hA0
 rw [Tryd.params5] at hA hval
 obtain ⟨v0, v1, v2, v3, e0, e1, e2, e3, p0, p1, p2, p3, rfl, rfl, rfl, h0, h1, h2, h3⟩ := trodAll_four hA
 obtain ⟨rfl, rfl⟩ := trodVars_none hV
 clear hA0
 simp only [List.append_nil] at hW'
 have hlt : ∀ x ∈ p0 ++ p1 ++ p2 ++ p3, x.block < W.heap.size := fun x hx => by simpa using hW'.lt x hx
 obtain ⟨z0, rfl, rfl, rfl, f0⟩ := open_int Tryd.underlying22 (hval 0 22 v0 rfl rfl) h0
 have b0 := bounds_u32 f0
 obtain ⟨n0, rfl⟩ : ∃ n : Nat, z0 = (n : Int) := ⟨z0.toNat, by omega⟩
 obtain ⟨z1, rfl, rfl, rfl, f1⟩ := open_int Tryd.underlying22 (hval 1 22 v1 rfl rfl) h1
 have b1 := bounds_u32 f1
 obtain ⟨n1, rfl⟩ : ∃ n : Nat, z1 = (n : Int) := ⟨z1.toNat, by omega⟩
 obtain ⟨z2, rfl, rfl, rfl, f2⟩ := open_int Tryd.underlying22 (hval 2 22 v2 rfl rfl) h2
 have b2 := bounds_u32 f2
 obtain ⟨n2, rfl⟩ : ∃ n : Nat, z2 = (n : Int) := ⟨z2.toNat, by omega⟩
 obtain ⟨z3, rfl, rfl, rfl, f3⟩ := open_int Tryd.underlying22 (hval 3 22 v3 rfl rfl) h3
 have b3 := bounds_u32 f3
 obtain ⟨n3, rfl⟩ : ∃ n : Nat, z3 = (n : Int) := ⟨z3.toNat, by omega⟩
 refine (mfield_any n0 n1 n2 n3 (by omega) (by omega) (by omega) (by omega) W (t32_of hL)).mono fun e W' ⟨he, hb⟩ => ?_
 subst he
 refine ⟨_, rfl, _, _, _, [], ?pl, [], hW', ?_, ?_, rfl, hb.frame _, fun h => by cases h⟩
 rotate_left
 ·exact trodAll_mk1 (shut_bool Tryd.underlying4 _)
 ·exact trodAll_mk4 (shut_int Tryd.underlying22 f0) (shut_int Tryd.underlying22 f1) (shut_int Tryd.underlying22 f2) (shut_int Tryd.underlying22 f3)
/-- A world for the witness: the settled one, the tables as their initialisers lay them. -/
noncomputable def laidWorld (os : Os) : World := World.laidAll Tryd.prog os Rows.modsFieldRow.laid
theorem laid_met (os : Os) : laidMet Tryd.prog Rows.modsFieldRow.laid ((laidWorld os).forCall (fun _ _ => 0) ⟨#[], #[.int .u32 0, .int .u32 0, .int .u32 0, .int .u32 0], []⟩).memory :=
 laidMet_laidAll _ (by kernel_rfl) (by kernel_rfl)
theorem reads (os : Os) {H : Type} (enc : TypeId × Value → H) : ∃ places, DataW.whole enc Tryd.prog ((laidWorld os).forCall (fun _ _ => 0) ⟨#[], #[.int .u32 0, .int .u32 0, .int .u32 0, .int .u32 0], []⟩).memory Tryd.f5.params.toList Rows.modsFieldSpec.vars false (#[.int .u32 0, .int .u32 0, .int .u32 0, .int .u32 0] : Array Value).toList 8 = some ([.lit (.int .u32 0), .lit (.int .u32 0), .lit (.int .u32 0), .lit (.int .u32 0)], [], places) :=
 ⟨[], by kernel_rfl⟩
set_option maxRecDepth 100000 in
theorem lifted (os : Os) (started : os.Started) (H : Type) (enc : TypeId × Value → H) (F : Stop.Interp) :
  ReturnsInHanded {} Tryd.checked os 5 .any ((OpenSpec.ofChange Rows.modsFieldSpec).preRow enc Tryd.prog Tryd.f5 Rows.modsFieldRow.domain false Rows.modsFieldRow.laid) (((OpenSpec.ofChange Rows.modsFieldSpec).at F).post enc Tryd.prog Tryd.f5 false true false false) := by
 obtain ⟨places, hx⟩ := reads os enc
 refine returnsInHanded_of_row (C := Tryd.checked) (s := OpenSpec.ofChange Rows.modsFieldSpec) own started (by kernel_rfl) Tryd.func5
  (witness_row_at (enc := enc) (C := Tryd.checked) false (laidWorld os) #[.int .u32 0, .int .u32 0, .int .u32 0, .int .u32 0] (World.laidAll_os _ _ _) (by kernel_rfl) (by kernel_rfl) (by kernel_rfl)
   (OpenSpec.preRow_of_cond 8 hx (by kernel_rfl) (fun k hk => by cases hk) (by kernel_rfl) (laid_met os))) ?_
 intro W base args ds gs before hval hW _ _ _ hL hSh _
 exact contract H enc W base args ds gs before hval hW hL hSh
theorem said : Rows.ModsFieldSaid :=
 OpenClaim.holds_of_cond 5 Tryd.f5 rfl rfl rfl rfl rfl rfl rfl ⟨rfl, rfl, rfl, rfl, rfl⟩ rfl rfl rfl rfl rfl (by kernel_rfl) Tryd.func5 (by kernel_rfl)
  (of_decide_eq_true (by kernel_rfl)) (by unfold Func.isWrapper; first | (rw [if_pos (by decide +kernel)]; kernel_rfl) | (rw [if_neg (by decide +kernel)]; exact ⟨rfl, rfl⟩))
  (fun os started H enc _ F => by rw [OpenClaim.pre_eq_preRow]; exact lifted os started H enc F)
theorem plain (f : FuncId) (fn : Func) (hf : Tryd.pinned.checked.prog.funcNamed "gusset/gussetlaw06.ModsField" = some f) (hfn : Tryd.pinned.checked.prog.funcs[f]? = some fn) :
  false = Tryd.pinned.checked.prog.looks [] ∧ ∀ (j : Nat) t, fn.params[j]? = some t → Tryd.pinned.checked.prog.wantsStandIn t = false := by
 obtain rfl : f = 5 := Option.some.inj ((show Tryd.prog.funcNamed "gusset/gussetlaw06.ModsField" = some 5 by kernel_rfl).symm.trans hf) |>.symm
 obtain rfl : fn = Tryd.f5 := (Option.some.inj (Tryd.func5.symm.trans hfn)).symm
 refine ⟨by kernel_rfl, fun j t ht => ?_⟩
 rw [Tryd.params5] at ht
 have hm := Array.mem_of_getElem? ht
 simp only [List.mem_toArray, List.mem_cons, List.not_mem_nil, or_false] at hm
 rcases hm with rfl | rfl | rfl | rfl
 ·exact (show Tryd.prog.wantsStandIn 22 = false by kernel_rfl)
 ·exact (show Tryd.prog.wantsStandIn 22 = false by kernel_rfl)
 ·exact (show Tryd.prog.wantsStandIn 22 = false by kernel_rfl)
 ·exact (show Tryd.prog.wantsStandIn 22 = false by kernel_rfl)
end Go.Proofs.YtfmakoiiibacjaaDoor.modsField
namespace Go.Proofs.YtfmakoiiibacjaaDoor
open Go.ChangeShapes Go.WideShapes Go.ChangeAt Go.RowKit
/-- THE CARD -/
theorem modsFieldProved : Rows.ModsFieldCardSaid :=
 Claim7.holds_tied_plain_at .later [] _ _ _ _ modsField.said (fun _ h => by cases h) (by kernel_rfl) (fun _ h => by cases h) modsField_row_tie rfl ⟨rfl, rfl⟩ (by kernel_rfl) rfl modsField.plain (by kernel_rfl)
end Go.Proofs.YtfmakoiiibacjaaDoor
