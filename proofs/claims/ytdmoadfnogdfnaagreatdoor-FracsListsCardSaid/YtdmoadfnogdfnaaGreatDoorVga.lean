/-
  The law answers true at every input, and leaves its arguments as they were: a part of the proof. CONDITIONS: the package-level tables start as the program's text lays them (the card ties them).
-/
import Derived.Test.YtdmoadfnogdfnaaGreatDoorZdb
import Derived.Deep.SlicePairs
import Derived.Test.YtdmoadfnogdfnaaGreatDoorTie
import Derived.Test.YtdmoadfnogdfnaaGreatDoorCards
set_option linter.unusedVariables false
set_option linter.unusedSimpArgs false
namespace Go.Proofs.YtdmoadfnogdfnaaGreatDoor
open Go.RowKit
attribute [local irreducible] lo hs sm s64 c64 d64 b64 mh ml pd pc qd qc val hiB str cmpI srD lz nb isq decB
theorem NL.join {w w0 W : World} {L L0 : List (Nat × Nat)} (h0 : NL w w0 L0) (h : NL w0 W L) : NL w W (L ++ L0) := by
 refine ⟨h0.bl.trans (h.bl.mono h0.bl.size), fun p hp => ?_, ?_⟩
 ·rcases List.mem_append.1 hp with hp | hp
  ·exact ⟨Nat.le_trans h0.bl.size (h.all p hp).1, (h.all p hp).2⟩
  ·exact ⟨(h0.all p hp).1, (h0.all p hp).2.below h.bl⟩
 ·rw [List.map_append, List.nodup_append]
  refine ⟨h.nd, h0.nd, fun a ha b hb => ?_⟩
  obtain ⟨p, hp, rfl⟩ := List.mem_map.1 ha
  obtain ⟨r, hr, rfl⟩ := List.mem_map.1 hb
  have h1 := (h.all p hp).1
  have h2 := (h0.all r hr).2.lt
  omega
end Go.Proofs.YtdmoadfnogdfnaaGreatDoor
namespace Go.Proofs.YtdmoadfnogdfnaaGreatDoor
open Go.RowKit
attribute [local irreducible] lo hs sm s64 c64 d64 b64 mh ml pd pc qd qc val hiB str cmpI srD lz nb isq decB
theorem region_cls {P : Program} {α : Type} {F : α → World} {id : Nat} {Q : Exit → Act → World → Prop} {a : Act} {w : World} {l : List Oper} (hm : P.follows .mixedOrders = true) (hB : Region.lexB .any l.toArray = true)
  (hC : ∃ x, w.drew = F x) (h : wpQuiet P l.toArray (fun w' => ∃ x, w' = F x) (fun a' => ∀ w', (∃ x, w' = F x) → Q .normal a' w') l a) : (Code.region id l.toArray true).wp P Q a w :=
 wp_region_quiet (C := fun w' => ∃ x, w' = F x) hm hB hC (by simpa using h)
end Go.Proofs.YtdmoadfnogdfnaaGreatDoor
namespace Go.Proofs.YtdmoadfnogdfnaaGreatDoor
open Go.RowKit Go.Proofs.YtdmoadfnogdfnaaGreatDoor.Rx
theorem tyAt_yes {P : Program} {ops : Array Oper} {o : Oper} {a : Act} {w : World} {T : Value → World → Prop} (hg : Region.wanted o (yielded ops a.tmps) = true) (h : tyUpon P w T ((execOp a.eval o).run P w)) : TyAt P ops o a w T := by
 unfold TyAt
 rw [if_pos hg]; exact h
end Go.Proofs.YtdmoadfnogdfnaaGreatDoor
namespace Go.Proofs.YtdmoadfnogdfnaaGreatDoor
open Go.RowKit
theorem frV_inj {m n : Int} {d e : Nat} (h : frV m d = frV n e) : m = n ∧ d = e := by
 simp only [frV, Value.agg.injEq, Array.mk.injEq, List.cons.injEq, Value.int.injEq, Value.string.injEq, Value.bool.injEq, and_true, true_and] at h
 obtain ⟨h1, h2, h3, h4, h5⟩ := h
 exact ⟨intV_inj (by unfold intV; rw [h1, h2, h3]), natV_inj (by unfold natV; rw [h4, h5])⟩
theorem fracV_inj {p q : Rat} (h : fracV p = fracV q) : p = q := by
 obtain ⟨h1, h2⟩ := frV_inj h
 refine Rat.ext h1 ?_
 unfold fe at h2
 have := p.den_nz
 have := q.den_nz
 split at h2 <;> split at h2 <;> omega
theorem cls_callK {α : Type} {F : α → World} {w0 : World} {K : World → Prop} (hK : Keeps K) (h1 : ∀ x, Below w0.heap.size w0 (F x)) (h2 : ∀ W, Below w0.heap.size w0 W → ∃ x, W = F x) (hk : K w0) {P : Program} {f : FuncId} {args : Array Value} {v : Value}
  (h : ∀ w, K w → Calls P f args w fun e w' => e = .returned v ∧ Below w.heap.size w w') (x : α) : Calls P f args (F x) fun e w'' => e = .returned v ∧ ∃ y, w'' = F y :=
 (h (F x) (hK _ _ (h1 x) hk)).mono fun _ _ ⟨he, hb⟩ => ⟨he, h2 _ ((h1 x).trans (hb.mono (h1 x).size))⟩
end Go.Proofs.YtdmoadfnogdfnaaGreatDoor
namespace Go.Proofs.YtdmoadfnogdfnaaGreatDoor
open Go.RowKit
attribute [local irreducible] lo hs sm s64 c64 d64 b64 mh ml pd pc qd qc val hiB str cmpI srD lz nb isq decB zl zh zs fe
def ltQ (p q : Rat) : Bool := decide (p < q)
theorem cmpQ_lt (p q : Rat) : decide (cmpQ p q < 0) = ltQ p q := by
 unfold cmpQ ltQ
 by_cases h : p < q
 ·rw [if_pos h, decide_eq_true h]; rfl
 ·rw [if_neg h, decide_eq_false h]
  split <;> rfl
set_option maxHeartbeats 4000000 in
set_option maxRecDepth 100000 in
theorem lss_true (m n c : Int) (d e : Nat) (HC : RT 73 #[frV m d, frV n e] (.int .i64 c)) (hc : decide (c < 0) = true) (w : World) :
  Calls Tryz.prog 157 #[frV m d, frV n e] w fun xe w' => xe = .returned (.bool true) ∧ Below w.heap.size w w' := by
 have hL0 : GL w w [] := GL.start w
 replace HC := Lib.hid HC
 replace hL0 := ((hL0.new rfl [.int .u64 ((zl m : Nat) : Int), .string (zh m), .bool (zs m), .int .u64 ((lo d : Nat) : Int), .string (hs d)] 79).new (K := w.heap.size + 1) (szA _ _) [.int .u64 ((zl n : Nat) : Int), .string (zh n), .bool (zs n), .int .u64 ((lo e : Nat) : Int), .string (hs e)] 79)
 generalize hweq : ((w.alloc (.cells #[.int .u64 ((zl m : Nat) : Int), .string (zh m), .bool (zs m), .int .u64 ((lo d : Nat) : Int), .string (hs d)] 79)).alloc (.cells #[.int .u64 ((zl n : Nat) : Int), .string (zh n), .bool (zs n), .int .u64 ((lo e : Nat) : Int), .string (hs e)] 79)) = x1 at hL0
 go_enter Tryz.func157, Tryz.ntmps157
 have hN0 := cells_of _ 0 [] rfl (hL0.get _ _ List.mem_cons_self)
 simp only [cellsF, and_true, Nat.zero_add, Nat.reduceAdd] at hN0
 have hN1 := cells_of _ 0 [] rfl (hL0.get _ _ (List.mem_cons_of_mem _ List.mem_cons_self))
 simp only [cellsF, and_true, Nat.zero_add, Nat.reduceAdd] at hN1
 go_wp2_with fail
 clear hN0 hN1
 with_reducible refine Calls.mono (HC.out _) ?_
 rintro e x2 ⟨rfl, hb⟩
 replace hL0 := hL0.call hb
 clear hb hweq
 go_wp2_with fail
 exact bodyPost_ret (v := .bool true) (by simp [results, Tryz.results157, go_sem]) rfl ⟨rfl, hL0.bl⟩
set_option maxHeartbeats 4000000 in
set_option maxRecDepth 100000 in
theorem lss_false (m n c : Int) (d e : Nat) (HC : RT 73 #[frV m d, frV n e] (.int .i64 c)) (hc : decide (c < 0) = false) (w : World) :
  Calls Tryz.prog 157 #[frV m d, frV n e] w fun xe w' => xe = .returned (.bool false) ∧ Below w.heap.size w w' := by
 have hL0 : GL w w [] := GL.start w
 replace HC := Lib.hid HC
 replace hL0 := ((hL0.new rfl [.int .u64 ((zl m : Nat) : Int), .string (zh m), .bool (zs m), .int .u64 ((lo d : Nat) : Int), .string (hs d)] 79).new (K := w.heap.size + 1) (szA _ _) [.int .u64 ((zl n : Nat) : Int), .string (zh n), .bool (zs n), .int .u64 ((lo e : Nat) : Int), .string (hs e)] 79)
 generalize hweq : ((w.alloc (.cells #[.int .u64 ((zl m : Nat) : Int), .string (zh m), .bool (zs m), .int .u64 ((lo d : Nat) : Int), .string (hs d)] 79)).alloc (.cells #[.int .u64 ((zl n : Nat) : Int), .string (zh n), .bool (zs n), .int .u64 ((lo e : Nat) : Int), .string (hs e)] 79)) = x1 at hL0
 go_enter Tryz.func157, Tryz.ntmps157
 have hN0 := cells_of _ 0 [] rfl (hL0.get _ _ List.mem_cons_self)
 simp only [cellsF, and_true, Nat.zero_add, Nat.reduceAdd] at hN0
 have hN1 := cells_of _ 0 [] rfl (hL0.get _ _ (List.mem_cons_of_mem _ List.mem_cons_self))
 simp only [cellsF, and_true, Nat.zero_add, Nat.reduceAdd] at hN1
 go_wp2_with fail
 clear hN0 hN1
 with_reducible refine Calls.mono (HC.out _) ?_
 rintro e x2 ⟨rfl, hb⟩
 replace hL0 := hL0.call hb
 clear hb hweq
 go_wp2_with fail
 exact bodyPost_ret (v := .bool false) (by simp [results, Tryz.results157, go_sem]) rfl ⟨rfl, hL0.bl⟩
set_option maxHeartbeats 4000000 in
set_option maxRecDepth 100000 in
theorem among_min (ao : Option Addr) (n c : Nat) (qs : List Rat) (HB : ∀ p q, p ∈ qs → q ∈ qs → RT 157 #[fracV p, fracV q] (.bool (ltQ p q))) (w : World) (hq : SlQ w (.slice ao n c) qs) (hn : (0 < n → ∃ g, ao = some ⟨g, 0, none⟩ ∧ FS w g qs) ∧ qs.length = n ∧ n ≤ 1000000) :
  Calls Tryz.prog 156 #[.agg #[.func (.func 157) #[] #[]], .slice ao n c] w fun xe w' => xe = .returned (fracV (amg ltQ qs)) ∧ Below w.heap.size w w' := by
 have hL0 : GL w w [] := GL.start w
 have HB := Lib.hid HB
 have hle := hn.2
 have hcell := Lib.hid hn.1
 clear hn
 replace hL0 := (((hL0.new rfl [.func (.func 157) #[] #[]] 193).new (K := w.heap.size + 1) (szA _ _) [.int .u64 0, .string ⟨#[]⟩, .bool false, .int .u64 0, .string ⟨#[]⟩] 79).new (K := w.heap.size + 1 + 1) (by simp only [World.size_alloc]) [.int .u64 0, .string ⟨#[]⟩, .bool false, .int .u64 0, .string ⟨#[]⟩] 79)
 generalize hweq : (((w.alloc (.cells #[.func (.func 157) #[] #[]] 193)).alloc (.cells #[.int .u64 0, .string ⟨#[]⟩, .bool false, .int .u64 0, .string ⟨#[]⟩] 79)).alloc (.cells #[.int .u64 0, .string ⟨#[]⟩, .bool false, .int .u64 0, .string ⟨#[]⟩] 79)) = x1 at hL0
 have hsl := Lib.hid (SlQ.below hq hL0.bl)
 clear hq
 go_enter Tryz.func156, Tryz.ntmps156
 have hA := hL0.fc
 simp only [fcG, cellsF, neK, and_true, ne_eq, Nat.zero_add, Nat.reduceAdd] at hA
 go_wp2_with fail
 clear hA
 go_loopw [10] (fun z wr => ∃ i : Nat, i ≤ n ∧ z = .int .i64 (i : Int) ∧ ∃ q : Rat, q = amg ltQ (qs.take i) ∧ GL w wr [(w.heap.size + 1 + 1, [.int .u64 ((zl q.num : Nat) : Int), .string (zh q.num), .bool (zs q.num), .int .u64 ((lo (fe q) : Nat) : Int), .string (hs (fe q))]), (w.heap.size + 1, [.int .u64 0, .string ⟨#[]⟩, .bool false, .int .u64 0, .string ⟨#[]⟩]), (w.heap.size, [.func (.func 157) #[] #[]])]) (fun z _ => n - (intOf z).toNat)
 case atStart => exact ⟨0, Nat.zero_le _, rfl, 0, rfl, by rw [fe_zero, (show (0 : Rat).num = 0 from rfl), (z0).1, (z0).2.1, (z0).2.2, lo_small Bs_pos, hs_small Bs_pos]; exact hL0⟩
 case round =>
  clear hL0 hweq
  obtain ⟨i, hi, rfl, q, hq, hL0⟩ := hrel
  rcases Nat.lt_or_ge i n with hin | hin
  ·obtain ⟨g, rfl, hfs⟩ := hcell.out (by omega)
   have hf := (hfs.below hL0.bl).cell i (by omega)
   have k2 : decide ((i : Int) < (n : Int)) = true := decide_eq_true (by omega)
   have k1 : (i : Int) < (n : Int) := by omega
   have hlen : qs.length = n := by omega
   obtain ⟨a, ha⟩ : ∃ a, a = qs[i]'(by omega) := ⟨_, rfl⟩
   rw [← ha] at hf
   have hmem : a ∈ qs := by rw [ha]; exact List.getElem_mem _
   have htk : qs.take (i + 1) = qs.take i ++ [a] := by rw [List.take_succ_eq_append_getElem (by omega), ha]
   clear ha
   obtain ⟨f0, f1, f2, f3, f4⟩ := hf
   by_cases hi0 : i = 0
   ·subst hi0
    have ek : (((0 : Nat) : Int) == 0) = true := rfl
    have kn : 0 < n := by omega
    have kd : decide (0 < n) = true := decide_eq_true kn
    simp only [Nat.zero_mul, Nat.zero_add] at f0 f1 f2 f3 f4
    replace htk := Lib.hid htk
    replace hq := Lib.hid hq
    replace hlen := Lib.hid hlen
    clear k1 hin hi
    replace hL0 := (hL0.new rfl [.int .u64 ((zl a.num : Nat) : Int), .string (zh a.num), .bool (zs a.num), .int .u64 ((lo (fe a) : Nat) : Int), .string (hs (fe a))] 79)
    generalize hweq : (wr.alloc (.cells #[.int .u64 ((zl a.num : Nat) : Int), .string (zh a.num), .bool (zs a.num), .int .u64 ((lo (fe a) : Nat) : Int), .string (hs (fe a))] 79)) = x2 at hL0
    have hA := hL0.fc
    simp only [fcG, cellsF, neK, and_true, ne_eq, Nat.zero_add, Nat.reduceAdd] at hA
    have hP := hL0.put 1 (w.heap.size + 1 + 1) _ rfl [.int .u64 ((zl a.num : Nat) : Int), .string (zh a.num), .bool (zs a.num), .int .u64 ((lo (fe a) : Nat) : Int), .string (hs (fe a))] rfl
    simp only [setAll, List.set_cons_zero, List.set_cons_succ] at hP
    generalize hput1 : (((((x2.setCell ⟨w.heap.size + 1 + 1, 0, none⟩ (.int .u64 ((zl a.num : Nat) : Int))).setCell ⟨w.heap.size + 1 + 1, 1, none⟩ (.string (zh a.num))).setCell ⟨w.heap.size + 1 + 1, 2, none⟩ (.bool (zs a.num))).setCell ⟨w.heap.size + 1 + 1, 3, none⟩ (.int .u64 ((lo (fe a) : Nat) : Int))).setCell ⟨w.heap.size + 1 + 1, 4, none⟩ (.string (hs (fe a)))) = x3 at hP
    have hB1 := hP.fc
    simp only [fcG, cellsF, neK, and_true, ne_eq, Nat.zero_add, Nat.reduceAdd] at hB1
    replace hL0 := hP
    go_wp2_with fail
    go_roundw
    case rel => exact ⟨0 + 1, by omega, by first | rfl | go_num, a, by rw [htk.out]; rfl, hL0.weak (List.Sublist.cons _ (List.Sublist.refl _))⟩
    case measure => simp [intOf]; omega
   ·have ek : ((i : Int) == 0) = false := beq_eq_false_iff_ne.2 (by omega)
    have hne : qs.take i ≠ [] := fun e => by have := congrArg List.length e; rw [List.length_take, List.length_nil] at this; omega
    have hsn := Lib.hid (amg_snoc ltQ (qs.take i) a hne)
    clear hne
    have hqm : q = 0 ∨ q ∈ qs := .inr (by rw [hq]; exact List.mem_of_mem_take (amg_mem ltQ (qs.take i) (fun e => by have := congrArg List.length e; rw [List.length_take, List.length_nil] at this; omega)))
    have hqm2 : q ∈ qs := by rw [hq]; exact List.mem_of_mem_take (amg_mem ltQ (qs.take i) (fun e => by have := congrArg List.length e; rw [List.length_take, List.length_nil] at this; omega))
    clear hqm
    have HB1 := Lib.hid (HB.out a q hmem hqm2)
    clear hmem hqm2
    replace htk := Lib.hid htk
    replace hq := Lib.hid hq
    replace hlen := Lib.hid hlen
    obtain ⟨d, hd⟩ : ∃ d, d = ltQ a q := ⟨_, rfl⟩
    rw [← hd] at HB1
    replace hd := Lib.hid hd
    have k3 := Lib.hid hi
    have k4 := Lib.hid hin
    replace hL0 := (hL0.new rfl [.int .u64 ((zl a.num : Nat) : Int), .string (zh a.num), .bool (zs a.num), .int .u64 ((lo (fe a) : Nat) : Int), .string (hs (fe a))] 79)
    generalize hweq : (wr.alloc (.cells #[.int .u64 ((zl a.num : Nat) : Int), .string (zh a.num), .bool (zs a.num), .int .u64 ((lo (fe a) : Nat) : Int), .string (hs (fe a))] 79)) = x4 at hL0
    have hA := hL0.fc
    simp only [fcG, cellsF, neK, and_true, ne_eq, Nat.zero_add, Nat.reduceAdd] at hA
    go_wp2_with fail
    clear hA
    with_reducible refine Calls.mono (HB1.out _) ?_
    rintro e x5 ⟨rfl, hb⟩
    replace hL0 := hL0.call hb
    clear hb hweq
    cases d with
    | true =>
     have hA := hL0.fc
     simp only [fcG, cellsF, neK, and_true, ne_eq, Nat.zero_add, Nat.reduceAdd] at hA
     have hP := hL0.put 1 (w.heap.size + 1 + 1) _ rfl [.int .u64 ((zl a.num : Nat) : Int), .string (zh a.num), .bool (zs a.num), .int .u64 ((lo (fe a) : Nat) : Int), .string (hs (fe a))] rfl
     simp only [setAll, List.set_cons_zero, List.set_cons_succ] at hP
     generalize hput2 : (((((x5.setCell ⟨w.heap.size + 1 + 1, 0, none⟩ (.int .u64 ((zl a.num : Nat) : Int))).setCell ⟨w.heap.size + 1 + 1, 1, none⟩ (.string (zh a.num))).setCell ⟨w.heap.size + 1 + 1, 2, none⟩ (.bool (zs a.num))).setCell ⟨w.heap.size + 1 + 1, 3, none⟩ (.int .u64 ((lo (fe a) : Nat) : Int))).setCell ⟨w.heap.size + 1 + 1, 4, none⟩ (.string (hs (fe a)))) = x6 at hP
     have hB2 := hP.fc
     simp only [fcG, cellsF, neK, and_true, ne_eq, Nat.zero_add, Nat.reduceAdd] at hB2
     replace hL0 := hP
     go_wp2_with fail
     go_roundw
     case rel => exact ⟨i + 1, by omega, by first | rfl | go_num, a, by rw [htk.out, hsn.out, ← hq.out, if_pos hd.out.symm], hL0.weak (List.Sublist.cons _ (List.Sublist.refl _))⟩
     case measure => simp [intOf]; omega
    | false =>
     have hA := hL0.fc
     simp only [fcG, cellsF, neK, and_true, ne_eq, Nat.zero_add, Nat.reduceAdd] at hA
     go_wp2_with fail
     go_roundw
     case rel => exact ⟨i + 1, by omega, by first | rfl | go_num, q, by rw [htk.out, hsn.out, ← hq.out, if_neg (by rw [← hd.out]; exact Bool.false_ne_true)], hL0.weak (List.Sublist.cons _ (List.Sublist.refl _))⟩
     case measure => simp [intOf]; omega
  ·obtain rfl : i = n := by omega
   have k2 : decide ((i : Int) < (i : Int)) = false := decide_eq_false (by omega)
   have hqq : q = amg ltQ qs := by rw [hq, List.take_of_length_le (by omega)]
   clear hq
   replace hqq := Lib.hid hqq
   replace hle := Lib.hid hle
   have hA := hL0.fc
   simp only [fcG, cellsF, neK, and_true, ne_eq, Nat.zero_add, Nat.reduceAdd] at hA
   have hP := hL0.put 1 (w.heap.size + 1) _ rfl [.int .u64 ((zl q.num : Nat) : Int), .string (zh q.num), .bool (zs q.num), .int .u64 ((lo (fe q) : Nat) : Int), .string (hs (fe q))] rfl
   simp only [setAll, List.set_cons_zero, List.set_cons_succ] at hP
   generalize hput3 : (((((wr.setCell ⟨w.heap.size + 1, 0, none⟩ (.int .u64 ((zl q.num : Nat) : Int))).setCell ⟨w.heap.size + 1, 1, none⟩ (.string (zh q.num))).setCell ⟨w.heap.size + 1, 2, none⟩ (.bool (zs q.num))).setCell ⟨w.heap.size + 1, 3, none⟩ (.int .u64 ((lo (fe q) : Nat) : Int))).setCell ⟨w.heap.size + 1, 4, none⟩ (.string (hs (fe q)))) = x6 at hP
   have hB3 := hP.fc
   simp only [fcG, cellsF, neK, and_true, ne_eq, Nat.zero_add, Nat.reduceAdd] at hB3
   replace hL0 := hP
   go_wp2_with fail
   exact bodyPost_ret (v := fracV q) (by simp [results, Tryz.results156, go_sem, hB3]) rfl ⟨by rw [hqq.out], hL0.bl⟩
end Go.Proofs.YtdmoadfnogdfnaaGreatDoor
namespace Go.Proofs.YtdmoadfnogdfnaaGreatDoor
open Go.RowKit
attribute [local irreducible] lo hs sm s64 c64 d64 b64 mh ml pd pc qd qc val hiB str cmpI srD lz nb isq decB zl zh zs
theorem lessF (p q : Rat) (k : Nat) (hp : Sz p k) (hq : Sz q k) (hk : k ≤ 100000000) (w : World) : Calls Tryz.prog 157 #[fracV p, fracV q] w fun x w' => x = .returned (.bool (ltQ p q)) ∧ Below w.heap.size w w' := by
 have h := cmpQ_lt p q
 cases hb : ltQ p q with
 | true => rw [hb] at h; exact lss_true p.num q.num _ (fe p) (fe q) (cmpF p q k hp hq hk) h w
 | false => rw [hb] at h; exact lss_false p.num q.num _ (fe p) (fe q) (cmpF p q k hp hq hk) h w
end Go.Proofs.YtdmoadfnogdfnaaGreatDoor
namespace Go.Proofs.YtdmoadfnogdfnaaGreatDoor
open Go.RowKit
attribute [local irreducible] lo hs sm s64 c64 d64 b64 mh ml pd pc qd qc val hiB str cmpI srD lz nb isq decB zl zh zs
set_option maxHeartbeats 4000000 in
set_option maxRecDepth 100000 in
theorem fmin_w (ao : Option Addr) (n c : Nat) (x : Int) (e : Nat) (K : World → Prop) (hK : Keeps K) (HA : RK K 156 #[.agg #[.func (.func 157) #[] #[]], .slice ao n c] (frV x e)) (w : World) (kK : K w) :
  Calls Tryz.prog 90 #[.slice ao n c] w fun xe w' => xe = .returned (frV x e) ∧ Below w.heap.size w w' := by
 have hL0 : GL w w [] := GL.start w
 replace hK := Lib.hid hK
 replace HA := Lib.hid HA
 replace hL0 := (hL0.new rfl [.int .u64 0, .string ⟨#[]⟩, .bool false, .int .u64 0, .string ⟨#[]⟩] 79)
 generalize hweq : (w.alloc (.cells #[.int .u64 0, .string ⟨#[]⟩, .bool false, .int .u64 0, .string ⟨#[]⟩] 79)) = x1 at hL0
 go_enter Tryz.func90, Tryz.ntmps90
 go_wp2_with fail
 with_reducible refine Calls.mono (HA.out _ (hK.out.at hL0.bl kK)) ?_
 rintro e x2 ⟨rfl, hb⟩
 replace hL0 := hL0.call hb
 clear hb hweq
 have hA := hL0.fc
 simp only [fcG, cellsF, neK, and_true, ne_eq, Nat.zero_add, Nat.reduceAdd] at hA
 have hP := hL0.put 0 (w.heap.size) _ rfl [.int .u64 ((zl x : Nat) : Int), .string (zh x), .bool (zs x), .int .u64 ((lo e : Nat) : Int), .string (hs e)] rfl
 simp only [setAll, List.set_cons_zero, List.set_cons_succ] at hP
 generalize hput1 : (((((x2.setCell ⟨w.heap.size, 0, none⟩ (.int .u64 ((zl x : Nat) : Int))).setCell ⟨w.heap.size, 1, none⟩ (.string (zh x))).setCell ⟨w.heap.size, 2, none⟩ (.bool (zs x))).setCell ⟨w.heap.size, 3, none⟩ (.int .u64 ((lo e : Nat) : Int))).setCell ⟨w.heap.size, 4, none⟩ (.string (hs e))) = x3 at hP
 have hB1 := hP.fc
 simp only [fcG, cellsF, neK, and_true, ne_eq, Nat.zero_add, Nat.reduceAdd] at hB1
 replace hL0 := hP
 go_wp2_with fail
 exact bodyPost_ret (v := frV x e) (by simp [results, Tryz.results90, go_sem, hB1]) rfl ⟨rfl, hL0.bl⟩
theorem minF (ao : Option Addr) (n c : Nat) (qs : List Rat) (k : Nat) (hk : k ≤ 100000000) (hl : qs.length ≤ 1000000) (hs : ∀ q ∈ qs, Sz q k) (w : World) (h : SlQ w (.slice ao n c) qs) :
  Calls Tryz.prog 90 #[.slice ao n c] w fun xe w' => xe = .returned (fracV (amg ltQ qs)) ∧ Below w.heap.size w w' :=
 fmin_w ao n c (amg ltQ qs).num (fe (amg ltQ qs)) _ (SlQ.keeps (.slice ao n c) qs) (fun w h => among_min ao n c qs (fun p q hp hq w => lessF p q k (hs p hp) (hs q hq) hk w) w h (slq_parts h hl)) w h
end Go.Proofs.YtdmoadfnogdfnaaGreatDoor
namespace Go.Proofs.YtdmoadfnogdfnaaGreatDoor
/-- Every operation waits for earlier ones alone, and what comes behind it waits for it or is apart from it. -/
def fastFrom (md : Region.Mode) (ops : Array Oper) : Nat → List Oper → Bool
 | _, [] => true
 | k, o :: l => (o.after.all fun e => !Region.binds md e || decide (e.on < k)) &&
   (l.all fun oj => (oj.after.any fun e => Region.binds md e && e.on == k) || o.apart ops oj) && fastFrom md ops (k + 1) l
def fastB (md : Region.Mode) (l : List Oper) : Bool := Region.noSelect l.toArray && fastFrom md l.toArray 0 l
def preL (s n : Nat) : Array Bool := ((List.range s).map fun i => decide (i < n)).toArray
theorem preL_get (s n i : Nat) (d : Bool) : (preL s n).getD i d = if i < s then decide (i < n) else d := by
 unfold preL
 by_cases h : i < s
 ·simp [h]
 ·simp [h]
theorem preL_set (s n : Nat) : (preL s n).setIfInBounds n true = preL s (n + 1) := by
 apply Array.ext
 ·simp [preL]
 ·intro i h1 h2
  simp only [preL, List.setIfInBounds_toArray, List.getElem_toArray]
  by_cases e : n = i
  ·subst e; simp
  ·rw [List.getElem_set_ne e]
   simp only [List.getElem_map, List.getElem_range]
   by_cases h : i < n
   ·rw [decide_eq_true h, decide_eq_true (by omega)]
   ·rw [decide_eq_false h, decide_eq_false (by omega)]
theorem preL_zero (s : Nat) : preL s 0 = Array.replicate s false := by
 apply Array.ext
 ·simp [preL]
 ·intro i h1 h2; simp [preL]
theorem lexFrom_of_fast {md : Region.Mode} {ops : Array Oper} : ∀ (l : List Oper) (k : Nat), (∀ j, l[j]? = ops[k + j]?) → k + l.length = ops.size → fastFrom md ops k l = true → Region.lexFrom md ops l.length k (preL ops.size k) = true
 | [], k, hl, hs, _ => by
  have : Region.ready md ops (preL ops.size k) = [] := by
   apply List.eq_nil_iff_forall_not_mem.2
   intro j hj
   obtain ⟨h1, o, ho, -⟩ := mem_ready.1 hj
   have hj' : j < ops.size := (Array.getElem?_eq_some_iff.1 ho).1
   rw [preL_get, if_pos hj', decide_eq_true (by simp at hs; omega)] at h1
   cases h1
  simp [Region.lexFrom, this]
 | o :: l, k, hl, hs, h => by
  have h0 : ops[k]? = some o := by simpa using (hl 0).symm
  have hk : k < ops.size := (Array.getElem?_eq_some_iff.1 h0).1
  simp only [fastFrom, Bool.and_eq_true] at h
  obtain ⟨⟨hw, hf⟩, hr⟩ := h
  simp only [List.length_cons, Region.lexFrom, Bool.and_eq_true]
  refine ⟨⟨List.contains_iff_mem.2 (mem_ready.2 ⟨by rw [preL_get, if_pos hk, decide_eq_false (by omega)], o, h0, fun e he hb => ?_⟩), ?_⟩, ?_⟩
  ·have h1 := (Array.all_eq_true_iff_forall_mem.1 hw) e he
   simp only [hb, Bool.not_true, Bool.false_or, decide_eq_true_eq] at h1
   rw [preL_get, if_pos (by omega), decide_eq_true h1]
  ·simp only [Region.free, h0, List.all_eq_true, List.mem_range]
   intro j hj
   by_cases e : j = k
   ·simp [e]
   ·by_cases hjk : j < k
    ·rw [preL_get, if_pos hj, decide_eq_true hjk]; simp
    ·have h2 : l[j - k - 1]? = ops[j]? := by
      have := hl (j - k)
      rw [show k + (j - k) = j by omega] at this
      rw [← this, show j - k = (j - k - 1) + 1 by omega, List.getElem?_cons_succ]
      rfl
     rw [Array.getElem?_eq_getElem hj] at h2
     have h3 := (List.all_eq_true.1 hf) ops[j] (List.mem_of_getElem? h2)
     rw [Array.getElem?_eq_getElem hj]
     simp only [Bool.or_eq_true] at h3 ⊢
     exact .inr h3
  ·rw [preL_set]
   exact lexFrom_of_fast l (k + 1) (fun j => by have := hl (j + 1); simpa [Nat.add_assoc, Nat.add_comm 1 j] using this) (by simp at hs; omega) hr
theorem lexB_of_fast {md : Region.Mode} {l : List Oper} (h : fastB md l = true) : Region.lexB md l.toArray = true := by
 simp only [fastB, Bool.and_eq_true] at h
 simp only [Region.lexB, Bool.and_eq_true]
 refine ⟨h.1, ?_⟩
 have := lexFrom_of_fast (md := md) (ops := l.toArray) l 0 (fun j => by simp) (by simp) h.2
 rw [preL_zero] at this
 simpa using this
end Go.Proofs.YtdmoadfnogdfnaaGreatDoor
namespace Go.Proofs.YtdmoadfnogdfnaaGreatDoor
open Go.ChangeShapes Go.WideShapes Go.ChangeAt Go.RowKit
theorem laidOut : laidOutB Tryz.prog = true := by kernel_rfl
end Go.Proofs.YtdmoadfnogdfnaaGreatDoor
namespace Go.Proofs.YtdmoadfnogdfnaaGreatDoor
open Go.RowKit
attribute [local irreducible] lo hs sm s64 c64 d64 b64 mh ml pd pc qd qc val hiB str cmpI srD lz nb isq decB zl zh zs
theorem ne_fr {p q : Rat} (h : p ≠ q) : (((zl p.num : Nat) : Int) == ((zl q.num : Nat) : Int)) = false ∨
  ((((zl p.num : Nat) : Int) == ((zl q.num : Nat) : Int)) = true ∧ ((zh p.num).toList == (zh q.num).toList) = false) ∨
  ((((zl p.num : Nat) : Int) == ((zl q.num : Nat) : Int)) = true ∧ ((zh p.num).toList == (zh q.num).toList) = true ∧ (zs p.num == zs q.num) = false) ∨
  ((((zl p.num : Nat) : Int) == ((zl q.num : Nat) : Int)) = true ∧ ((zh p.num).toList == (zh q.num).toList) = true ∧ (zs p.num == zs q.num) = true ∧ (((lo (fe p) : Nat) : Int) == ((lo (fe q) : Nat) : Int)) = false) ∨
  ((((zl p.num : Nat) : Int) == ((zl q.num : Nat) : Int)) = true ∧ ((zh p.num).toList == (zh q.num).toList) = true ∧ (zs p.num == zs q.num) = true ∧ (((lo (fe p) : Nat) : Int) == ((lo (fe q) : Nat) : Int)) = true ∧ ((hs (fe p)).toList == (hs (fe q)).toList) = false) := by
 by_cases hn : p.num = q.num
 ·have he : fe p ≠ fe q := fun e => h (fracV_inj (by unfold fracV; rw [hn, e]))
  rw [hn]
  rcases ne_nat he with h1 | ⟨h1, h2⟩
  ·exact .inr (.inr (.inr (.inl ⟨by simp, by simp, by simp, h1⟩)))
  ·exact .inr (.inr (.inr (.inr ⟨by simp, by simp, by simp, h1, h2⟩)))
 ·rcases ne_int hn with h1 | h1 | h1
  ·exact .inl h1
  ·exact .inr (.inl h1)
  ·exact .inr (.inr (.inl h1))
/-- What == sees of two fractions, as they are the same or not. -/
theorem same_fr {p q : Rat} {y : Bool} (hy : y = decide (p = q)) : (((((zl p.num : Nat) : Int) == ((zl q.num : Nat) : Int)) = true ∧ ((zh p.num).toList == (zh q.num).toList) = true ∧ (zs p.num == zs q.num) = true ∧ (((lo (fe p) : Nat) : Int) == ((lo (fe q) : Nat) : Int)) = true ∧ ((hs (fe p)).toList == (hs (fe q)).toList) = true) ∧ y = true) ∨
  (((((zl p.num : Nat) : Int) == ((zl q.num : Nat) : Int)) = false) ∧ y = false) ∨
  (((((zl p.num : Nat) : Int) == ((zl q.num : Nat) : Int)) = true ∧ ((zh p.num).toList == (zh q.num).toList) = false) ∧ y = false) ∨
  (((((zl p.num : Nat) : Int) == ((zl q.num : Nat) : Int)) = true ∧ ((zh p.num).toList == (zh q.num).toList) = true ∧ (zs p.num == zs q.num) = false) ∧ y = false) ∨
  (((((zl p.num : Nat) : Int) == ((zl q.num : Nat) : Int)) = true ∧ ((zh p.num).toList == (zh q.num).toList) = true ∧ (zs p.num == zs q.num) = true ∧ (((lo (fe p) : Nat) : Int) == ((lo (fe q) : Nat) : Int)) = false) ∧ y = false) ∨
  (((((zl p.num : Nat) : Int) == ((zl q.num : Nat) : Int)) = true ∧ ((zh p.num).toList == (zh q.num).toList) = true ∧ (zs p.num == zs q.num) = true ∧ (((lo (fe p) : Nat) : Int) == ((lo (fe q) : Nat) : Int)) = true ∧ ((hs (fe p)).toList == (hs (fe q)).toList) = false) ∧ y = false) := by
 subst hy
 by_cases h : p = q
 ·subst h
  exact .inl ⟨⟨by simp, by simp, by simp, by simp, by simp⟩, decide_eq_true rfl⟩
 ·have hd := decide_eq_false h
  rcases ne_fr h with h1 | h1 | h1 | h1 | h1
  ·exact .inr (.inl ⟨h1, hd⟩)
  ·exact .inr (.inr (.inl ⟨h1, hd⟩))
  ·exact .inr (.inr (.inr (.inl ⟨h1, hd⟩)))
  ·exact .inr (.inr (.inr (.inr (.inl ⟨h1, hd⟩))))
  ·exact .inr (.inr (.inr (.inr (.inr ⟨h1, hd⟩))))
end Go.Proofs.YtdmoadfnogdfnaaGreatDoor
namespace Go.Proofs.YtdmoadfnogdfnaaGreatDoor
open Go.RowKit
attribute [local irreducible] lo hs sm s64 c64 d64 b64 mh ml pd pc qd qc val hiB str cmpI srD lz nb isq decB zl zh zs fe
theorem GL.join {w x y : World} {L M : List (Nat × List Value)} (h : GL w x L) (g : GL x y M) : GL w y (M ++ L) := by
 have h2 := h.call g.bl
 refine ⟨h2.bl, fun p hp => ?_, ?_⟩
 ·rcases List.mem_append.1 hp with hp | hp
  ·exact ⟨Nat.le_trans h.bl.size (g.all p hp).1, (g.all p hp).2⟩
  ·exact h2.all p hp
 ·rw [List.map_append, List.nodup_append]
  refine ⟨g.nd, h.nd, fun a ha b hb => ?_⟩
  obtain ⟨p, hp, rfl⟩ := List.mem_map.1 ha
  obtain ⟨q, hq, rfl⟩ := List.mem_map.1 hb
  have h3 := (g.all p hp).1
  have h4 := (h.all q hq).2.lt
  omega
theorem zero_cells : ([.int .u64 ((zl ((0 : Rat)).num : Nat) : Int), .string (zh ((0 : Rat)).num), .bool (zs ((0 : Rat)).num), .int .u64 ((lo (fe (0 : Rat)) : Nat) : Int), .string (hs (fe (0 : Rat)))] : List Value) = ([.int .u64 0, .string ⟨#[]⟩, .bool false, .int .u64 0, .string ⟨#[]⟩] : List Value) := by
 rw [fe_zero, (show (0 : Rat).num = 0 from rfl), (z0).1, (z0).2.1, (z0).2.2, lo_small Bs_pos, hs_small Bs_pos]; rfl
/-- The sum, from the left. -/
def qsum (l : List Rat) : Rat := l.foldl (· + ·) 0
theorem qsum_snoc (l : List Rat) (a : Rat) : qsum (l ++ [a]) = qsum l + a := by unfold qsum; rw [List.foldl_append]; rfl
theorem qsum_sz {k : Nat} : ∀ (l : List Rat) (m : Nat) (s : Rat), Sz s m → (∀ q ∈ l, Sz q k) → Sz (l.foldl (· + ·) s) (m + l.length * (k + 1)) := by
 intro l
 induction l with
 | nil => intro m s hs _; simpa using hs
 | cons a l ih =>
  intro m s hs hl
  have h := ih (m + k + 1) (s + a) (hs.add (hl a (by simp))) (fun q hq => hl q (by simp [hq]))
  rw [List.foldl_cons, List.length_cons, Nat.succ_mul]
  exact h.mono (by omega)
set_option maxHeartbeats 4000000 in
set_option maxRecDepth 100000 in
theorem total_add (w0 : World) (t : Nat) (q a r : Rat) (HA : RT 61 #[fracV q, fracV a] (fracV r)) (w : World) (hL0 : GL w0 w [(t, [.int .u64 ((zl q.num : Nat) : Int), .string (zh q.num), .bool (zs q.num), .int .u64 ((lo (fe q) : Nat) : Int), .string (hs (fe q))])]) :
  Calls Tryz.prog 159 #[.pointer (some ⟨t, 0, none⟩), fracV a] w fun xe w' => xe = .returned (.tuple #[]) ∧ GL w0 w' [(t, [.int .u64 ((zl r.num : Nat) : Int), .string (zh r.num), .bool (zs r.num), .int .u64 ((lo (fe r) : Nat) : Int), .string (hs (fe r))])] := by
 replace HA := Lib.hid HA
 replace hL0 := (hL0.new rfl [.int .u64 ((zl a.num : Nat) : Int), .string (zh a.num), .bool (zs a.num), .int .u64 ((lo (fe a) : Nat) : Int), .string (hs (fe a))] 79)
 generalize hweq : (w.alloc (.cells #[.int .u64 ((zl a.num : Nat) : Int), .string (zh a.num), .bool (zs a.num), .int .u64 ((lo (fe a) : Nat) : Int), .string (hs (fe a))] 79)) = x1 at hL0
 go_enter Tryz.func159, Tryz.ntmps159
 go_upto_region 1 with fail
 clear hweq
 obtain ⟨α, iα, F, hF1, hF2⟩ := cls x1
 have hq0 := cls_box hF1 hL0 _ _ List.mem_cons_self
 simp only [cellsC, and_true, Nat.zero_add, Nat.reduceAdd] at hq0
 have hq1 := cls_box hF1 hL0 _ _ (List.mem_cons_of_mem _ List.mem_cons_self)
 simp only [cellsC, and_true, Nat.zero_add, Nat.reduceAdd] at hq1
 refine region_qs 9 (C := fun w' => ∃ x, w' = F x) (by kernel_rfl) (by kernel_rfl) (cls_drew hF2) ?_
 simp only [List.take_succ_cons, List.take_zero, List.drop_succ_cons, List.drop_zero, List.take_nil, List.drop_nil]
 repeat (go_big_quiet_step (first | fail | (go_at_call 61; with_reducible exact cls_call hF1 hF2 HA.out _)))
 refine wpQuiet_nil ?_
 rintro wq ⟨xq, rfl⟩
 replace hL0 := hL0.call (hF1 xq)
 clear  hq0 hq1 hF2
 generalize F xq = x2 at hL0 ⊢
 clear hF1 xq iα F α
 have hA := hL0.fc
 simp only [fcG, cellsF, neK, and_true, ne_eq, Nat.zero_add, Nat.reduceAdd] at hA
 have hP := hL0.put 1 (t) _ rfl [.int .u64 ((zl r.num : Nat) : Int), .string (zh r.num), .bool (zs r.num), .int .u64 ((lo (fe r) : Nat) : Int), .string (hs (fe r))] rfl
 simp only [setAll, List.set_cons_zero, List.set_cons_succ] at hP
 generalize hput1 : (((((x2.setCell ⟨t, 0, none⟩ (.int .u64 ((zl r.num : Nat) : Int))).setCell ⟨t, 1, none⟩ (.string (zh r.num))).setCell ⟨t, 2, none⟩ (.bool (zs r.num))).setCell ⟨t, 3, none⟩ (.int .u64 ((lo (fe r) : Nat) : Int))).setCell ⟨t, 4, none⟩ (.string (hs (fe r)))) = x3 at hP
 have hB1 := hP.fc
 simp only [fcG, cellsF, neK, and_true, ne_eq, Nat.zero_add, Nat.reduceAdd] at hB1
 replace hL0 := hP
 go_wp2_with fail
 go_end0
 exact ⟨rfl, hL0.weak (List.Sublist.cons _ (List.Sublist.refl _))⟩
set_option maxHeartbeats 4000000 in
set_option maxRecDepth 100000 in
theorem each_add (w0 : World) (t : Nat) (ao : Option Addr) (n c : Nat) (qs : List Rat) (q : Rat) (hq0 : q = 0) (hn : (0 < n → ∃ g, ao = some ⟨g, 0, none⟩ ∧ FS w0 g qs) ∧ qs.length = n ∧ n ≤ 1000000)
  (HA : ∀ (q a : Rat) (i : Nat), a ∈ qs → q = qsum (qs.take i) → ∀ w, GL w0 w [(t, [.int .u64 ((zl q.num : Nat) : Int), .string (zh q.num), .bool (zs q.num), .int .u64 ((lo (fe q) : Nat) : Int), .string (hs (fe q))])] → Calls Tryz.prog 159 #[.pointer (some ⟨t, 0, none⟩), fracV a] w fun xe w' => xe = .returned (.tuple #[]) ∧ GL w0 w' [(t, [.int .u64 ((zl (q + a).num : Nat) : Int), .string (zh (q + a).num), .bool (zs (q + a).num), .int .u64 ((lo (fe (q + a)) : Nat) : Int), .string (hs (fe (q + a)))])])
  (w : World) (hL0 : GL w0 w [(t, [.int .u64 ((zl q.num : Nat) : Int), .string (zh q.num), .bool (zs q.num), .int .u64 ((lo (fe q) : Nat) : Int), .string (hs (fe q))])]) :
  Calls Tryz.prog 158 #[.slice ao n c, .func (.func 159) #[.pointer (some ⟨t, 0, none⟩)] #[]] w fun xe w' => xe = .returned (.tuple #[]) ∧ GL w0 w' [(t, [.int .u64 ((zl (qsum qs).num : Nat) : Int), .string (zh (qsum qs).num), .bool (zs (qsum qs).num), .int .u64 ((lo (fe (qsum qs)) : Nat) : Int), .string (hs (fe (qsum qs)))])] := by
 replace HA := Lib.hid HA
 have hle := hn.2.2
 have hcell := Lib.hid hn.1
 have hlen := hn.2.1
 clear hn
 go_enter Tryz.func158, Tryz.ntmps158
 have hA := hL0.fc
 simp only [fcG, cellsF, neK, and_true, ne_eq, Nat.zero_add, Nat.reduceAdd] at hA
 go_wp2_with fail
 clear hA
 go_loopw [8] (fun z wr => ∃ (i : Nat) (zi : Int) (q : Rat), i ≤ n ∧ z = .int .i64 zi ∧ zi = (i : Int) ∧ q = qsum (qs.take i) ∧ GL w0 wr [(t, [.int .u64 ((zl q.num : Nat) : Int), .string (zh q.num), .bool (zs q.num), .int .u64 ((lo (fe q) : Nat) : Int), .string (hs (fe q))])]) (fun z _ => n - (intOf z).toNat)
 case atStart => exact ⟨0, _, _, Nat.zero_le _, rfl, rfl, by rw [hq0]; rfl, hL0⟩
 case round =>
  clear hL0 hq0 q
  obtain ⟨i, zi, q, hi, rfl, hzi, hq, hL0⟩ := hrel
  rcases Nat.lt_or_ge i n with hin | hin
  ·obtain ⟨g, rfl, hfs⟩ := hcell.out (by omega)
   subst hzi
   have hf := (hfs.below hL0.bl).cell i (by omega)
   have k1 : (i : Int) < (n : Int) := by omega
   have k0 : (0 : Int) ≤ (i : Int) := Int.natCast_nonneg _
   obtain ⟨a, ha⟩ : ∃ a, a = qs[i]'(by omega) := ⟨_, rfl⟩
   rw [← ha] at hf
   have hmem : a ∈ qs := by rw [ha]; exact List.getElem_mem _
   have htk : qs.take (i + 1) = qs.take i ++ [a] := by rw [List.take_succ_eq_append_getElem (by omega), ha]
   clear ha
   obtain ⟨f0, f1, f2, f3, f4⟩ := hf
   have HA1 := Lib.hid (HA.out q a i hmem hq)
   replace htk := Lib.hid htk
   replace hq := Lib.hid hq
   clear hmem
   replace hL0 := (hL0.new rfl [.int .u64 ((zl a.num : Nat) : Int), .string (zh a.num), .bool (zs a.num), .int .u64 ((lo (fe a) : Nat) : Int), .string (hs (fe a))] 79)
   generalize hweq : (wr.alloc (.cells #[.int .u64 ((zl a.num : Nat) : Int), .string (zh a.num), .bool (zs a.num), .int .u64 ((lo (fe a) : Nat) : Int), .string (hs (fe a))] 79)) = x1 at hL0
   have hN0 := cells_of _ 0 [] rfl (hL0.get _ _ List.mem_cons_self)
   simp only [cellsF, and_true, Nat.zero_add, Nat.reduceAdd] at hN0
   go_wp2_with fail
   clear hN0
   with_reducible refine Calls.mono (HA1.out _ (hL0.weak (List.Sublist.cons _ (List.Sublist.refl _)))) ?_
   rintro e x9 ⟨rfl, hG⟩
   clear hL0 hweq f0 f1 f2 f3 f4
   go_wp2_with fail
   go_roundw
   case rel => exact ⟨i + 1, _, _, by omega, by first | rfl | go_num, by omega, by rw [htk.out, qsum_snoc, ← hq.out], hG⟩
   case measure => simp [intOf]; omega
  ·obtain rfl : i = n := by omega
   subst hzi
   have k1 : ¬ (i : Int) < (i : Int) := by omega
   have hqq := hq.trans (congrArg qsum (List.take_of_length_le (Nat.le_of_eq hlen)))
   subst hqq
   clear hq
   go_wp2_with fail
   go_end0
   exact ⟨rfl, hL0⟩
set_option maxHeartbeats 4000000 in
set_option maxRecDepth 100000 in
theorem sum_w (ao : Option Addr) (n c : Nat) (qs : List Rat) (hn0 : n ≤ 1000000)
  (HE : ∀ (w0 : World) (t : Nat), (0 < n → ∃ g, ao = some ⟨g, 0, none⟩ ∧ FS w0 g qs) ∧ qs.length = n ∧ n ≤ 1000000 → ∀ w, GL w0 w [(t, [.int .u64 ((zl ((0 : Rat)).num : Nat) : Int), .string (zh ((0 : Rat)).num), .bool (zs ((0 : Rat)).num), .int .u64 ((lo (fe (0 : Rat)) : Nat) : Int), .string (hs (fe (0 : Rat)))])] → Calls Tryz.prog 158 #[.slice ao n c, .func (.func 159) #[.pointer (some ⟨t, 0, none⟩)] #[]] w fun xe w' => xe = .returned (.tuple #[]) ∧ GL w0 w' [(t, [.int .u64 ((zl (qsum qs).num : Nat) : Int), .string (zh (qsum qs).num), .bool (zs (qsum qs).num), .int .u64 ((lo (fe (qsum qs)) : Nat) : Int), .string (hs (fe (qsum qs)))])])
  (w : World) (hn : (0 < n → ∃ g, ao = some ⟨g, 0, none⟩ ∧ FS w g qs) ∧ qs.length = n ∧ n ≤ 1000000) :
  Calls Tryz.prog 91 #[.slice ao n c] w fun xe w' => xe = .returned (fracV (qsum qs)) ∧ Below w.heap.size w w' := by
 have hL0 : GL w w [] := GL.start w
 generalize qsum qs = s at *
 replace HE := Lib.hid HE
 have hn2 := Lib.hid hn.2
 have hcell := Lib.hid hn.1
 clear hn
 replace hL0 := (hL0.new rfl [.int .u64 0, .string ⟨#[]⟩, .bool false, .int .u64 0, .string ⟨#[]⟩] 79)
 generalize hweq : (w.alloc (.cells #[.int .u64 0, .string ⟨#[]⟩, .bool false, .int .u64 0, .string ⟨#[]⟩] 79)) = x1 at hL0
 have hG : GL x1 x1 [] := GL.start x1
 replace hG := hG.new rfl [.int .u64 0, .string ⟨#[]⟩, .bool false, .int .u64 0, .string ⟨#[]⟩] 196
 generalize hweq2 : x1.alloc (.cells #[.int .u64 0, .string ⟨#[]⟩, .bool false, .int .u64 0, .string ⟨#[]⟩] 196) = x2 at hG
 go_enter Tryz.func91, Tryz.ntmps91
 go_wp2_with fail
 rw [← zero_cells] at hG
 have hc2 : 0 < n → ∃ g, ao = some ⟨g, 0, none⟩ ∧ FS x1 g qs := fun h => by obtain ⟨g, h1, h2⟩ := hcell.out h; exact ⟨g, h1, h2.below hL0.bl⟩
 with_reducible refine Calls.mono (HE.out x1 x1.heap.size ⟨hc2, hn2.out⟩ x2 hG) ?_
 rintro e x3 ⟨rfl, hE⟩
 replace hL0 := hL0.join hE
 simp only [List.cons_append, List.nil_append] at hL0
 clear hE hG hweq hweq2 hc2 hcell hn2 HE
 generalize x1.heap.size = t at *
 have hA := hL0.fc
 simp only [fcG, cellsF, neK, and_true, ne_eq, Nat.zero_add, Nat.reduceAdd] at hA
 have hP := hL0.put 1 (w.heap.size) _ rfl [.int .u64 ((zl s.num : Nat) : Int), .string (zh s.num), .bool (zs s.num), .int .u64 ((lo (fe s) : Nat) : Int), .string (hs (fe s))] rfl
 simp only [setAll, List.set_cons_zero, List.set_cons_succ] at hP
 generalize hput1 : (((((x3.setCell ⟨w.heap.size, 0, none⟩ (.int .u64 ((zl s.num : Nat) : Int))).setCell ⟨w.heap.size, 1, none⟩ (.string (zh s.num))).setCell ⟨w.heap.size, 2, none⟩ (.bool (zs s.num))).setCell ⟨w.heap.size, 3, none⟩ (.int .u64 ((lo (fe s) : Nat) : Int))).setCell ⟨w.heap.size, 4, none⟩ (.string (hs (fe s)))) = x2 at hP
 have hB1 := hP.fc
 simp only [fcG, cellsF, neK, and_true, ne_eq, Nat.zero_add, Nat.reduceAdd] at hB1
 replace hL0 := hP
 go_wp2_with fail
 exact bodyPost_ret (v := fracV s) (by simp [results, Tryz.results91, go_sem, hB1]) rfl ⟨rfl, hL0.bl⟩
theorem slq_parts' {w : World} {ao : Option Addr} {n c : Nat} {qs : List Rat} (h : SlQ w (.slice ao n c) qs) (hl : qs.length ≤ 1000000) : (0 < n → ∃ g, ao = some ⟨g, 0, none⟩ ∧ FS w g qs) ∧ qs.length = n ∧ n ≤ 1000000 := by
 rcases h with ⟨ao, c, h1, rfl⟩ | ⟨g, c, h1, h2⟩
 ·simp only [Value.slice.injEq] at h1
  obtain ⟨-, rfl, -⟩ := h1
  exact ⟨fun h => absurd h (by omega), rfl, by omega⟩
 ·simp only [Value.slice.injEq] at h1
  obtain ⟨rfl, rfl, -⟩ := h1
  exact ⟨fun _ => ⟨g, rfl, h2⟩, rfl, hl⟩
theorem sumF (ao : Option Addr) (n c : Nat) (qs : List Rat) (k : Nat) (hk : k ≤ 10) (hl : qs.length ≤ 1000) (hs : ∀ q ∈ qs, Sz q k) (w : World) (h : SlQ w (.slice ao n c) qs) :
  Calls Tryz.prog 91 #[.slice ao n c] w fun xe w' => xe = .returned (fracV (qsum qs)) ∧ Below w.heap.size w w' := by
 have hp := slq_parts' h (by omega)
 refine sum_w ao n c qs hp.2.2 (fun w0 t hn w hG => each_add w0 t ao n c qs 0 rfl hn (fun q a i ha hq w hG => total_add w0 t q a (q + a) (fun w => addF q a 20000 ?_ ((hs a ha).mono (by omega)) (by omega) w) w hG) w hG) w hp
 rw [hq]
 have h0 : Sz 0 1 := ⟨digs_length_iff.2 (by unfold Bs; decide), digs_length_iff.2 (by unfold Bs; decide)⟩
 have hz := qsum_sz (qs.take i) 1 0 h0 (fun q hq => hs q (List.mem_of_mem_take hq))
 refine hz.mono ?_
 rw [List.length_take]
 have h1 : min i qs.length * (k + 1) ≤ 1000 * 11 := Nat.mul_le_mul (by omega) (by omega)
 omega
end Go.Proofs.YtdmoadfnogdfnaaGreatDoor
namespace Go.Proofs.YtdmoadfnogdfnaaGreatDoor
open Go.RowKit
attribute [local irreducible] lo hs sm s64 c64 d64 b64 mh ml pd pc qd qc val hiB str cmpI srD lz isq decB zl zh zs dval
/-- A fraction of small data. -/
def qmade (n : Int) (d : Nat) : Rat := mkRat n (if d < 1 then 1 else d)
theorem qmade_parts (n : Int) (d : Nat) : (qmade n d).num.natAbs ≤ n.natAbs ∧ (qmade n d).den ≤ (if d < 1 then 1 else d) := by
 unfold qmade
 obtain ⟨h1, h2⟩ := canc (z := n) (d := if d < 1 then 1 else d) (by split <;> omega)
 rw [h1, h2, Int.natAbs_tdiv]
 exact ⟨Nat.div_le_self _ _, Nat.div_le_self _ _⟩
theorem qmade_sz (n : Int) (d : Nat) (h1 : -9223372036854775808 ≤ n) (h2 : n < 9223372036854775808) (h3 : d < 4294967296) : Sz (qmade n d) 1 := by
 obtain ⟨e1, e2⟩ := qmade_parts n d
 exact szc _ (by omega) (by split at e2 <;> omega)
end Go.Proofs.YtdmoadfnogdfnaaGreatDoor
namespace Go.Proofs.YtdmoadfnogdfnaaGreatDoor
open Go.RowKit
attribute [local irreducible] lo hs sm s64 c64 d64 b64 mh ml pd pc qd qc val hiB str cmpI srD lz nb isq decB zl zh zs dval
/-- A fraction's cells; those of a list. -/
def frC (q : Rat) : List Value := [.int .u64 ((zl q.num : Nat) : Int), .string (zh q.num), .bool (zs q.num), .int .u64 ((lo (fe q) : Nat) : Int), .string (hs (fe q))]
def frCs (l : List Rat) : List Value := l.flatMap frC
theorem frCs_nil : frCs [] = [] := rfl
theorem frC_length (q : Rat) : (frC q).length = 5 := rfl
theorem frCs_length : ∀ l : List Rat, (frCs l).length = l.length * 5
 | [] => rfl
 | q :: l => by unfold frCs; rw [List.flatMap_cons, List.length_append, frC_length, List.length_cons]; have := frCs_length l; unfold frCs at this; omega
theorem frCs_append (l m : List Rat) : frCs (l ++ m) = frCs l ++ frCs m := by unfold frCs; rw [List.flatMap_append]
theorem frCs_snoc (l : List Rat) (q : Rat) : frCs (l ++ [q]) = frCs l ++ frC q := by rw [frCs_append]; simp [frCs]
theorem frCs_get : ∀ (l : List Rat) (i j : Nat) (h : i < l.length), j < 5 → (frCs l)[i * 5 + j]? = (frC l[i])[j]?
 | q :: l, 0, j, h, hj => by
  unfold frCs
  rw [List.flatMap_cons, Nat.zero_mul, Nat.zero_add, List.getElem?_append_left (by rw [frC_length]; exact hj)]; rfl
 | q :: l, i + 1, j, h, hj => by
  have hi : i < l.length := by simpa using h
  have ih := frCs_get l i j hi hj
  unfold frCs at ih ⊢
  rw [List.flatMap_cons, List.getElem?_append_right (by rw [frC_length]; omega), frC_length, show (i + 1) * 5 + j - 5 = i * 5 + j by omega, ih]
  rfl
theorem frC_one : ∀ (q : Rat), ∀ u ∈ frC q, u.oneCell' = true := by
 intro q u hu
 unfold frC at hu
 simp only [List.mem_cons, List.not_mem_nil, or_false] at hu
 rcases hu with rfl | rfl | rfl | rfl | rfl <;> rfl
theorem frCs_one (l : List Rat) : ∀ u ∈ frCs l, u.oneCell' = true := by
 intro u hu
 obtain ⟨q, -, hq⟩ := List.mem_flatMap.1 hu
 exact frC_one q u hq
theorem add0 (g j : Nat) : (⟨g, 0, none⟩ : Addr).add j = ⟨g, j, none⟩ := by
 unfold Addr.add
 by_cases h : j = 0
 ·subst h; simp
 ·simp [h]
theorem own_cells {w : World} {B n : Nat} {v : Value} {l : List Rat} {g : Nat} {c : Nat} (h : w.ownsRow B 79 5 v n (frCs l)) (hv : v = .slice (some ⟨g, 0, none⟩) n c) (j : Nat) (u : Value) (hu : (frCs l)[j]? = some u) : w.cell? ⟨g, j, none⟩ = some u := by
 have := World.ownsRow.cells h (g := g) (by rw [hv]; rfl) j u hu
 rw [add0] at this
 exact this
theorem own_fs {w : World} {B n g c : Nat} {v : Value} {l : List Rat} (h : w.ownsRow B 79 5 v n (frCs l)) (hv : v = .slice (some ⟨g, 0, none⟩) n c) : FS w g l := by
 have hc := own_cells h hv
 refine ⟨fun i hi => ?_, (h.lt g (by rw [hv]; rfl)).2⟩
 have e := fun j hj => frCs_get l i j hi hj
 exact ⟨hc _ _ (by have := e 0 (by omega); rw [Nat.add_zero] at this; exact this), hc _ _ (e 1 (by omega)), hc _ _ (e 2 (by omega)), hc _ _ (e 3 (by omega)), hc _ _ (e 4 (by omega))⟩
theorem own_below {w w' : World} {B n : Nat} {v : Value} {l : List Rat} (h : w.ownsRow B 79 5 v n (frCs l)) (hb : Below w.heap.size w w') : w'.ownsRow B 79 5 v n (frCs l) := by
 refine ⟨h.1, ?_⟩
 rcases h.2 with h1 | ⟨g, cap, cur, h1, h2, h3, h4⟩
 ·exact .inl h1
 ·refine .inr ⟨g, cap, cur, h1, h2, ?_, h4⟩
  have hg := (h.lt g (by rw [h1]; rfl)).2
  rw [hb.block g hg]; exact h3
theorem own_setAll {w : World} {B n : Nat} {v : Value} {l : List Rat} (h : w.ownsRow B 79 5 v n (frCs l)) {S : Nat} (hS : S < B) {c : List Value} : (setAll w S 0 c).ownsRow B 79 5 v n (frCs l) := by
 have hu := setAll_upd S c 0 w
 refine ⟨h.1, ?_⟩
 rcases h.2 with h1 | ⟨g, cap, cur, h1, h2, h3, h4⟩
 ·exact .inl h1
 ·exact .inr ⟨g, cap, cur, h1, h2, by rw [hu.block g (by omega)]; exact h3, h4⟩
theorem GL.belowB {w W W' : World} {L : List (Nat × List Value)} {B : Nat} (h : GL w W L) (hb : Below B W W') (hB : ∀ p ∈ L, p.1 < B) (hw : w.heap.size ≤ B) : GL w W' L := by
 refine ⟨h.bl.trans (hb.mono hw), fun p hp => ⟨(h.all p hp).1, ?_⟩, h.nd⟩
 have hd := (h.all p hp).2
 have hk := hB p hp
 have hbl := hb.block p.1 hk
 refine ⟨fun i hi => (World.cell?_of_block (a := ⟨p.1, i, none⟩) hbl).trans (hd.cell i hi), fun i => ?_, Nat.lt_of_lt_of_le hd.lt hb.size, ?_⟩
 ·have := hd.frz i
  unfold World.frozen? at this ⊢
  simp only at this ⊢
  rw [hbl]; exact this
 ·obtain ⟨arr, t, h1, h2⟩ := hd.row
  exact ⟨arr, t, by rw [hbl]; exact h1, h2⟩
theorem own_belowB {w w' : World} {B C n : Nat} {v : Value} {l : List Rat} (h : w.ownsRow B 79 5 v n (frCs l)) (hb : Below C w w') (hv : ∀ g, v.ownBlock = some g → g < C) : w'.ownsRow B 79 5 v n (frCs l) := by
 refine ⟨h.1, ?_⟩
 rcases h.2 with h1 | ⟨g, cap, cur, h1, h2, h3, h4⟩
 ·exact .inl h1
 ·exact .inr ⟨g, cap, cur, h1, h2, by rw [hb.block g (hv g (by rw [h1]; rfl))]; exact h3, h4⟩
theorem slice_fromQ (w : World) (g n cap k : Nat) (h : k < n) (hc : n ≤ cap) :
  (Instr.slice 113 (.slice (some ⟨g, 0, none⟩) n cap) (some (.int .i64 (k : Int))) none none).run Tryz.prog w = .ok (.slice (some ((⟨g, 0, none⟩ : Addr).add (k * 5))) (n - k) (cap - k)) w := by
 have h1 : (0 : Int) ≤ (k : Int) := by omega
 have h2 : (k : Int) ≤ (n : Int) := by omega
 have hh : ¬ cap = k := by omega
 simp [Instr.slice, Instr.sliceBounds, run_underlying Tryz.underlying113, run_sliceBound, h1, h2, hh, go_sem] <;> rfl
theorem slice_toQ (w : World) (g n cap k : Nat) (h : k < n) (hc : n ≤ cap) :
  (Instr.slice 113 (.slice (some ⟨g, 0, none⟩) n cap) none (some (.int .i64 (k : Int))) none).run Tryz.prog w = .ok (.slice (some ⟨g, 0, none⟩) k cap) w := by
 have h1 : (0 : Int) ≤ (k : Int) := by omega
 have h2 : (k : Int) ≤ (cap : Int) := by omega
 simp [Instr.slice, Instr.sliceBounds, run_underlying Tryz.underlying113, run_sliceBound, h1, h2, go_sem] <;> rfl
theorem addk (g o j : Nat) : (⟨g, o, none⟩ : Addr).add j = ⟨g, o + j, none⟩ := by
 unfold Addr.add
 by_cases h : j = 0
 ·subst h; simp
 ·simp [h]
theorem own_drop {w : World} {B n g c k : Nat} {l : List Rat} (h : w.ownsRow B 79 5 (.slice (some ⟨g, 0, none⟩) n c) n (frCs l)) (hk : k ≤ l.length) :
  ∀ (j : Nat) (u : Value), (frCs (l.drop k))[j]? = some u → w.cell? (((⟨g, 0, none⟩ : Addr).add (k * 5)).add j) = some u := by
 intro j u hu
 rw [addk, addk, Nat.zero_add]
 refine own_cells h rfl _ u ?_
 conv => lhs; rw [← List.take_append_drop k l, frCs_append]
 rw [List.getElem?_append_right (by rw [frCs_length, List.length_take]; omega), frCs_length, List.length_take, show k * 5 + j - min k l.length * 5 = j by rw [Nat.min_eq_left hk]; omega]
 exact hu
theorem own_take {w : World} {B n g c k : Nat} {l : List Rat} (h : w.ownsRow B 79 5 (.slice (some ⟨g, 0, none⟩) n c) n (frCs l)) :
  ∀ (j : Nat) (u : Value), (frCs (l.take k))[j]? = some u → w.cell? ((⟨g, 0, none⟩ : Addr).add j) = some u := by
 intro j u hu
 rw [addk, Nat.zero_add]
 refine own_cells h rfl _ u ?_
 have hj : j < (frCs (l.take k)).length := (List.getElem?_eq_some_iff.1 hu).1
 conv => lhs; rw [← List.take_append_drop k l, frCs_append]
 rw [List.getElem?_append_left hj]
 exact hu
theorem own_form {w : World} {B n m : Nat} {v : Value} {xs : List Value} (h : w.ownsRow B 79 5 v n xs) (hn : m = n) (h0 : 0 < m) : ∃ g c, v = .slice (some ⟨g, 0, none⟩) m c ∧ B ≤ g ∧ g < w.heap.size ∧ m ≤ c := by
 subst hn
 have hlt := h.lt
 rcases h.2 with ⟨h1, h2⟩ | ⟨g, cap, cur, h1, h2, h3, h4, h5⟩
 ·omega
 ·exact ⟨g, cap, h1, h2, (hlt g (by rw [h1]; rfl)).2, h4⟩
theorem slice_fromK (w : World) (g n cap k : Nat) (h : k < n) (hc : n ≤ cap) :
  (Instr.slice 113 (.slice (some ⟨g, 0, none⟩) n cap) (some (.int .i64 (k : Int))) none none).run Tryz.prog w = .ok (.slice (some ⟨g, k * 5, none⟩) (n - k) (cap - k)) w := by
 rw [slice_fromQ w g n cap k h hc, addk, Nat.zero_add]
theorem own_dropK {w : World} {B n g c k : Nat} {l : List Rat} (h : w.ownsRow B 79 5 (.slice (some ⟨g, 0, none⟩) n c) n (frCs l)) (hk : k ≤ l.length) :
  ∀ (j : Nat) (u : Value), (frCs (l.drop k))[j]? = some u → w.cell? ((⟨g, k * 5, none⟩ : Addr).add j) = some u := by
 have e := own_drop h hk
 rw [addk, Nat.zero_add] at e
 exact e
/-- The order does not matter. -/
theorem qsum_foldl (l : List Rat) : ∀ s : Rat, l.foldl (· + ·) s = s + qsum l := by
 induction l with
 | nil => intro s; simp [qsum]; grind
 | cons a l ih => intro s; unfold qsum; rw [List.foldl_cons, List.foldl_cons, ih, ih (0 + a)]; grind
theorem qsum_append (l m : List Rat) : qsum (l ++ m) = qsum l + qsum m := by
 have h : qsum (l ++ m) = m.foldl (· + ·) (qsum l) := by unfold qsum; rw [List.foldl_append]
 rw [h, qsum_foldl]
theorem qsum_turn (l : List Rat) (k : Nat) : qsum (l.drop k ++ l.take k) = qsum l := by
 conv => rhs; rw [← List.take_append_drop k l]
 rw [qsum_append, qsum_append, Rat.add_comm]
theorem amg_gt_ge : ∀ (l : List Rat) (a : Rat), a ∈ l → a ≤ amg gtQ l := by
 intro l
 refine snoc_ind (p := fun l => ∀ a, a ∈ l → a ≤ amg gtQ l) l (fun a h => by cases h) fun m b ih a ha => ?_
 by_cases hm : m = []
 ·subst hm
  simp [amg] at ha ⊢
  rw [ha]; exact Rat.le_refl
 ·rw [amg_snoc gtQ m b hm]
  rcases List.mem_append.1 ha with ha | ha
  ·have := ih a ha
   split
   ·rename_i h1
    have h2 : amg gtQ m < b := of_decide_eq_true h1
    grind
   ·exact this
  ·have e : a = b := by simpa using ha
   subst e
   split
   ·exact Rat.le_refl
   ·rename_i h1
    have h2 : ¬ amg gtQ m < a := fun h => h1 (decide_eq_true h)
    grind
theorem amg_lt_le : ∀ (l : List Rat) (a : Rat), a ∈ l → amg ltQ l ≤ a := by
 intro l
 refine snoc_ind (p := fun l => ∀ a, a ∈ l → amg ltQ l ≤ a) l (fun a h => by cases h) fun m b ih a ha => ?_
 by_cases hm : m = []
 ·subst hm
  simp [amg] at ha ⊢
  rw [ha]; exact Rat.le_refl
 ·rw [amg_snoc ltQ m b hm]
  rcases List.mem_append.1 ha with ha | ha
  ·have := ih a ha
   split
   ·rename_i h1
    have h2 : b < amg ltQ m := of_decide_eq_true h1
    grind
   ·exact this
  ·have e : a = b := by simpa using ha
   subst e
   split
   ·exact Rat.le_refl
   ·rename_i h1
    have h2 : ¬ a < amg ltQ m := fun h => h1 (decide_eq_true h)
    grind
theorem turn_mem (l : List Rat) (k : Nat) (a : Rat) : a ∈ l.drop k ++ l.take k ↔ a ∈ l := by
 conv => rhs; rw [← List.take_append_drop k l]
 rw [List.mem_append, List.mem_append, or_comm]
theorem turn_ne {l : List Rat} (h : l ≠ []) (k : Nat) : l.drop k ++ l.take k ≠ [] := fun e => by
 have := congrArg List.length e
 rw [List.length_append, List.length_drop, List.length_take, List.length_nil] at this
 exact h (List.eq_nil_of_length_eq_zero (by omega))
theorem amg_gt_turn {l : List Rat} (h : l ≠ []) (k : Nat) : amg gtQ (l.drop k ++ l.take k) = amg gtQ l := by
 have h1 := amg_gt_ge l _ ((turn_mem l k _).1 (amg_mem gtQ _ (turn_ne h k)))
 have h2 := amg_gt_ge _ _ ((turn_mem l k _).2 (amg_mem gtQ l h))
 grind
theorem amg_lt_turn {l : List Rat} (h : l ≠ []) (k : Nat) : amg ltQ (l.drop k ++ l.take k) = amg ltQ l := by
 have h1 := amg_lt_le l _ ((turn_mem l k _).1 (amg_mem ltQ _ (turn_ne h k)))
 have h2 := amg_lt_le _ _ ((turn_mem l k _).2 (amg_mem ltQ l h))
 grind
end Go.Proofs.YtdmoadfnogdfnaaGreatDoor
namespace Go.Proofs.YtdmoadfnogdfnaaGreatDoor
open Go.RowKit
attribute [local irreducible] lo hs sm s64 c64 d64 b64 mh ml pd pc qd qc val hiB str cmpI srD lz nb isq decB zl zh zs fe frCs qmade
/-- The plain fractions that a slice holds. -/
structure QSl (w : World) (a : Addr) (ql : List (Int × Int)) : Prop where
 c0 : ∀ (i : Nat) (h : i < ql.length), w.cell? (a.add (i * 2)) = some (.int .i64 ql[i].1)
 c1 : ∀ (i : Nat) (h : i < ql.length), w.cell? ((a.add (i * 2)).add 1) = some (.int .u32 ql[i].2)
 rg : ∀ p ∈ ql, (-9223372036854775808 ≤ p.1 ∧ p.1 < 9223372036854775808) ∧ 0 ≤ p.2 ∧ p.2 < 4294967296
 blk : a.block < w.heap.size
theorem add_blk (a : Addr) (i : Nat) : (a.add i).block = a.block := by unfold Addr.add; split <;> rfl
theorem add_one (a : Addr) : a.add 1 = ⟨a.block, a.off + 1, none⟩ := by unfold Addr.add; simp
theorem QSl.below {w w' : World} {a : Addr} {ql : List (Int × Int)} (h : QSl w a ql) (hb : Below w.heap.size w w') : QSl w' a ql :=
 ⟨fun i hi => (hb.cell (p := a.add (i * 2)) (by rw [add_blk]; exact h.blk)).trans (h.c0 i hi), fun i hi => (hb.cell (p := (a.add (i * 2)).add 1) (by rw [add_blk, add_blk]; exact h.blk)).trans (h.c1 i hi), h.rg, Nat.lt_of_lt_of_le h.blk hb.size⟩
theorem hd_news {w : World} {k : Nat} {c : List Value} (h : Hd w k c) : ∀ (j : Nat) (u : Value), c[j]? = some u → w.cell? ((⟨k, 0, none⟩ : Addr).add j) = some u := by
 intro j u hu
 obtain ⟨hj, he⟩ := List.getElem?_eq_some_iff.1 hu
 rw [add0, h.cell j hj, he]
theorem infoF : (Tryz.prog.info? 79).map (fun i => (i.zero, i.size, i.bytes)) = some (some (.agg #[.int .u64 0, .string ⟨#[]⟩, .bool false, .int .u64 0, .string ⟨#[]⟩]), 5, 56) := by kernel_rfl
set_option maxHeartbeats 4000000 in
set_option maxRecDepth 100000 in
theorem flists_pos (t : Int) (a : Addr) (n c : Nat) (ql : List (Int × Int)) (qs : List Rat) (hn : 0 < n) (hn20 : n ≤ 20) (hlen : ql.length = n) (hlq : qs.length = n)
  (HQ : ∀ (i : Nat) (h : i < ql.length) (h' : i < qs.length) (w : World), Calls Tryz.prog 88 #[.agg #[.int .i64 ql[i].1, .int .u32 ql[i].2]] w fun xe w' => xe = .returned (fracV qs[i]) ∧ Below w.heap.size w w')
  (HA : ∀ (i : Nat) (h : i < qs.length) (w : World), Calls Tryz.prog 61 #[fracV (qsum (qs.take i)), fracV qs[i]] w fun xe w' => xe = .returned (fracV (qsum (qs.take (i + 1)))) ∧ Below w.heap.size w w')
  (HZ : ∀ q ∈ qs, Sz q 1) (KT : World → Prop) (hKT : Keeps KT) (HW : ∀ w, KT w → Calls Tryz.prog 54 #[] w fun xe w' => xe = .returned (.bool true) ∧ Below w.heap.size w w') (w : World) (kKT : KT w) (hq : QSl w a ql) :
  Calls Tryz.prog 10 #[.slice (some a) n c, .int .i64 t] w fun xe w' => xe = .returned (.bool true) ∧ Below w.heap.size w w' := by
 have hL0 : GL w w [] := GL.start w
 replace HQ := Lib.hid HQ
 replace HA := Lib.hid HA
 replace HZ := Lib.hid HZ
 replace hKT := Lib.hid hKT
 replace HW := Lib.hid HW
 obtain ⟨iF, hi, hz0, hz1, hz2⟩ := info_parts infoF
 replace hz0 := Lib.hid hz0
 replace hi := Lib.hid hi
 replace hz1 := Lib.hid hz1
 replace hz2 := Lib.hid hz2
 replace hq := Lib.hid hq
 have g1 : decide ((20 : Int) < (n : Int)) = false := decide_eq_false (by omega)
 have g2 : decide (20 < n) = false := decide_eq_false (by omega)
 replace hL0 := (hL0.new rfl [.int .u64 0, .string ⟨#[]⟩, .bool false, .int .u64 0, .string ⟨#[]⟩] 79)
 generalize hweq : (w.alloc (.cells #[.int .u64 0, .string ⟨#[]⟩, .bool false, .int .u64 0, .string ⟨#[]⟩] 79)) = x1 at hL0
 go_enter Tryz.func10, Tryz.ntmps10
 have hA := hL0.fc
 simp only [fcG, cellsF, neK, and_true, ne_eq, Nat.zero_add, Nat.reduceAdd] at hA
 go_wp2_with fail
 clear hA
 clear hweq
 rw [← zero_cells] at hL0
 have hBS : w.heap.size < x1.heap.size := (hL0.get _ _ List.mem_cons_self).lt
 obtain ⟨S, hS⟩ : ∃ S, S = w.heap.size := ⟨_, rfl⟩
 rw [← hS] at hBS hL0 ⊢
 obtain ⟨E, hE⟩ : ∃ E, E = x1.heap.size := ⟨_, rfl⟩
 rw [← hE] at hBS
 have hwE : w.heap.size ≤ E := by omega
 clear hS
 go_loopw [5, 8] (fun v z wr => ∃ (i : Nat) (zi : Int) (q : Rat), i ≤ n ∧ z = .int .i64 zi ∧ zi = (i : Int) ∧ q = qsum (qs.take i) ∧ E ≤ wr.heap.size ∧ wr.ownsRow E 79 5 v i (frCs (qs.take i)) ∧ GL w wr [(S, [.int .u64 ((zl q.num : Nat) : Int), .string (zh q.num), .bool (zs q.num), .int .u64 ((lo (fe q) : Nat) : Int), .string (hs (fe q))])]) (fun _ z _ => n - (intOf z).toNat)
 case atStart => exact ⟨0, _, _, Nat.zero_le _, rfl, rfl, rfl, Nat.le_of_eq hE, by rw [List.take_zero, frCs_nil]; exact World.ownsRow_nil _ _ _ _, hL0⟩
 case round =>
  clear hL0 hE
  obtain ⟨i, zi, q, hi1, rfl, hzi, hqq, hEw, hown, hL0⟩ := hrel
  rcases Nat.lt_or_ge i n with hin | hin
  ·subst hzi
   have k1 : (i : Int) < (n : Int) := by omega
   have k0 : (0 : Int) ≤ (i : Int) := Int.natCast_nonneg _
   have hQw := Lib.hid (hq.out.below hL0.bl)
   have c0 := hQw.out.c0 i (by omega)
   have c1 := hQw.out.c1 i (by omega)
   rw [add_one] at c1
   obtain ⟨N, hN⟩ : ∃ N, N = (ql[i]'(by omega)).1 := ⟨_, rfl⟩
   obtain ⟨D, hD⟩ : ∃ D, D = (ql[i]'(by omega)).2 := ⟨_, rfl⟩
   rw [← hN] at c0
   rw [← hD] at c1
   have HQi := Lib.hid (HQ.out i (by omega) (by omega))
   rw [← hN, ← hD] at HQi
   replace hN := Lib.hid hN
   replace hD := Lib.hid hD
   obtain ⟨r, hr⟩ : ∃ r, r = qs[i]'(by omega) := ⟨_, rfl⟩
   rw [← hr] at HQi
   have htk := Lib.hid (show qs.take (i + 1) = qs.take i ++ [r] by rw [List.take_succ_eq_append_getElem (by omega), hr])
   have HAi := Lib.hid (HA.out i (by omega))
   rw [← hr, ← hqq] at HAi
   obtain ⟨s, hs1⟩ : ∃ s, s = qsum (qs.take (i + 1)) := ⟨_, rfl⟩
   rw [← hs1] at HAi
   replace hr := Lib.hid hr
   replace hqq := Lib.hid hqq
   replace hs1 := Lib.hid hs1
   go_wp2_with fail
   with_reducible refine Calls.mono (HQi.out _) ?_
   rintro e x2 ⟨rfl, hb⟩
   have hown2 := own_below hown hb
   replace hL0 := hL0.call hb
   have hE2 : E ≤ x2.heap.size := Nat.le_trans hEw hb.size
   clear hb hown hEw c0 c1 hQw
   replace hL0 := (hL0.new rfl [.int .u64 ((zl r.num : Nat) : Int), .string (zh r.num), .bool (zs r.num), .int .u64 ((lo (fe r) : Nat) : Int), .string (hs (fe r))] 79)
   generalize hweq : (x2.alloc (.cells #[.int .u64 ((zl r.num : Nat) : Int), .string (zh r.num), .bool (zs r.num), .int .u64 ((lo (fe r) : Nat) : Int), .string (hs (fe r))] 79)) = x3 at hL0
   have hown3 := own_below hown2 (show Below x2.heap.size x2 x3 by rw [← hweq]; exact (Below.refl _ _).alloc (Nat.le_refl _) _)
   have hE3 : E ≤ x3.heap.size := Nat.le_trans hE2 (by rw [← hweq, World.size_alloc]; omega)
   clear hown2 hE2
   have hnw := hd_news (hL0.get _ _ List.mem_cons_self)
   replace hnw := Lib.hid hnw
   replace hown3 := Lib.hid hown3
   replace hE3 := Lib.hid hE3
   replace hBS := Lib.hid hBS
   replace hwE := Lib.hid hwE
   have hne : ∀ u ∈ ([.int .u64 ((zl r.num : Nat) : Int), .string (zh r.num), .bool (zs r.num), .int .u64 ((lo (fe r) : Nat) : Int), .string (hs (fe r))] : List Value), u.oneCell' = true := frC_one r
   replace hne := Lib.hid hne
   go_wp2_with (at_builtin; refine wpList_append_own _ rfl _ _ 113 rfl E 79 iF (.agg #[.int .u64 0, .string ⟨#[]⟩, .bool false, .int .u64 0, .string ⟨#[]⟩]) 5 56 Tryz.underlying113 hi.out hz0.out hz1.out hz2.out rfl (by decide) _ _ _ rfl hown3.out ⟨x2.heap.size, 0, none⟩ 1 1 [.int .u64 ((zl r.num : Nat) : Int), .string (zh r.num), .bool (zs r.num), .int .u64 ((lo (fe r) : Nat) : Int), .string (hs (fe r))] rfl rfl hnw.out hne.out (by unfold maxLen; omega) (by omega) hE3.out ?_)
   intro v' w1 hown' hgrow _
   have hown4 : w1.ownsRow E 79 5 v' (i + 1) (frCs (qs.take (i + 1))) := by rw [htk.out, frCs_snoc]; exact hown'
   have hb4 : Below E x3 w1 := (Below.refl E x3).grown hgrow hE3.out (fun j hj => (hown3.out.lt j hj).1)
   replace hL0 := (hL0.weak (List.Sublist.cons _ (List.Sublist.refl _))).belowB hb4 (fun p hp => by simp only [List.mem_cons, List.not_mem_nil, or_false] at hp; subst hp; exact hBS.out) hwE.out
   have hE4 : E ≤ w1.heap.size := Nat.le_trans hE3.out hgrow.size
   clear hown' hgrow hb4 hown3 hE3 hnw hne hweq
   have hQ4 := Lib.hid (hq.out.below hL0.bl)
   have c0 := hQ4.out.c0 i (by omega)
   have c1 := hQ4.out.c1 i (by omega)
   rw [add_one] at c1
   rw [← hN.out] at c0
   rw [← hD.out] at c1
   replace hown4 := Lib.hid hown4
   replace hE4 := Lib.hid hE4
   have hN0 := cells_of _ 0 [] rfl (hL0.get _ _ List.mem_cons_self)
   simp only [cellsF, and_true, Nat.zero_add, Nat.reduceAdd] at hN0
   go_upto_region 9 with fail
   clear hN0
   obtain ⟨α, iα, F, hF1, hF2⟩ := cls w1
   have hq0 := cls_box hF1 hL0 _ _ List.mem_cons_self
   simp only [cellsC, and_true, Nat.zero_add, Nat.reduceAdd] at hq0
   have hq1 : ∀ x, (F x).cell? (a.add (i * 2)) = some (.int .i64 N) := fun x => ((hF1 x).cell (p := a.add (i * 2)) (World.block_lt_of_cell? _ _ c0)).trans c0
   have hq2 : ∀ x, (F x).cell? ⟨(a.add (i * 2)).block, (a.add (i * 2)).off + 1, none⟩ = some (.int .u32 D) := fun x => ((hF1 x).cell (p := ⟨(a.add (i * 2)).block, (a.add (i * 2)).off + 1, none⟩) (World.block_lt_of_cell? _ _ c1)).trans c1
   clear c0 c1
   refine region_qs 7 (C := fun w' => ∃ x, w' = F x) (by kernel_rfl) (by kernel_rfl) (cls_drew hF2) ?_
   simp only [List.take_succ_cons, List.take_zero, List.drop_succ_cons, List.drop_zero, List.take_nil, List.drop_nil]
   repeat (go_big_quiet_step (first | fail | (go_at_call 88; with_reducible exact cls_call hF1 hF2 HQi.out _) | (go_at_call 61; with_reducible exact cls_call hF1 hF2 HAi.out _)))
   refine wpQuiet_nil ?_
   rintro wq ⟨xq, rfl⟩
   have hown5 := Lib.hid (own_below hown4.out (hF1 xq))
   have hE5 := Lib.hid (Nat.le_trans hE4.out (hF1 xq).size)
   replace hL0 := hL0.call (hF1 xq)
   clear hq0 hq1 hq2 hF2 hown4 hE4 hQ4
   generalize F xq = x5 at hL0 hown5 hE5 ⊢
   clear hF1 xq iα F α
   have hA := hL0.fc
   simp only [fcG, cellsF, neK, and_true, ne_eq, Nat.zero_add, Nat.reduceAdd] at hA
   have hP := hL0.put 0 (S) _ rfl [.int .u64 ((zl s.num : Nat) : Int), .string (zh s.num), .bool (zs s.num), .int .u64 ((lo (fe s) : Nat) : Int), .string (hs (fe s))] rfl
   simp only [setAll, List.set_cons_zero, List.set_cons_succ] at hP
   generalize hput1 : (((((x5.setCell ⟨S, 0, none⟩ (.int .u64 ((zl s.num : Nat) : Int))).setCell ⟨S, 1, none⟩ (.string (zh s.num))).setCell ⟨S, 2, none⟩ (.bool (zs s.num))).setCell ⟨S, 3, none⟩ (.int .u64 ((lo (fe s) : Nat) : Int))).setCell ⟨S, 4, none⟩ (.string (hs (fe s)))) = x6 at hP
   have hB1 := hP.fc
   simp only [fcG, cellsF, neK, and_true, ne_eq, Nat.zero_add, Nat.reduceAdd] at hB1
   replace hL0 := hP
   have hown6 := Lib.hid (own_setAll hown5.out hBS.out (c := [.int .u64 ((zl s.num : Nat) : Int), .string (zh s.num), .bool (zs s.num), .int .u64 ((lo (fe s) : Nat) : Int), .string (hs (fe s))]))
   have hE6 : E ≤ x6.heap.size := by rw [← hput1]; simpa [World.setCell] using hE5.out
   simp only [setAll] at hown6
   rw [hput1] at hown6
   go_wp2_with fail
   go_roundw
   case rel => exact ⟨i + 1, _, s, by omega, by first | rfl | go_num, by omega, hs1.out, hE6, hown6.out, hL0⟩
   case measure => simp [intOf] <;> omega
  ·subst hzi
   have hni : n = i := by omega
   subst hni
   have hall : qs.take n = qs := List.take_of_length_le (by omega)
   rw [hall] at hown hqq
   clear hall hi1 hin
   subst hqq
   have k1 : ¬ (n : Int) < (n : Int) := by omega
   obtain ⟨g, cap, rfl, hgE, hgw, hnc⟩ := own_form hown rfl hn
   have k3 : (0 : Int) < (n : Int) := by omega
   have k4 : ((n : Int) == 0) = false := beq_eq_false_iff_ne.2 (by omega)
   have kn : (n : Int) ≤ 20 := by omega
   have kn0 : (0 : Int) ≤ (n : Int) := by omega
   obtain ⟨U, hU⟩ : ∃ U, IntKind.u64.wrap t = U := ⟨_, rfl⟩
   have hUb : 0 ≤ U ∧ U < 18446744073709551616 := by rw [← hU, IntKind.wrap_u64]; omega
   have hU0 := hUb.1
   have hU1 := Lib.hid hUb.2
   obtain ⟨k, hk, hkn⟩ : ∃ k : Nat, U % (n : Int) = (k : Int) ∧ k < n := by
    have h1 := Int.emod_nonneg U (show (n : Int) ≠ 0 by omega)
    have h2 := Int.emod_lt_of_pos U k3
    exact ⟨(U % (n : Int)).toNat, by omega, by omega⟩
   have hk2 : U.tmod (n : Int) = (k : Int) := by rw [Int.tmod_eq_emod_of_nonneg hU0]; exact hk
   have kk0 : (0 : Int) ≤ (k : Int) := by omega
   have kk1 : (k : Int) ≤ 20 := by omega
   clear hUb
   have hs1 := slice_fromK wr g n cap k hkn hnc
   have hdn := Lib.hid (own_dropK hown (k := k) (by omega))
   replace hown := Lib.hid hown
   have hdl := Lib.hid (show (frCs (qs.drop k)).length = (n - k) * 5 by rw [frCs_length, List.length_drop, hlq])
   replace hnc := Lib.hid hnc
   replace hgE := Lib.hid hgE
   replace hgw := Lib.hid hgw
   replace hEw := Lib.hid hEw
   replace hBS := Lib.hid hBS
   replace hwE := Lib.hid hwE
   replace hkn := Lib.hid hkn
   replace hn := Lib.hid hn
   replace hlen := Lib.hid hlen
   replace hlq := Lib.hid hlq
   go_wp2_with (at_builtin; refine wpList_append_own _ rfl _ _ 113 rfl wr.heap.size 79 iF (.agg #[.int .u64 0, .string ⟨#[]⟩, .bool false, .int .u64 0, .string ⟨#[]⟩]) 5 56 Tryz.underlying113 hi.out hz0.out hz1.out hz2.out rfl (by decide) _ 0 [] rfl (World.ownsRow_nil _ _ _ _) ⟨g, k * 5, none⟩ (n - k) (cap - k) (frCs (qs.drop k)) rfl hdl.out hdn.out (frCs_one _) (by unfold maxLen; omega) (by omega) (Nat.le_refl _) ?_)
   intro v6 w1 hown6 hgrow1 _
   replace hown6 : w1.ownsRow wr.heap.size 79 5 v6 (n - k) (frCs (qs.drop k)) := by first | exact hown6 | simpa using hown6
   have hb1 : Below wr.heap.size wr w1 := (Below.refl _ _).grown hgrow1 (Nat.le_refl _) (fun j hj => by cases hj)
   have hA1 := Lib.hid (own_below hown.out hb1)
   replace hL0 := hL0.call hb1
   obtain ⟨g6, c6, rfl, hg6, hg6w, hc6⟩ := own_form hown6 rfl (by have := hkn.out; omega)
   have hs2 := slice_toQ w1 g n cap k hkn.out hnc.out
   have htn := Lib.hid (own_take hA1.out (k := k))
   have htl := Lib.hid (show (frCs (qs.take k)).length = k * 5 by rw [frCs_length, List.length_take, Nat.min_eq_left (by have := hkn.out; have := hlq.out; omega)])
   have hsz1 := Lib.hid (Nat.le_trans (Nat.le_refl wr.heap.size) hb1.size)
   replace hown6 := Lib.hid hown6
   replace hg6 := Lib.hid hg6
   clear hgrow1 hs1 hdn hdl hb1 hown
   have hkI := hkn.out
   go_wp2_with (at_builtin; refine wpList_append_own _ rfl _ _ 113 rfl wr.heap.size 79 iF (.agg #[.int .u64 0, .string ⟨#[]⟩, .bool false, .int .u64 0, .string ⟨#[]⟩]) 5 56 Tryz.underlying113 hi.out hz0.out hz1.out hz2.out rfl (by decide) _ (n - k) (frCs (qs.drop k)) rfl hown6.out ⟨g, 0, none⟩ k cap (frCs (qs.take k)) rfl htl.out htn.out (frCs_one _) (by unfold maxLen; omega) (by omega) hsz1.out ?_)
   intro v7 w2 hown7 hgrow2 _
   replace hown7 : w2.ownsRow wr.heap.size 79 5 v7 n (frCs (qs.drop k ++ qs.take k)) := by
    have e : n - k + k = n := by have := hkn.out; omega
    rw [frCs_append]; first | exact hown7 | (rw [e] at hown7; exact hown7)
   have hb2 : Below wr.heap.size w1 w2 := (Below.refl _ _).grown hgrow2 hsz1.out (fun j hj => (hown6.out.lt j hj).1)
   have hA2 := own_belowB hA1.out hb2 (fun j hj => by have e : g = j := Option.some.inj hj; rw [← e]; exact hgw.out)
   replace hL0 := hL0.belowB hb2 (fun p hp => by simp only [List.mem_cons, List.not_mem_nil, or_false] at hp; subst hp; have := hBS.out; have := hEw.out; omega) (Nat.le_trans hwE.out hEw.out)
   obtain ⟨g7, c7, rfl, -, -, -⟩ := own_form hown7 rfl hn.out
   have fA := own_fs hA2 rfl
   have fB := own_fs hown7 rfl
   obtain ⟨rot, hrot⟩ : ∃ rot, rot = qs.drop k ++ qs.take k := ⟨_, rfl⟩
   rw [← hrot] at fB
   clear hown7 hA2 hA1 hown6 hgrow2 hb2 htn htl hs2 hkI hc6 hg6w hg6 hgE hgw hEw hBS hwE hsz1 hk2 kk0 kk1 hk hU hU0 hU1
   have hS : SS w2 [] := SS.nil w2
   have hrl : rot.length = n := by rw [hrot, List.length_append, List.length_drop, List.length_take]; have := hlq.out; omega
   have hqn : qs ≠ [] := fun e => by have h1 := hlq.out; have h2 := hn.out; rw [e] at h1; simp at h1; omega
   have hZr : ∀ q ∈ rot, Sz q 1 := fun q hq => HZ.out q ((turn_mem qs k q).1 (by rw [← hrot]; exact hq))
   have HMx := fun w (h : FS w g qs) => maxF (some ⟨g, 0, none⟩) n cap qs 1 (by omega) (by have := hlq.out; omega) HZ.out w (.inr ⟨g, cap, by rw [hlq.out], h⟩)
   have HMn := fun w (h : FS w g qs) => minF (some ⟨g, 0, none⟩) n cap qs 1 (by omega) (by have := hlq.out; omega) HZ.out w (.inr ⟨g, cap, by rw [hlq.out], h⟩)
   have HSa := fun w (h : FS w g qs) => sumF (some ⟨g, 0, none⟩) n cap qs 1 (by omega) (by have := hlq.out; omega) HZ.out w (.inr ⟨g, cap, by rw [hlq.out], h⟩)
   have HRx := fun w (h : FS w g7 rot) => maxF (some ⟨g7, 0, none⟩) n c7 rot 1 (by omega) (by omega) hZr w (.inr ⟨g7, c7, by rw [hrl], h⟩)
   have HRn := fun w (h : FS w g7 rot) => minF (some ⟨g7, 0, none⟩) n c7 rot 1 (by omega) (by omega) hZr w (.inr ⟨g7, c7, by rw [hrl], h⟩)
   have HRs := fun w (h : FS w g7 rot) => sumF (some ⟨g7, 0, none⟩) n c7 rot 1 (by omega) (by omega) hZr w (.inr ⟨g7, c7, by rw [hrl], h⟩)
   rw [show amg gtQ rot = amg gtQ qs by rw [hrot]; exact amg_gt_turn hqn k] at HRx
   rw [show amg ltQ rot = amg ltQ qs by rw [hrot]; exact amg_lt_turn hqn k] at HRn
   rw [show qsum rot = qsum qs by rw [hrot]; exact qsum_turn qs k] at HRs
   have m1 := amg_mem gtQ qs hqn
   have m2 := amg_gt_ge qs
   have m3 := amg_mem ltQ qs hqn
   have m4 := amg_lt_le qs
   generalize amg gtQ qs = mx at *
   generalize amg ltQ qs = mn at *
   generalize qsum qs = sq at *
   have hKA : Keeps (fun w => FS w g qs) := fun _ _ hb h => h.below hb
   have hKB : Keeps (fun w => FS w g7 rot) := fun _ _ hb h => h.below hb
   have HC1 := fun (i : Nat) (h : i < qs.length) w => cmpF qs[i] mx 1 (HZ.out _ (List.getElem_mem h)) (HZ.out _ m1) (by omega) w
   have HC2 := fun (i : Nat) (h : i < qs.length) w => cmpF qs[i] mn 1 (HZ.out _ (List.getElem_mem h)) (HZ.out _ m3) (by omega) w
   clear hZr hqn hrot hrl
   replace HMx := Lib.hid HMx
   replace HMn := Lib.hid HMn
   replace HSa := Lib.hid HSa
   replace HRx := Lib.hid HRx
   replace HRn := Lib.hid HRn
   replace HRs := Lib.hid HRs
   replace m1 := Lib.hid m1
   replace m2 := Lib.hid m2
   replace m3 := Lib.hid m3
   replace m4 := Lib.hid m4
   replace hKA := Lib.hid hKA
   replace hKB := Lib.hid hKB
   replace HC1 := Lib.hid HC1
   replace HC2 := Lib.hid HC2
   have kA := Lib.hid fA
   have kB := Lib.hid fB
   clear fA fB hkn
   go_wp2_with fail
   with_reducible refine Calls.mono (HMx.out _ kA.out) ?_
   rintro e x11 ⟨rfl, hb⟩
   replace kA := Lib.hid (kA.out.below hb)
   replace kB := Lib.hid (kB.out.below hb)
   replace hL0 := hL0.call hb
   replace hS := hS.call hb
   clear hb
   go_wp2_with fail
   with_reducible refine Calls.mono (HMn.out _ kA.out) ?_
   rintro e x12 ⟨rfl, hb⟩
   replace kA := Lib.hid (kA.out.below hb)
   replace kB := Lib.hid (kB.out.below hb)
   replace hL0 := hL0.call hb
   replace hS := hS.call hb
   clear hb
   replace hS := ((hS.new (.cells #[.int .u64 ((zl mx.num : Nat) : Int), .string (zh mx.num), .bool (zs mx.num), .int .u64 ((lo (fe mx) : Nat) : Int), .string (hs (fe mx))] 79)).new (.cells #[.int .u64 ((zl mn.num : Nat) : Int), .string (zh mn.num), .bool (zs mn.num), .int .u64 ((lo (fe mn) : Nat) : Int), .string (hs (fe mn))] 79))
   replace hL0 := ((hL0.new rfl [.int .u64 ((zl mx.num : Nat) : Int), .string (zh mx.num), .bool (zs mx.num), .int .u64 ((lo (fe mx) : Nat) : Int), .string (hs (fe mx))] 79).new (K := x12.heap.size + 1) (szA _ _) [.int .u64 ((zl mn.num : Nat) : Int), .string (zh mn.num), .bool (zs mn.num), .int .u64 ((lo (fe mn) : Nat) : Int), .string (hs (fe mn))] 79)
   generalize hweq : ((x12.alloc (.cells #[.int .u64 ((zl mx.num : Nat) : Int), .string (zh mx.num), .bool (zs mx.num), .int .u64 ((lo (fe mx) : Nat) : Int), .string (hs (fe mx))] 79)).alloc (.cells #[.int .u64 ((zl mn.num : Nat) : Int), .string (zh mn.num), .bool (zs mn.num), .int .u64 ((lo (fe mn) : Nat) : Int), .string (hs (fe mn))] 79)) = x13 at hL0 hS
   have hb : Below x12.heap.size x12 x13 := by rw [← hweq]; exact ((Below.refl _ _).alloc (Nat.le_refl _) _).alloc (by rw [World.size_alloc]; omega) _
   replace kA := Lib.hid (kA.out.below hb)
   replace kB := Lib.hid (kB.out.below hb)
   clear hb
   go_upto_region 16 with fail
   have kA1 := kA.out
   have kB1 := kB.out
   clear hweq
   obtain ⟨α, iα, F, hF1, hF2⟩ := cls x13
   have hq0 := cls_box hF1 hL0 _ _ (List.mem_cons_of_mem _ (List.mem_cons_of_mem _ List.mem_cons_self))
   simp only [cellsC, and_true, Nat.zero_add, Nat.reduceAdd] at hq0
   have hq1 := cls_box hF1 hL0 _ _ (List.mem_cons_of_mem _ List.mem_cons_self)
   simp only [cellsC, and_true, Nat.zero_add, Nat.reduceAdd] at hq1
   have hq2 := cls_box hF1 hL0 _ _ List.mem_cons_self
   simp only [cellsC, and_true, Nat.zero_add, Nat.reduceAdd] at hq2
   refine region_cls (F := F) (by kernel_rfl) (lexB_of_fast (by kernel_rfl)) (cls_drew hF2) ?_
   repeat (go_big_quiet_step (first | fail | (go_at_call 91; first | (with_reducible exact cls_callK hKA.out hF1 hF2 kA1 HSa.out _) | (with_reducible exact cls_callK hKB.out hF1 hF2 kB1 HRs.out _)) | (go_at_call 89; with_reducible exact cls_callK hKB.out hF1 hF2 kB1 HRx.out _) | (go_at_call 90; with_reducible exact cls_callK hKB.out hF1 hF2 kB1 HRn.out _)))
   refine wpQuiet_nil ?_
   rintro wq ⟨xq, rfl⟩
   replace hL0 := hL0.call (hF1 xq)
   have hb := hF1 xq
   replace kA := Lib.hid (kA.out.below hb)
   replace kB := Lib.hid (kB.out.below hb)
   replace hS := hS.call hb
   clear hb kA1 kB1
   clear  hq0 hq1 hq2 hF2
   generalize F xq = x14 at hL0 hS kA kB ⊢
   clear hF1 xq iα F α
   go_wp2_with fail
   obtain ⟨B1, hB1⟩ : ∃ B1, B1 = x12.heap.size := ⟨_, rfl⟩
   obtain ⟨B2, hB2⟩ : ∃ B2, B2 = x12.heap.size + 1 := ⟨_, rfl⟩
   rw [← hB2, ← hB1] at hL0 ⊢
   clear hB1 hB2
   clear HMx HMn HSa HRx HRn HRs hKA hKB kB
   go_loopw [12, 13, 14] (fun u v z wr => ∃ (i : Nat) (zi : Int) (o1 o2 : Bool), i ≤ n ∧ z = .int .i64 zi ∧ zi = (i : Int) ∧ u = .bool o1 ∧ v = .bool o2 ∧ o1 = decide (mx ∈ qs.take i) ∧ o2 = decide (mn ∈ qs.take i) ∧ FS wr g qs ∧ GL w wr [(B2, [.int .u64 ((zl mn.num : Nat) : Int), .string (zh mn.num), .bool (zs mn.num), .int .u64 ((lo (fe mn) : Nat) : Int), .string (hs (fe mn))]), (B1, [.int .u64 ((zl mx.num : Nat) : Int), .string (zh mx.num), .bool (zs mx.num), .int .u64 ((lo (fe mx) : Nat) : Int), .string (hs (fe mx))]), (S, [.int .u64 ((zl sq.num : Nat) : Int), .string (zh sq.num), .bool (zs sq.num), .int .u64 ((lo (fe sq) : Nat) : Int), .string (hs (fe sq))])]) (fun _ _ z _ => n - (intOf z).toNat)
   case atStart => exact ⟨0, _, _, _, Nat.zero_le _, rfl, rfl, rfl, rfl, by simp, by simp, kA.out, hL0⟩
   case round =>
    clear hL0 hS kA
    obtain ⟨i, zi, o1, o2, hi1, rfl, hzi, rfl, rfl, ho1, ho2, kA, hL0⟩ := hrel
    rcases Nat.lt_or_ge i n with hin | hin
    ·subst hzi
     have k1 : (i : Int) < (n : Int) := by omega
     have k0 : (0 : Int) ≤ (i : Int) := Int.natCast_nonneg _
     have hil : i < qs.length := by have := hlq.out; omega
     obtain ⟨a, ha⟩ : ∃ a, a = qs[i]'hil := ⟨_, rfl⟩
     have hcell := fun W (hb : Below wr.heap.size wr W) => (kA.below hb).cell i hil
     rw [← ha] at hcell
     replace hcell := Lib.hid hcell
     have htk : qs.take (i + 1) = qs.take i ++ [a] := by rw [List.take_succ_eq_append_getElem hil, ha]
     have C1 := Lib.hid (HC1.out i hil)
     have C2 := Lib.hid (HC2.out i hil)
     rw [← ha] at C1 C2
     have hma := m2.out a (by rw [ha]; exact List.getElem_mem hil)
     have hmb := m4.out a (by rw [ha]; exact List.getElem_mem hil)
     have d1 : decide (0 < cmpQ a mx) = false := decide_eq_false (by unfold cmpQ; split <;> (try split) <;> first | omega | grind)
     have d2 : decide (cmpQ a mn < 0) = false := decide_eq_false (by unfold cmpQ; split <;> (try split) <;> first | omega | grind)
     generalize cmpQ a mx = c1 at *
     generalize cmpQ a mn = c2 at *
     obtain ⟨y1, hy1⟩ : ∃ y1, y1 = decide (a = mx) := ⟨_, rfl⟩
     obtain ⟨y2, hy2⟩ : ∃ y2, y2 = decide (a = mn) := ⟨_, rfl⟩
     have hr1 : (o1 || y1) = decide (mx ∈ qs.take (i + 1)) := by rw [ho1, hy1, htk, Bool.eq_iff_iff]; simp only [Bool.or_eq_true, decide_eq_true_eq, List.mem_append, List.mem_singleton]; exact or_congr Iff.rfl eq_comm
     have hr2 : (o2 || y2) = decide (mn ∈ qs.take (i + 1)) := by rw [ho2, hy2, htk, Bool.eq_iff_iff]; simp only [Bool.or_eq_true, decide_eq_true_eq, List.mem_append, List.mem_singleton]; exact or_congr Iff.rfl eq_comm
     replace kA := Lib.hid kA
     replace hr1 := Lib.hid hr1
     replace hr2 := Lib.hid hr2
     replace hy1 := Lib.hid hy1
     replace hy2 := Lib.hid hy2
     clear ho1 ho2 htk ha hma hmb
     have hS : SS wr [] := SS.nil wr
     have hW := Below.refl wr.heap.size wr
     replace hW := Lib.hid hW
     cases o1 with
     | true =>
      cases o2 with
      | true =>
       have hN0 := cells_of _ 0 [] rfl (hL0.get _ _ (List.mem_cons_of_mem _ List.mem_cons_self))
       simp only [cellsF, and_true, Nat.zero_add, Nat.reduceAdd] at hN0
       go_upto_region 24 with fail
       clear hN0
       obtain ⟨α, iα, F, hF1, hF2⟩ := cls wr
       have hq0 := cls_box hF1 hL0 _ _ (List.mem_cons_of_mem _ List.mem_cons_self)
       simp only [cellsC, and_true, Nat.zero_add, Nat.reduceAdd] at hq0
       have hf := fun x => hcell.out (F x) (hW.out.trans ((hF1 x).mono hW.out.size))
       have f0 := fun x => (hf x).1
       have f1 := fun x => (hf x).2.1
       have f2 := fun x => (hf x).2.2.1
       have f3 := fun x => (hf x).2.2.2.1
       have f4 := fun x => (hf x).2.2.2.2
       clear hf
       refine region_cls (F := F) (by kernel_rfl) (lexB_of_fast (by kernel_rfl)) (cls_drew hF2) ?_
       repeat (go_big_quiet_step (fail))
       refine wpQuiet_nil ?_
       rintro wq ⟨xq, rfl⟩
       replace hW := Lib.hid (hW.out.trans ((hF1 xq).mono hW.out.size))
       replace hL0 := hL0.call (hF1 xq)
       replace hS := hS.call (hF1 xq)
       clear hq0 f0 f1 f2 f3 f4 hF2
       generalize F xq = x15 at hL0 hS hW ⊢
       clear hF1 xq iα F α
       have hN0 := cells_of _ 0 [] rfl (hL0.get _ _ List.mem_cons_self)
       simp only [cellsF, and_true, Nat.zero_add, Nat.reduceAdd] at hN0
       go_upto_region 25 with fail
       clear hN0
       obtain ⟨α, iα, F, hF1, hF2⟩ := cls x15
       have hq0 := cls_box hF1 hL0 _ _ List.mem_cons_self
       simp only [cellsC, and_true, Nat.zero_add, Nat.reduceAdd] at hq0
       have hf := fun x => hcell.out (F x) (hW.out.trans ((hF1 x).mono hW.out.size))
       have f0 := fun x => (hf x).1
       have f1 := fun x => (hf x).2.1
       have f2 := fun x => (hf x).2.2.1
       have f3 := fun x => (hf x).2.2.2.1
       have f4 := fun x => (hf x).2.2.2.2
       clear hf
       refine region_cls (F := F) (by kernel_rfl) (lexB_of_fast (by kernel_rfl)) (cls_drew hF2) ?_
       repeat (go_big_quiet_step (fail))
       refine wpQuiet_nil ?_
       rintro wq ⟨xq, rfl⟩
       replace hW := Lib.hid (hW.out.trans ((hF1 xq).mono hW.out.size))
       replace hL0 := hL0.call (hF1 xq)
       replace hS := hS.call (hF1 xq)
       clear hq0 f0 f1 f2 f3 f4 hF2
       generalize F xq = x16 at hL0 hS hW ⊢
       clear hF1 xq iα F α
       go_upto_region 26 with fail
       refine region_tl 16 [EV (.slice (some ⟨g, 0, none⟩) n cap), EV (.int .i64 (i : Int)), EV (.pointer (some ⟨g, i * 5, none⟩)), EV (fracV a), EV (fracV mx), EV (.int .i64 c1), EV (.bool false), EV (.bool false), EV (.slice (some ⟨g, 0, none⟩) n cap), EV (.int .i64 (i : Int)), EV (.pointer (some ⟨g, i * 5, none⟩)), EV (fracV a), EV (fracV mn), EV (.int .i64 c2), EV (.bool false), EV (.bool false)] (by kernel_rfl) (by kernel_rfl) ?_ ?_ ?_
       ·exact stays_cons (stays_eq _) (stays_cons (stays_eq _) (stays_cons (stays_eq _) (stays_cons (stays_eq _) (stays_cons (stays_eq _) (stays_cons (stays_eq _) (stays_cons (stays_eq _) (stays_cons (stays_eq _) (stays_cons (stays_eq _) (stays_cons (stays_eq _) (stays_cons (stays_eq _) (stays_cons (stays_eq _) (stays_cons (stays_eq _) (stays_cons (stays_eq _) (stays_cons (stays_eq _) (stays_cons (stays_eq _) (stays_nil))))))))))))))))
       ·simp only [List.take_succ_cons, List.take_zero, hopsR, and_true]
        refine ⟨?_, ?_, ?_, ?_, ?_, ?_, ?_, ?_, ?_, ?_, ?_, ?_, ?_, ?_, ?_, ?_⟩ <;> intro fv w1 hb1 hp
        all_goals (simp only [putsV, Act.put, List.setIfInBounds_toArray, List.set_cons_succ, List.set_cons_zero, Nat.zero_add, Nat.reduceAdd])
        ·refine tyAt_none rfl ?_
         simp [tyUpon, execOp, go_sem, Act.eval, k1, k0, (of_decide_eq_false d1), (of_decide_eq_false d2), Below.refl]
        ·refine tyAt_none rfl ?_
         simp [tyUpon, execOp, go_sem, Act.eval, k1, k0, (of_decide_eq_false d1), (of_decide_eq_false d2), Below.refl]
        ·have h0 : EV _ (fv 0) w1 := hp 0 (LC (by kernel_rfl))
         have h1 : EV _ (fv 1) w1 := hp 1 (LC (by kernel_rfl))
         refine tyAt_none rfl ?_
         simp [tyUpon, execOp, go_sem, Act.eval, h0, h1, k1, k0, (of_decide_eq_false d1), (of_decide_eq_false d2), Below.refl]
        ·have h2 : EV _ (fv 2) w1 := hp 2 (LC (by kernel_rfl))
         refine tyAt_none rfl ?_
         obtain ⟨f0, f1, f2, f3, f4⟩ := hcell.out w1 (hW.out.trans ((below_drew hb1).mono hW.out.size))
         have hc := (hL0.call (below_drew hb1)).fc
         simp only [fcG, cellsF, neK, and_true, ne_eq, Nat.zero_add, Nat.reduceAdd] at hc
         simp [tyUpon, execOp, go_sem, Act.eval, hc, h2, k1, k0, (of_decide_eq_false d1), (of_decide_eq_false d2), f0, f1, f2, f3, f4, Below.refl]
        ·refine tyAt_none rfl ?_
         have hc := (hL0.call (below_drew hb1)).fc
         simp only [fcG, cellsF, neK, and_true, ne_eq, Nat.zero_add, Nat.reduceAdd] at hc
         simp [tyUpon, execOp, go_sem, Act.eval, hc, k1, k0, (of_decide_eq_false d1), (of_decide_eq_false d2), Below.refl]
        ·have h3 : EV _ (fv 3) w1 := hp 3 (LC (by kernel_rfl))
         have h4 : EV _ (fv 4) w1 := hp 4 (LC (by kernel_rfl))
         refine tyAt_none rfl ?_
         refine ty_call (f := 73) (args := #[fracV a, fracV mx]) (by simp [execOp, go_sem, Act.eval, h3, h4]) ?_
         exact (C1.out w1).mono fun e w2 ⟨h1, h2⟩ => ⟨_, h1, rfl, h2⟩
        ·have h5 : EV _ (fv 5) w1 := hp 5 (LC (by kernel_rfl))
         refine tyAt_none rfl ?_
         simp [tyUpon, execOp, go_sem, Act.eval, h5, k1, k0, (of_decide_eq_false d1), (of_decide_eq_false d2), Below.refl]
        ·have h6 : EV _ (fv 6) w1 := hp 6 (LC (by kernel_rfl))
         refine tyAt_none rfl ?_
         simp [tyUpon, execOp, go_sem, Act.eval, h6, k1, k0, (of_decide_eq_false d1), (of_decide_eq_false d2), Below.refl]
        ·have h7 : EV _ (fv 7) w1 := hp 7 (LC (by kernel_rfl))
         refine tyAt_yes (by simp [Region.wanted, yielded, h7]) ?_
         simp [tyUpon, execOp, go_sem, Act.eval, h7, k1, k0, (of_decide_eq_false d1), (of_decide_eq_false d2), Below.refl]
        ·have h7 : EV _ (fv 7) w1 := hp 7 (LC (by kernel_rfl))
         refine tyAt_yes (by simp [Region.wanted, yielded, h7]) ?_
         simp [tyUpon, execOp, go_sem, Act.eval, h7, k1, k0, (of_decide_eq_false d1), (of_decide_eq_false d2), Below.refl]
        ·have h8 : EV _ (fv 8) w1 := hp 8 (LC (by kernel_rfl))
         have h9 : EV _ (fv 9) w1 := hp 9 (LC (by kernel_rfl))
         have h7 : EV _ (fv 7) w1 := hp 7 (LC (by kernel_rfl))
         refine tyAt_yes (by simp [Region.wanted, yielded, h8, h9, h7]) ?_
         simp [tyUpon, execOp, go_sem, Act.eval, h8, h9, h7, k1, k0, (of_decide_eq_false d1), (of_decide_eq_false d2), Below.refl]
        ·have h10 : EV _ (fv 10) w1 := hp 10 (LC (by kernel_rfl))
         have h7 : EV _ (fv 7) w1 := hp 7 (LC (by kernel_rfl))
         refine tyAt_yes (by simp [Region.wanted, yielded, h10, h7]) ?_
         obtain ⟨f0, f1, f2, f3, f4⟩ := hcell.out w1 (hW.out.trans ((below_drew hb1).mono hW.out.size))
         have hc := (hL0.call (below_drew hb1)).fc
         simp only [fcG, cellsF, neK, and_true, ne_eq, Nat.zero_add, Nat.reduceAdd] at hc
         simp [tyUpon, execOp, go_sem, Act.eval, hc, h10, h7, k1, k0, (of_decide_eq_false d1), (of_decide_eq_false d2), f0, f1, f2, f3, f4, Below.refl]
        ·have h7 : EV _ (fv 7) w1 := hp 7 (LC (by kernel_rfl))
         refine tyAt_yes (by simp [Region.wanted, yielded, h7]) ?_
         have hc := (hL0.call (below_drew hb1)).fc
         simp only [fcG, cellsF, neK, and_true, ne_eq, Nat.zero_add, Nat.reduceAdd] at hc
         simp [tyUpon, execOp, go_sem, Act.eval, hc, h7, k1, k0, (of_decide_eq_false d1), (of_decide_eq_false d2), Below.refl]
        ·have h11 : EV _ (fv 11) w1 := hp 11 (LC (by kernel_rfl))
         have h12 : EV _ (fv 12) w1 := hp 12 (LC (by kernel_rfl))
         have h7 : EV _ (fv 7) w1 := hp 7 (LC (by kernel_rfl))
         refine tyAt_yes (by simp [Region.wanted, yielded, h11, h12, h7]) ?_
         refine ty_call (f := 73) (args := #[fracV a, fracV mn]) (by simp [execOp, go_sem, Act.eval, h11, h12, h7]) ?_
         exact (C2.out w1).mono fun e w2 ⟨h1, h2⟩ => ⟨_, h1, rfl, h2⟩
        ·have h13 : EV _ (fv 13) w1 := hp 13 (LC (by kernel_rfl))
         have h7 : EV _ (fv 7) w1 := hp 7 (LC (by kernel_rfl))
         refine tyAt_yes (by simp [Region.wanted, yielded, h13, h7]) ?_
         simp [tyUpon, execOp, go_sem, Act.eval, h13, h7, k1, k0, (of_decide_eq_false d1), (of_decide_eq_false d2), Below.refl]
        ·have h7 : EV _ (fv 7) w1 := hp 7 (LC (by kernel_rfl))
         have h14 : EV _ (fv 14) w1 := hp 14 (LC (by kernel_rfl))
         refine tyAt_none rfl ?_
         simp [tyUpon, execOp, go_sem, Act.eval, h7, h14, k1, k0, (of_decide_eq_false d1), (of_decide_eq_false d2), Below.refl]
       ·intro fv x17 hb1 hv
        have e0 : fv 0 = _ := hv 0 (by omega)
        have e1 : fv 1 = _ := hv 1 (by omega)
        have e2 : fv 2 = _ := hv 2 (by omega)
        have e3 : fv 3 = _ := hv 3 (by omega)
        have e4 : fv 4 = _ := hv 4 (by omega)
        have e5 : fv 5 = _ := hv 5 (by omega)
        have e6 : fv 6 = _ := hv 6 (by omega)
        have e7 : fv 7 = _ := hv 7 (by omega)
        have e8 : fv 8 = _ := hv 8 (by omega)
        have e9 : fv 9 = _ := hv 9 (by omega)
        have e10 : fv 10 = _ := hv 10 (by omega)
        have e11 : fv 11 = _ := hv 11 (by omega)
        have e12 : fv 12 = _ := hv 12 (by omega)
        have e13 : fv 13 = _ := hv 13 (by omega)
        have e14 : fv 14 = _ := hv 14 (by omega)
        have e15 : fv 15 = _ := hv 15 (by omega)
        simp only [List.take_succ_cons, List.take_zero, putsV, Act.put, List.setIfInBounds_toArray, List.set_cons_succ, List.set_cons_zero, List.drop_succ_cons, List.drop_zero, Nat.zero_add, Nat.reduceAdd, e0, e1, e2, e3, e4, e5, e6, e7, e8, e9, e10, e11, e12, e13, e14, e15]
        replace hL0 := hL0.call (below_drew hb1)
        replace hS := hS.call (below_drew hb1)
        replace hW := Lib.hid (hW.out.trans ((below_drew hb1).mono hW.out.size))
        clear e0 e1 e2 e3 e4 e5 e6 e7 e8 e9 e10 e11 e12 e13 e14 e15 hb1 hv fv
        go_wp2_with fail
        go_roundw
        case rel => exact ⟨i + 1, _, _, _, by omega, by first | rfl | go_num, by omega, rfl, rfl, by simpa using hr1.out, by simpa using hr2.out, kA.out.below hW.out, hL0⟩
        case measure => simp [intOf] <;> omega
      | false =>
       have hN0 := cells_of _ 0 [] rfl (hL0.get _ _ (List.mem_cons_of_mem _ List.mem_cons_self))
       simp only [cellsF, and_true, Nat.zero_add, Nat.reduceAdd] at hN0
       go_upto_region 24 with fail
       clear hN0
       obtain ⟨α, iα, F, hF1, hF2⟩ := cls wr
       have hq0 := cls_box hF1 hL0 _ _ (List.mem_cons_of_mem _ List.mem_cons_self)
       simp only [cellsC, and_true, Nat.zero_add, Nat.reduceAdd] at hq0
       have hf := fun x => hcell.out (F x) (hW.out.trans ((hF1 x).mono hW.out.size))
       have f0 := fun x => (hf x).1
       have f1 := fun x => (hf x).2.1
       have f2 := fun x => (hf x).2.2.1
       have f3 := fun x => (hf x).2.2.2.1
       have f4 := fun x => (hf x).2.2.2.2
       clear hf
       refine region_cls (F := F) (by kernel_rfl) (lexB_of_fast (by kernel_rfl)) (cls_drew hF2) ?_
       repeat (go_big_quiet_step (fail))
       refine wpQuiet_nil ?_
       rintro wq ⟨xq, rfl⟩
       replace hW := Lib.hid (hW.out.trans ((hF1 xq).mono hW.out.size))
       replace hL0 := hL0.call (hF1 xq)
       replace hS := hS.call (hF1 xq)
       clear hq0 f0 f1 f2 f3 f4 hF2
       generalize F xq = x18 at hL0 hS hW ⊢
       clear hF1 xq iα F α
       have hN0 := cells_of _ 0 [] rfl (hL0.get _ _ List.mem_cons_self)
       simp only [cellsF, and_true, Nat.zero_add, Nat.reduceAdd] at hN0
       go_upto_region 25 with fail
       clear hN0
       obtain ⟨α, iα, F, hF1, hF2⟩ := cls x18
       have hq0 := cls_box hF1 hL0 _ _ List.mem_cons_self
       simp only [cellsC, and_true, Nat.zero_add, Nat.reduceAdd] at hq0
       have hf := fun x => hcell.out (F x) (hW.out.trans ((hF1 x).mono hW.out.size))
       have f0 := fun x => (hf x).1
       have f1 := fun x => (hf x).2.1
       have f2 := fun x => (hf x).2.2.1
       have f3 := fun x => (hf x).2.2.2.1
       have f4 := fun x => (hf x).2.2.2.2
       clear hf
       refine region_cls (F := F) (by kernel_rfl) (lexB_of_fast (by kernel_rfl)) (cls_drew hF2) ?_
       repeat (go_big_quiet_step (fail))
       go_big_quiet_want
       refine ⟨.bool y2, ?_, ?_⟩
       ·rintro w' ⟨x, rfl⟩
        rcases same_fr hy2.out with hz | hz | hz | hz | hz | hz <;> simp [Oper.quietAt, Oper.quietUpon, execOp, go_sem, Act.eval, hz]
       simp only [Act.put, List.setIfInBounds_toArray, List.set_cons_succ, List.set_cons_zero]
       go_big_quiet_on
       repeat (go_big_quiet_step (fail))
       refine wpQuiet_nil ?_
       rintro wq ⟨xq, rfl⟩
       replace hW := Lib.hid (hW.out.trans ((hF1 xq).mono hW.out.size))
       replace hL0 := hL0.call (hF1 xq)
       replace hS := hS.call (hF1 xq)
       clear hq0 f0 f1 f2 f3 f4 hF2
       generalize F xq = x19 at hL0 hS hW ⊢
       clear hF1 xq iα F α
       go_upto_region 26 with fail
       refine region_tl 16 [EV (.slice (some ⟨g, 0, none⟩) n cap), EV (.int .i64 (i : Int)), EV (.pointer (some ⟨g, i * 5, none⟩)), EV (fracV a), EV (fracV mx), EV (.int .i64 c1), EV (.bool false), EV (.bool false), EV (.slice (some ⟨g, 0, none⟩) n cap), EV (.int .i64 (i : Int)), EV (.pointer (some ⟨g, i * 5, none⟩)), EV (fracV a), EV (fracV mn), EV (.int .i64 c2), EV (.bool false), EV (.bool false)] (by kernel_rfl) (by kernel_rfl) ?_ ?_ ?_
       ·exact stays_cons (stays_eq _) (stays_cons (stays_eq _) (stays_cons (stays_eq _) (stays_cons (stays_eq _) (stays_cons (stays_eq _) (stays_cons (stays_eq _) (stays_cons (stays_eq _) (stays_cons (stays_eq _) (stays_cons (stays_eq _) (stays_cons (stays_eq _) (stays_cons (stays_eq _) (stays_cons (stays_eq _) (stays_cons (stays_eq _) (stays_cons (stays_eq _) (stays_cons (stays_eq _) (stays_cons (stays_eq _) (stays_nil))))))))))))))))
       ·simp only [List.take_succ_cons, List.take_zero, hopsR, and_true]
        refine ⟨?_, ?_, ?_, ?_, ?_, ?_, ?_, ?_, ?_, ?_, ?_, ?_, ?_, ?_, ?_, ?_⟩ <;> intro fv w1 hb1 hp
        all_goals (simp only [putsV, Act.put, List.setIfInBounds_toArray, List.set_cons_succ, List.set_cons_zero, Nat.zero_add, Nat.reduceAdd])
        ·refine tyAt_none rfl ?_
         simp [tyUpon, execOp, go_sem, Act.eval, k1, k0, (of_decide_eq_false d1), (of_decide_eq_false d2), Below.refl]
        ·refine tyAt_none rfl ?_
         simp [tyUpon, execOp, go_sem, Act.eval, k1, k0, (of_decide_eq_false d1), (of_decide_eq_false d2), Below.refl]
        ·have h0 : EV _ (fv 0) w1 := hp 0 (LC (by kernel_rfl))
         have h1 : EV _ (fv 1) w1 := hp 1 (LC (by kernel_rfl))
         refine tyAt_none rfl ?_
         simp [tyUpon, execOp, go_sem, Act.eval, h0, h1, k1, k0, (of_decide_eq_false d1), (of_decide_eq_false d2), Below.refl]
        ·have h2 : EV _ (fv 2) w1 := hp 2 (LC (by kernel_rfl))
         refine tyAt_none rfl ?_
         obtain ⟨f0, f1, f2, f3, f4⟩ := hcell.out w1 (hW.out.trans ((below_drew hb1).mono hW.out.size))
         have hc := (hL0.call (below_drew hb1)).fc
         simp only [fcG, cellsF, neK, and_true, ne_eq, Nat.zero_add, Nat.reduceAdd] at hc
         simp [tyUpon, execOp, go_sem, Act.eval, hc, h2, k1, k0, (of_decide_eq_false d1), (of_decide_eq_false d2), f0, f1, f2, f3, f4, Below.refl]
        ·refine tyAt_none rfl ?_
         have hc := (hL0.call (below_drew hb1)).fc
         simp only [fcG, cellsF, neK, and_true, ne_eq, Nat.zero_add, Nat.reduceAdd] at hc
         simp [tyUpon, execOp, go_sem, Act.eval, hc, k1, k0, (of_decide_eq_false d1), (of_decide_eq_false d2), Below.refl]
        ·have h3 : EV _ (fv 3) w1 := hp 3 (LC (by kernel_rfl))
         have h4 : EV _ (fv 4) w1 := hp 4 (LC (by kernel_rfl))
         refine tyAt_none rfl ?_
         refine ty_call (f := 73) (args := #[fracV a, fracV mx]) (by simp [execOp, go_sem, Act.eval, h3, h4]) ?_
         exact (C1.out w1).mono fun e w2 ⟨h1, h2⟩ => ⟨_, h1, rfl, h2⟩
        ·have h5 : EV _ (fv 5) w1 := hp 5 (LC (by kernel_rfl))
         refine tyAt_none rfl ?_
         simp [tyUpon, execOp, go_sem, Act.eval, h5, k1, k0, (of_decide_eq_false d1), (of_decide_eq_false d2), Below.refl]
        ·have h6 : EV _ (fv 6) w1 := hp 6 (LC (by kernel_rfl))
         refine tyAt_none rfl ?_
         simp [tyUpon, execOp, go_sem, Act.eval, h6, k1, k0, (of_decide_eq_false d1), (of_decide_eq_false d2), Below.refl]
        ·have h7 : EV _ (fv 7) w1 := hp 7 (LC (by kernel_rfl))
         refine tyAt_yes (by simp [Region.wanted, yielded, h7]) ?_
         simp [tyUpon, execOp, go_sem, Act.eval, h7, k1, k0, (of_decide_eq_false d1), (of_decide_eq_false d2), Below.refl]
        ·have h7 : EV _ (fv 7) w1 := hp 7 (LC (by kernel_rfl))
         refine tyAt_yes (by simp [Region.wanted, yielded, h7]) ?_
         simp [tyUpon, execOp, go_sem, Act.eval, h7, k1, k0, (of_decide_eq_false d1), (of_decide_eq_false d2), Below.refl]
        ·have h8 : EV _ (fv 8) w1 := hp 8 (LC (by kernel_rfl))
         have h9 : EV _ (fv 9) w1 := hp 9 (LC (by kernel_rfl))
         have h7 : EV _ (fv 7) w1 := hp 7 (LC (by kernel_rfl))
         refine tyAt_yes (by simp [Region.wanted, yielded, h8, h9, h7]) ?_
         simp [tyUpon, execOp, go_sem, Act.eval, h8, h9, h7, k1, k0, (of_decide_eq_false d1), (of_decide_eq_false d2), Below.refl]
        ·have h10 : EV _ (fv 10) w1 := hp 10 (LC (by kernel_rfl))
         have h7 : EV _ (fv 7) w1 := hp 7 (LC (by kernel_rfl))
         refine tyAt_yes (by simp [Region.wanted, yielded, h10, h7]) ?_
         obtain ⟨f0, f1, f2, f3, f4⟩ := hcell.out w1 (hW.out.trans ((below_drew hb1).mono hW.out.size))
         have hc := (hL0.call (below_drew hb1)).fc
         simp only [fcG, cellsF, neK, and_true, ne_eq, Nat.zero_add, Nat.reduceAdd] at hc
         simp [tyUpon, execOp, go_sem, Act.eval, hc, h10, h7, k1, k0, (of_decide_eq_false d1), (of_decide_eq_false d2), f0, f1, f2, f3, f4, Below.refl]
        ·have h7 : EV _ (fv 7) w1 := hp 7 (LC (by kernel_rfl))
         refine tyAt_yes (by simp [Region.wanted, yielded, h7]) ?_
         have hc := (hL0.call (below_drew hb1)).fc
         simp only [fcG, cellsF, neK, and_true, ne_eq, Nat.zero_add, Nat.reduceAdd] at hc
         simp [tyUpon, execOp, go_sem, Act.eval, hc, h7, k1, k0, (of_decide_eq_false d1), (of_decide_eq_false d2), Below.refl]
        ·have h11 : EV _ (fv 11) w1 := hp 11 (LC (by kernel_rfl))
         have h12 : EV _ (fv 12) w1 := hp 12 (LC (by kernel_rfl))
         have h7 : EV _ (fv 7) w1 := hp 7 (LC (by kernel_rfl))
         refine tyAt_yes (by simp [Region.wanted, yielded, h11, h12, h7]) ?_
         refine ty_call (f := 73) (args := #[fracV a, fracV mn]) (by simp [execOp, go_sem, Act.eval, h11, h12, h7]) ?_
         exact (C2.out w1).mono fun e w2 ⟨h1, h2⟩ => ⟨_, h1, rfl, h2⟩
        ·have h13 : EV _ (fv 13) w1 := hp 13 (LC (by kernel_rfl))
         have h7 : EV _ (fv 7) w1 := hp 7 (LC (by kernel_rfl))
         refine tyAt_yes (by simp [Region.wanted, yielded, h13, h7]) ?_
         simp [tyUpon, execOp, go_sem, Act.eval, h13, h7, k1, k0, (of_decide_eq_false d1), (of_decide_eq_false d2), Below.refl]
        ·have h7 : EV _ (fv 7) w1 := hp 7 (LC (by kernel_rfl))
         have h14 : EV _ (fv 14) w1 := hp 14 (LC (by kernel_rfl))
         refine tyAt_none rfl ?_
         simp [tyUpon, execOp, go_sem, Act.eval, h7, h14, k1, k0, (of_decide_eq_false d1), (of_decide_eq_false d2), Below.refl]
       ·intro fv x20 hb1 hv
        have e0 : fv 0 = _ := hv 0 (by omega)
        have e1 : fv 1 = _ := hv 1 (by omega)
        have e2 : fv 2 = _ := hv 2 (by omega)
        have e3 : fv 3 = _ := hv 3 (by omega)
        have e4 : fv 4 = _ := hv 4 (by omega)
        have e5 : fv 5 = _ := hv 5 (by omega)
        have e6 : fv 6 = _ := hv 6 (by omega)
        have e7 : fv 7 = _ := hv 7 (by omega)
        have e8 : fv 8 = _ := hv 8 (by omega)
        have e9 : fv 9 = _ := hv 9 (by omega)
        have e10 : fv 10 = _ := hv 10 (by omega)
        have e11 : fv 11 = _ := hv 11 (by omega)
        have e12 : fv 12 = _ := hv 12 (by omega)
        have e13 : fv 13 = _ := hv 13 (by omega)
        have e14 : fv 14 = _ := hv 14 (by omega)
        have e15 : fv 15 = _ := hv 15 (by omega)
        simp only [List.take_succ_cons, List.take_zero, putsV, Act.put, List.setIfInBounds_toArray, List.set_cons_succ, List.set_cons_zero, List.drop_succ_cons, List.drop_zero, Nat.zero_add, Nat.reduceAdd, e0, e1, e2, e3, e4, e5, e6, e7, e8, e9, e10, e11, e12, e13, e14, e15]
        replace hL0 := hL0.call (below_drew hb1)
        replace hS := hS.call (below_drew hb1)
        replace hW := Lib.hid (hW.out.trans ((below_drew hb1).mono hW.out.size))
        clear e0 e1 e2 e3 e4 e5 e6 e7 e8 e9 e10 e11 e12 e13 e14 e15 hb1 hv fv
        go_wp2_with fail
        go_roundw
        case rel => exact ⟨i + 1, _, _, _, by omega, by first | rfl | go_num, by omega, rfl, rfl, by simpa using hr1.out, by simpa using hr2.out, kA.out.below hW.out, hL0⟩
        case measure => simp [intOf] <;> omega
     | false =>
      cases o2 with
      | true =>
       have hN0 := cells_of _ 0 [] rfl (hL0.get _ _ (List.mem_cons_of_mem _ List.mem_cons_self))
       simp only [cellsF, and_true, Nat.zero_add, Nat.reduceAdd] at hN0
       go_upto_region 24 with fail
       clear hN0
       obtain ⟨α, iα, F, hF1, hF2⟩ := cls wr
       have hq0 := cls_box hF1 hL0 _ _ (List.mem_cons_of_mem _ List.mem_cons_self)
       simp only [cellsC, and_true, Nat.zero_add, Nat.reduceAdd] at hq0
       have hf := fun x => hcell.out (F x) (hW.out.trans ((hF1 x).mono hW.out.size))
       have f0 := fun x => (hf x).1
       have f1 := fun x => (hf x).2.1
       have f2 := fun x => (hf x).2.2.1
       have f3 := fun x => (hf x).2.2.2.1
       have f4 := fun x => (hf x).2.2.2.2
       clear hf
       refine region_cls (F := F) (by kernel_rfl) (lexB_of_fast (by kernel_rfl)) (cls_drew hF2) ?_
       repeat (go_big_quiet_step (fail))
       go_big_quiet_want
       refine ⟨.bool y1, ?_, ?_⟩
       ·rintro w' ⟨x, rfl⟩
        rcases same_fr hy1.out with hz | hz | hz | hz | hz | hz <;> simp [Oper.quietAt, Oper.quietUpon, execOp, go_sem, Act.eval, hz]
       simp only [Act.put, List.setIfInBounds_toArray, List.set_cons_succ, List.set_cons_zero]
       go_big_quiet_on
       repeat (go_big_quiet_step (fail))
       refine wpQuiet_nil ?_
       rintro wq ⟨xq, rfl⟩
       replace hW := Lib.hid (hW.out.trans ((hF1 xq).mono hW.out.size))
       replace hL0 := hL0.call (hF1 xq)
       replace hS := hS.call (hF1 xq)
       clear hq0 f0 f1 f2 f3 f4 hF2
       generalize F xq = x21 at hL0 hS hW ⊢
       clear hF1 xq iα F α
       have hN0 := cells_of _ 0 [] rfl (hL0.get _ _ List.mem_cons_self)
       simp only [cellsF, and_true, Nat.zero_add, Nat.reduceAdd] at hN0
       go_upto_region 25 with fail
       clear hN0
       obtain ⟨α, iα, F, hF1, hF2⟩ := cls x21
       have hq0 := cls_box hF1 hL0 _ _ List.mem_cons_self
       simp only [cellsC, and_true, Nat.zero_add, Nat.reduceAdd] at hq0
       have hf := fun x => hcell.out (F x) (hW.out.trans ((hF1 x).mono hW.out.size))
       have f0 := fun x => (hf x).1
       have f1 := fun x => (hf x).2.1
       have f2 := fun x => (hf x).2.2.1
       have f3 := fun x => (hf x).2.2.2.1
       have f4 := fun x => (hf x).2.2.2.2
       clear hf
       refine region_cls (F := F) (by kernel_rfl) (lexB_of_fast (by kernel_rfl)) (cls_drew hF2) ?_
       repeat (go_big_quiet_step (fail))
       refine wpQuiet_nil ?_
       rintro wq ⟨xq, rfl⟩
       replace hW := Lib.hid (hW.out.trans ((hF1 xq).mono hW.out.size))
       replace hL0 := hL0.call (hF1 xq)
       replace hS := hS.call (hF1 xq)
       clear hq0 f0 f1 f2 f3 f4 hF2
       generalize F xq = x22 at hL0 hS hW ⊢
       clear hF1 xq iα F α
       go_upto_region 26 with fail
       refine region_tl 16 [EV (.slice (some ⟨g, 0, none⟩) n cap), EV (.int .i64 (i : Int)), EV (.pointer (some ⟨g, i * 5, none⟩)), EV (fracV a), EV (fracV mx), EV (.int .i64 c1), EV (.bool false), EV (.bool false), EV (.slice (some ⟨g, 0, none⟩) n cap), EV (.int .i64 (i : Int)), EV (.pointer (some ⟨g, i * 5, none⟩)), EV (fracV a), EV (fracV mn), EV (.int .i64 c2), EV (.bool false), EV (.bool false)] (by kernel_rfl) (by kernel_rfl) ?_ ?_ ?_
       ·exact stays_cons (stays_eq _) (stays_cons (stays_eq _) (stays_cons (stays_eq _) (stays_cons (stays_eq _) (stays_cons (stays_eq _) (stays_cons (stays_eq _) (stays_cons (stays_eq _) (stays_cons (stays_eq _) (stays_cons (stays_eq _) (stays_cons (stays_eq _) (stays_cons (stays_eq _) (stays_cons (stays_eq _) (stays_cons (stays_eq _) (stays_cons (stays_eq _) (stays_cons (stays_eq _) (stays_cons (stays_eq _) (stays_nil))))))))))))))))
       ·simp only [List.take_succ_cons, List.take_zero, hopsR, and_true]
        refine ⟨?_, ?_, ?_, ?_, ?_, ?_, ?_, ?_, ?_, ?_, ?_, ?_, ?_, ?_, ?_, ?_⟩ <;> intro fv w1 hb1 hp
        all_goals (simp only [putsV, Act.put, List.setIfInBounds_toArray, List.set_cons_succ, List.set_cons_zero, Nat.zero_add, Nat.reduceAdd])
        ·refine tyAt_none rfl ?_
         simp [tyUpon, execOp, go_sem, Act.eval, k1, k0, (of_decide_eq_false d1), (of_decide_eq_false d2), Below.refl]
        ·refine tyAt_none rfl ?_
         simp [tyUpon, execOp, go_sem, Act.eval, k1, k0, (of_decide_eq_false d1), (of_decide_eq_false d2), Below.refl]
        ·have h0 : EV _ (fv 0) w1 := hp 0 (LC (by kernel_rfl))
         have h1 : EV _ (fv 1) w1 := hp 1 (LC (by kernel_rfl))
         refine tyAt_none rfl ?_
         simp [tyUpon, execOp, go_sem, Act.eval, h0, h1, k1, k0, (of_decide_eq_false d1), (of_decide_eq_false d2), Below.refl]
        ·have h2 : EV _ (fv 2) w1 := hp 2 (LC (by kernel_rfl))
         refine tyAt_none rfl ?_
         obtain ⟨f0, f1, f2, f3, f4⟩ := hcell.out w1 (hW.out.trans ((below_drew hb1).mono hW.out.size))
         have hc := (hL0.call (below_drew hb1)).fc
         simp only [fcG, cellsF, neK, and_true, ne_eq, Nat.zero_add, Nat.reduceAdd] at hc
         simp [tyUpon, execOp, go_sem, Act.eval, hc, h2, k1, k0, (of_decide_eq_false d1), (of_decide_eq_false d2), f0, f1, f2, f3, f4, Below.refl]
        ·refine tyAt_none rfl ?_
         have hc := (hL0.call (below_drew hb1)).fc
         simp only [fcG, cellsF, neK, and_true, ne_eq, Nat.zero_add, Nat.reduceAdd] at hc
         simp [tyUpon, execOp, go_sem, Act.eval, hc, k1, k0, (of_decide_eq_false d1), (of_decide_eq_false d2), Below.refl]
        ·have h3 : EV _ (fv 3) w1 := hp 3 (LC (by kernel_rfl))
         have h4 : EV _ (fv 4) w1 := hp 4 (LC (by kernel_rfl))
         refine tyAt_none rfl ?_
         refine ty_call (f := 73) (args := #[fracV a, fracV mx]) (by simp [execOp, go_sem, Act.eval, h3, h4]) ?_
         exact (C1.out w1).mono fun e w2 ⟨h1, h2⟩ => ⟨_, h1, rfl, h2⟩
        ·have h5 : EV _ (fv 5) w1 := hp 5 (LC (by kernel_rfl))
         refine tyAt_none rfl ?_
         simp [tyUpon, execOp, go_sem, Act.eval, h5, k1, k0, (of_decide_eq_false d1), (of_decide_eq_false d2), Below.refl]
        ·have h6 : EV _ (fv 6) w1 := hp 6 (LC (by kernel_rfl))
         refine tyAt_none rfl ?_
         simp [tyUpon, execOp, go_sem, Act.eval, h6, k1, k0, (of_decide_eq_false d1), (of_decide_eq_false d2), Below.refl]
        ·have h7 : EV _ (fv 7) w1 := hp 7 (LC (by kernel_rfl))
         refine tyAt_yes (by simp [Region.wanted, yielded, h7]) ?_
         simp [tyUpon, execOp, go_sem, Act.eval, h7, k1, k0, (of_decide_eq_false d1), (of_decide_eq_false d2), Below.refl]
        ·have h7 : EV _ (fv 7) w1 := hp 7 (LC (by kernel_rfl))
         refine tyAt_yes (by simp [Region.wanted, yielded, h7]) ?_
         simp [tyUpon, execOp, go_sem, Act.eval, h7, k1, k0, (of_decide_eq_false d1), (of_decide_eq_false d2), Below.refl]
        ·have h8 : EV _ (fv 8) w1 := hp 8 (LC (by kernel_rfl))
         have h9 : EV _ (fv 9) w1 := hp 9 (LC (by kernel_rfl))
         have h7 : EV _ (fv 7) w1 := hp 7 (LC (by kernel_rfl))
         refine tyAt_yes (by simp [Region.wanted, yielded, h8, h9, h7]) ?_
         simp [tyUpon, execOp, go_sem, Act.eval, h8, h9, h7, k1, k0, (of_decide_eq_false d1), (of_decide_eq_false d2), Below.refl]
        ·have h10 : EV _ (fv 10) w1 := hp 10 (LC (by kernel_rfl))
         have h7 : EV _ (fv 7) w1 := hp 7 (LC (by kernel_rfl))
         refine tyAt_yes (by simp [Region.wanted, yielded, h10, h7]) ?_
         obtain ⟨f0, f1, f2, f3, f4⟩ := hcell.out w1 (hW.out.trans ((below_drew hb1).mono hW.out.size))
         have hc := (hL0.call (below_drew hb1)).fc
         simp only [fcG, cellsF, neK, and_true, ne_eq, Nat.zero_add, Nat.reduceAdd] at hc
         simp [tyUpon, execOp, go_sem, Act.eval, hc, h10, h7, k1, k0, (of_decide_eq_false d1), (of_decide_eq_false d2), f0, f1, f2, f3, f4, Below.refl]
        ·have h7 : EV _ (fv 7) w1 := hp 7 (LC (by kernel_rfl))
         refine tyAt_yes (by simp [Region.wanted, yielded, h7]) ?_
         have hc := (hL0.call (below_drew hb1)).fc
         simp only [fcG, cellsF, neK, and_true, ne_eq, Nat.zero_add, Nat.reduceAdd] at hc
         simp [tyUpon, execOp, go_sem, Act.eval, hc, h7, k1, k0, (of_decide_eq_false d1), (of_decide_eq_false d2), Below.refl]
        ·have h11 : EV _ (fv 11) w1 := hp 11 (LC (by kernel_rfl))
         have h12 : EV _ (fv 12) w1 := hp 12 (LC (by kernel_rfl))
         have h7 : EV _ (fv 7) w1 := hp 7 (LC (by kernel_rfl))
         refine tyAt_yes (by simp [Region.wanted, yielded, h11, h12, h7]) ?_
         refine ty_call (f := 73) (args := #[fracV a, fracV mn]) (by simp [execOp, go_sem, Act.eval, h11, h12, h7]) ?_
         exact (C2.out w1).mono fun e w2 ⟨h1, h2⟩ => ⟨_, h1, rfl, h2⟩
        ·have h13 : EV _ (fv 13) w1 := hp 13 (LC (by kernel_rfl))
         have h7 : EV _ (fv 7) w1 := hp 7 (LC (by kernel_rfl))
         refine tyAt_yes (by simp [Region.wanted, yielded, h13, h7]) ?_
         simp [tyUpon, execOp, go_sem, Act.eval, h13, h7, k1, k0, (of_decide_eq_false d1), (of_decide_eq_false d2), Below.refl]
        ·have h7 : EV _ (fv 7) w1 := hp 7 (LC (by kernel_rfl))
         have h14 : EV _ (fv 14) w1 := hp 14 (LC (by kernel_rfl))
         refine tyAt_none rfl ?_
         simp [tyUpon, execOp, go_sem, Act.eval, h7, h14, k1, k0, (of_decide_eq_false d1), (of_decide_eq_false d2), Below.refl]
       ·intro fv x23 hb1 hv
        have e0 : fv 0 = _ := hv 0 (by omega)
        have e1 : fv 1 = _ := hv 1 (by omega)
        have e2 : fv 2 = _ := hv 2 (by omega)
        have e3 : fv 3 = _ := hv 3 (by omega)
        have e4 : fv 4 = _ := hv 4 (by omega)
        have e5 : fv 5 = _ := hv 5 (by omega)
        have e6 : fv 6 = _ := hv 6 (by omega)
        have e7 : fv 7 = _ := hv 7 (by omega)
        have e8 : fv 8 = _ := hv 8 (by omega)
        have e9 : fv 9 = _ := hv 9 (by omega)
        have e10 : fv 10 = _ := hv 10 (by omega)
        have e11 : fv 11 = _ := hv 11 (by omega)
        have e12 : fv 12 = _ := hv 12 (by omega)
        have e13 : fv 13 = _ := hv 13 (by omega)
        have e14 : fv 14 = _ := hv 14 (by omega)
        have e15 : fv 15 = _ := hv 15 (by omega)
        simp only [List.take_succ_cons, List.take_zero, putsV, Act.put, List.setIfInBounds_toArray, List.set_cons_succ, List.set_cons_zero, List.drop_succ_cons, List.drop_zero, Nat.zero_add, Nat.reduceAdd, e0, e1, e2, e3, e4, e5, e6, e7, e8, e9, e10, e11, e12, e13, e14, e15]
        replace hL0 := hL0.call (below_drew hb1)
        replace hS := hS.call (below_drew hb1)
        replace hW := Lib.hid (hW.out.trans ((below_drew hb1).mono hW.out.size))
        clear e0 e1 e2 e3 e4 e5 e6 e7 e8 e9 e10 e11 e12 e13 e14 e15 hb1 hv fv
        go_wp2_with fail
        go_roundw
        case rel => exact ⟨i + 1, _, _, _, by omega, by first | rfl | go_num, by omega, rfl, rfl, by simpa using hr1.out, by simpa using hr2.out, kA.out.below hW.out, hL0⟩
        case measure => simp [intOf] <;> omega
      | false =>
       have hN0 := cells_of _ 0 [] rfl (hL0.get _ _ (List.mem_cons_of_mem _ List.mem_cons_self))
       simp only [cellsF, and_true, Nat.zero_add, Nat.reduceAdd] at hN0
       go_upto_region 24 with fail
       clear hN0
       obtain ⟨α, iα, F, hF1, hF2⟩ := cls wr
       have hq0 := cls_box hF1 hL0 _ _ (List.mem_cons_of_mem _ List.mem_cons_self)
       simp only [cellsC, and_true, Nat.zero_add, Nat.reduceAdd] at hq0
       have hf := fun x => hcell.out (F x) (hW.out.trans ((hF1 x).mono hW.out.size))
       have f0 := fun x => (hf x).1
       have f1 := fun x => (hf x).2.1
       have f2 := fun x => (hf x).2.2.1
       have f3 := fun x => (hf x).2.2.2.1
       have f4 := fun x => (hf x).2.2.2.2
       clear hf
       refine region_cls (F := F) (by kernel_rfl) (lexB_of_fast (by kernel_rfl)) (cls_drew hF2) ?_
       repeat (go_big_quiet_step (fail))
       go_big_quiet_want
       refine ⟨.bool y1, ?_, ?_⟩
       ·rintro w' ⟨x, rfl⟩
        rcases same_fr hy1.out with hz | hz | hz | hz | hz | hz <;> simp [Oper.quietAt, Oper.quietUpon, execOp, go_sem, Act.eval, hz]
       simp only [Act.put, List.setIfInBounds_toArray, List.set_cons_succ, List.set_cons_zero]
       go_big_quiet_on
       repeat (go_big_quiet_step (fail))
       refine wpQuiet_nil ?_
       rintro wq ⟨xq, rfl⟩
       replace hW := Lib.hid (hW.out.trans ((hF1 xq).mono hW.out.size))
       replace hL0 := hL0.call (hF1 xq)
       replace hS := hS.call (hF1 xq)
       clear hq0 f0 f1 f2 f3 f4 hF2
       generalize F xq = x24 at hL0 hS hW ⊢
       clear hF1 xq iα F α
       have hN0 := cells_of _ 0 [] rfl (hL0.get _ _ List.mem_cons_self)
       simp only [cellsF, and_true, Nat.zero_add, Nat.reduceAdd] at hN0
       go_upto_region 25 with fail
       clear hN0
       obtain ⟨α, iα, F, hF1, hF2⟩ := cls x24
       have hq0 := cls_box hF1 hL0 _ _ List.mem_cons_self
       simp only [cellsC, and_true, Nat.zero_add, Nat.reduceAdd] at hq0
       have hf := fun x => hcell.out (F x) (hW.out.trans ((hF1 x).mono hW.out.size))
       have f0 := fun x => (hf x).1
       have f1 := fun x => (hf x).2.1
       have f2 := fun x => (hf x).2.2.1
       have f3 := fun x => (hf x).2.2.2.1
       have f4 := fun x => (hf x).2.2.2.2
       clear hf
       refine region_cls (F := F) (by kernel_rfl) (lexB_of_fast (by kernel_rfl)) (cls_drew hF2) ?_
       repeat (go_big_quiet_step (fail))
       go_big_quiet_want
       refine ⟨.bool y2, ?_, ?_⟩
       ·rintro w' ⟨x, rfl⟩
        rcases same_fr hy2.out with hz | hz | hz | hz | hz | hz <;> simp [Oper.quietAt, Oper.quietUpon, execOp, go_sem, Act.eval, hz]
       simp only [Act.put, List.setIfInBounds_toArray, List.set_cons_succ, List.set_cons_zero]
       go_big_quiet_on
       repeat (go_big_quiet_step (fail))
       refine wpQuiet_nil ?_
       rintro wq ⟨xq, rfl⟩
       replace hW := Lib.hid (hW.out.trans ((hF1 xq).mono hW.out.size))
       replace hL0 := hL0.call (hF1 xq)
       replace hS := hS.call (hF1 xq)
       clear hq0 f0 f1 f2 f3 f4 hF2
       generalize F xq = x25 at hL0 hS hW ⊢
       clear hF1 xq iα F α
       go_upto_region 26 with fail
       refine region_tl 16 [EV (.slice (some ⟨g, 0, none⟩) n cap), EV (.int .i64 (i : Int)), EV (.pointer (some ⟨g, i * 5, none⟩)), EV (fracV a), EV (fracV mx), EV (.int .i64 c1), EV (.bool false), EV (.bool false), EV (.slice (some ⟨g, 0, none⟩) n cap), EV (.int .i64 (i : Int)), EV (.pointer (some ⟨g, i * 5, none⟩)), EV (fracV a), EV (fracV mn), EV (.int .i64 c2), EV (.bool false), EV (.bool false)] (by kernel_rfl) (by kernel_rfl) ?_ ?_ ?_
       ·exact stays_cons (stays_eq _) (stays_cons (stays_eq _) (stays_cons (stays_eq _) (stays_cons (stays_eq _) (stays_cons (stays_eq _) (stays_cons (stays_eq _) (stays_cons (stays_eq _) (stays_cons (stays_eq _) (stays_cons (stays_eq _) (stays_cons (stays_eq _) (stays_cons (stays_eq _) (stays_cons (stays_eq _) (stays_cons (stays_eq _) (stays_cons (stays_eq _) (stays_cons (stays_eq _) (stays_cons (stays_eq _) (stays_nil))))))))))))))))
       ·simp only [List.take_succ_cons, List.take_zero, hopsR, and_true]
        refine ⟨?_, ?_, ?_, ?_, ?_, ?_, ?_, ?_, ?_, ?_, ?_, ?_, ?_, ?_, ?_, ?_⟩ <;> intro fv w1 hb1 hp
        all_goals (simp only [putsV, Act.put, List.setIfInBounds_toArray, List.set_cons_succ, List.set_cons_zero, Nat.zero_add, Nat.reduceAdd])
        ·refine tyAt_none rfl ?_
         simp [tyUpon, execOp, go_sem, Act.eval, k1, k0, (of_decide_eq_false d1), (of_decide_eq_false d2), Below.refl]
        ·refine tyAt_none rfl ?_
         simp [tyUpon, execOp, go_sem, Act.eval, k1, k0, (of_decide_eq_false d1), (of_decide_eq_false d2), Below.refl]
        ·have h0 : EV _ (fv 0) w1 := hp 0 (LC (by kernel_rfl))
         have h1 : EV _ (fv 1) w1 := hp 1 (LC (by kernel_rfl))
         refine tyAt_none rfl ?_
         simp [tyUpon, execOp, go_sem, Act.eval, h0, h1, k1, k0, (of_decide_eq_false d1), (of_decide_eq_false d2), Below.refl]
        ·have h2 : EV _ (fv 2) w1 := hp 2 (LC (by kernel_rfl))
         refine tyAt_none rfl ?_
         obtain ⟨f0, f1, f2, f3, f4⟩ := hcell.out w1 (hW.out.trans ((below_drew hb1).mono hW.out.size))
         have hc := (hL0.call (below_drew hb1)).fc
         simp only [fcG, cellsF, neK, and_true, ne_eq, Nat.zero_add, Nat.reduceAdd] at hc
         simp [tyUpon, execOp, go_sem, Act.eval, hc, h2, k1, k0, (of_decide_eq_false d1), (of_decide_eq_false d2), f0, f1, f2, f3, f4, Below.refl]
        ·refine tyAt_none rfl ?_
         have hc := (hL0.call (below_drew hb1)).fc
         simp only [fcG, cellsF, neK, and_true, ne_eq, Nat.zero_add, Nat.reduceAdd] at hc
         simp [tyUpon, execOp, go_sem, Act.eval, hc, k1, k0, (of_decide_eq_false d1), (of_decide_eq_false d2), Below.refl]
        ·have h3 : EV _ (fv 3) w1 := hp 3 (LC (by kernel_rfl))
         have h4 : EV _ (fv 4) w1 := hp 4 (LC (by kernel_rfl))
         refine tyAt_none rfl ?_
         refine ty_call (f := 73) (args := #[fracV a, fracV mx]) (by simp [execOp, go_sem, Act.eval, h3, h4]) ?_
         exact (C1.out w1).mono fun e w2 ⟨h1, h2⟩ => ⟨_, h1, rfl, h2⟩
        ·have h5 : EV _ (fv 5) w1 := hp 5 (LC (by kernel_rfl))
         refine tyAt_none rfl ?_
         simp [tyUpon, execOp, go_sem, Act.eval, h5, k1, k0, (of_decide_eq_false d1), (of_decide_eq_false d2), Below.refl]
        ·have h6 : EV _ (fv 6) w1 := hp 6 (LC (by kernel_rfl))
         refine tyAt_none rfl ?_
         simp [tyUpon, execOp, go_sem, Act.eval, h6, k1, k0, (of_decide_eq_false d1), (of_decide_eq_false d2), Below.refl]
        ·have h7 : EV _ (fv 7) w1 := hp 7 (LC (by kernel_rfl))
         refine tyAt_yes (by simp [Region.wanted, yielded, h7]) ?_
         simp [tyUpon, execOp, go_sem, Act.eval, h7, k1, k0, (of_decide_eq_false d1), (of_decide_eq_false d2), Below.refl]
        ·have h7 : EV _ (fv 7) w1 := hp 7 (LC (by kernel_rfl))
         refine tyAt_yes (by simp [Region.wanted, yielded, h7]) ?_
         simp [tyUpon, execOp, go_sem, Act.eval, h7, k1, k0, (of_decide_eq_false d1), (of_decide_eq_false d2), Below.refl]
        ·have h8 : EV _ (fv 8) w1 := hp 8 (LC (by kernel_rfl))
         have h9 : EV _ (fv 9) w1 := hp 9 (LC (by kernel_rfl))
         have h7 : EV _ (fv 7) w1 := hp 7 (LC (by kernel_rfl))
         refine tyAt_yes (by simp [Region.wanted, yielded, h8, h9, h7]) ?_
         simp [tyUpon, execOp, go_sem, Act.eval, h8, h9, h7, k1, k0, (of_decide_eq_false d1), (of_decide_eq_false d2), Below.refl]
        ·have h10 : EV _ (fv 10) w1 := hp 10 (LC (by kernel_rfl))
         have h7 : EV _ (fv 7) w1 := hp 7 (LC (by kernel_rfl))
         refine tyAt_yes (by simp [Region.wanted, yielded, h10, h7]) ?_
         obtain ⟨f0, f1, f2, f3, f4⟩ := hcell.out w1 (hW.out.trans ((below_drew hb1).mono hW.out.size))
         have hc := (hL0.call (below_drew hb1)).fc
         simp only [fcG, cellsF, neK, and_true, ne_eq, Nat.zero_add, Nat.reduceAdd] at hc
         simp [tyUpon, execOp, go_sem, Act.eval, hc, h10, h7, k1, k0, (of_decide_eq_false d1), (of_decide_eq_false d2), f0, f1, f2, f3, f4, Below.refl]
        ·have h7 : EV _ (fv 7) w1 := hp 7 (LC (by kernel_rfl))
         refine tyAt_yes (by simp [Region.wanted, yielded, h7]) ?_
         have hc := (hL0.call (below_drew hb1)).fc
         simp only [fcG, cellsF, neK, and_true, ne_eq, Nat.zero_add, Nat.reduceAdd] at hc
         simp [tyUpon, execOp, go_sem, Act.eval, hc, h7, k1, k0, (of_decide_eq_false d1), (of_decide_eq_false d2), Below.refl]
        ·have h11 : EV _ (fv 11) w1 := hp 11 (LC (by kernel_rfl))
         have h12 : EV _ (fv 12) w1 := hp 12 (LC (by kernel_rfl))
         have h7 : EV _ (fv 7) w1 := hp 7 (LC (by kernel_rfl))
         refine tyAt_yes (by simp [Region.wanted, yielded, h11, h12, h7]) ?_
         refine ty_call (f := 73) (args := #[fracV a, fracV mn]) (by simp [execOp, go_sem, Act.eval, h11, h12, h7]) ?_
         exact (C2.out w1).mono fun e w2 ⟨h1, h2⟩ => ⟨_, h1, rfl, h2⟩
        ·have h13 : EV _ (fv 13) w1 := hp 13 (LC (by kernel_rfl))
         have h7 : EV _ (fv 7) w1 := hp 7 (LC (by kernel_rfl))
         refine tyAt_yes (by simp [Region.wanted, yielded, h13, h7]) ?_
         simp [tyUpon, execOp, go_sem, Act.eval, h13, h7, k1, k0, (of_decide_eq_false d1), (of_decide_eq_false d2), Below.refl]
        ·have h7 : EV _ (fv 7) w1 := hp 7 (LC (by kernel_rfl))
         have h14 : EV _ (fv 14) w1 := hp 14 (LC (by kernel_rfl))
         refine tyAt_none rfl ?_
         simp [tyUpon, execOp, go_sem, Act.eval, h7, h14, k1, k0, (of_decide_eq_false d1), (of_decide_eq_false d2), Below.refl]
       ·intro fv x26 hb1 hv
        have e0 : fv 0 = _ := hv 0 (by omega)
        have e1 : fv 1 = _ := hv 1 (by omega)
        have e2 : fv 2 = _ := hv 2 (by omega)
        have e3 : fv 3 = _ := hv 3 (by omega)
        have e4 : fv 4 = _ := hv 4 (by omega)
        have e5 : fv 5 = _ := hv 5 (by omega)
        have e6 : fv 6 = _ := hv 6 (by omega)
        have e7 : fv 7 = _ := hv 7 (by omega)
        have e8 : fv 8 = _ := hv 8 (by omega)
        have e9 : fv 9 = _ := hv 9 (by omega)
        have e10 : fv 10 = _ := hv 10 (by omega)
        have e11 : fv 11 = _ := hv 11 (by omega)
        have e12 : fv 12 = _ := hv 12 (by omega)
        have e13 : fv 13 = _ := hv 13 (by omega)
        have e14 : fv 14 = _ := hv 14 (by omega)
        have e15 : fv 15 = _ := hv 15 (by omega)
        simp only [List.take_succ_cons, List.take_zero, putsV, Act.put, List.setIfInBounds_toArray, List.set_cons_succ, List.set_cons_zero, List.drop_succ_cons, List.drop_zero, Nat.zero_add, Nat.reduceAdd, e0, e1, e2, e3, e4, e5, e6, e7, e8, e9, e10, e11, e12, e13, e14, e15]
        replace hL0 := hL0.call (below_drew hb1)
        replace hS := hS.call (below_drew hb1)
        replace hW := Lib.hid (hW.out.trans ((below_drew hb1).mono hW.out.size))
        clear e0 e1 e2 e3 e4 e5 e6 e7 e8 e9 e10 e11 e12 e13 e14 e15 hb1 hv fv
        go_wp2_with fail
        go_roundw
        case rel => exact ⟨i + 1, _, _, _, by omega, by first | rfl | go_num, by omega, rfl, rfl, by simpa using hr1.out, by simpa using hr2.out, kA.out.below hW.out, hL0⟩
        case measure => simp [intOf] <;> omega
    ·have hni : n = i := by omega
     subst hni
     subst hzi
     have k1 : ¬ (n : Int) < (n : Int) := by omega
     have hall : qs.take n = qs := List.take_of_length_le (by have := hlq.out; omega)
     rw [hall, decide_eq_true m1.out] at ho1
     rw [hall, decide_eq_true m3.out] at ho2
     subst ho1
     subst ho2
     clear hall hi1 hin m1 m2 m3 m4 HC1 HC2 kA
     go_wp2_with fail
     with_reducible refine Calls.mono (HW.out _ (hKT.out.at hL0.bl kKT)) ?_
     rintro e xe ⟨rfl, hb⟩
     replace hL0 := hL0.call hb
     clear hb
     go_wp2_with fail
     exact bodyPost_ret (v := .bool true) (by simp [results, Tryz.results10, go_sem]) rfl ⟨rfl, hL0.bl⟩
end Go.Proofs.YtdmoadfnogdfnaaGreatDoor
namespace Go.Proofs.YtdmoadfnogdfnaaGreatDoor
open Go.RowKit
attribute [local irreducible] lo hs sm s64 c64 d64 b64 mh ml pd pc qd qc val hiB str cmpI srD lz nb isq decB zl zh zs fe frCs qmade
set_option maxHeartbeats 4000000 in
set_option maxRecDepth 100000 in
theorem flists_big (t : Int) (a : Option Addr) (n c : Nat) (hn : 20 < n) (KT : World → Prop) (hKT : Keeps KT) (HW : RK KT 54 #[] (.bool true)) (w : World) (kKT : KT w) :
  Calls Tryz.prog 10 #[.slice a n c, .int .i64 t] w fun xe w' => xe = .returned (.bool true) ∧ Below w.heap.size w w' := by
 have hL0 : GL w w [] := GL.start w
 replace hKT := Lib.hid hKT
 replace HW := Lib.hid HW
 have g1 : decide ((20 : Int) < (n : Int)) = true := decide_eq_true (by omega)
 have g2 : decide (20 < n) = true := decide_eq_true (by omega)
 go_enter Tryz.func10, Tryz.ntmps10
 have hA := hL0.fc
 simp only [fcG, cellsF, neK, and_true, ne_eq, Nat.zero_add, Nat.reduceAdd] at hA
 go_wp2_with fail
 clear hA
 with_reducible refine Calls.mono (HW.out _ (hKT.out.at hL0.bl kKT)) ?_
 rintro e x1 ⟨rfl, hb⟩
 replace hL0 := hL0.call hb
 clear hb
 go_wp2_with fail
 exact bodyPost_ret (v := .bool true) (by simp [results, Tryz.results10, go_sem]) rfl ⟨rfl, hL0.bl⟩
set_option maxHeartbeats 4000000 in
set_option maxRecDepth 100000 in
theorem flists_nil (t : Int) (a : Option Addr) (c : Nat)
  (HX : ∀ w, Calls Tryz.prog 89 #[.slice none 0 0] w fun xe w' => xe = .returned (.agg #[.int .u64 0, .string ⟨#[]⟩, .bool false, .int .u64 0, .string ⟨#[]⟩]) ∧ Below w.heap.size w w')
  (HN : ∀ w, Calls Tryz.prog 90 #[.slice none 0 0] w fun xe w' => xe = .returned (.agg #[.int .u64 0, .string ⟨#[]⟩, .bool false, .int .u64 0, .string ⟨#[]⟩]) ∧ Below w.heap.size w w')
  (HS : ∀ w, Calls Tryz.prog 91 #[.slice none 0 0] w fun xe w' => xe = .returned (.agg #[.int .u64 0, .string ⟨#[]⟩, .bool false, .int .u64 0, .string ⟨#[]⟩]) ∧ Below w.heap.size w w') (KT : World → Prop) (hKT : Keeps KT) (HW : ∀ w, KT w → Calls Tryz.prog 54 #[] w fun xe w' => xe = .returned (.bool true) ∧ Below w.heap.size w w') (w : World) (kKT : KT w) :
  Calls Tryz.prog 10 #[.slice a 0 c, .int .i64 t] w fun xe w' => xe = .returned (.bool true) ∧ Below w.heap.size w w' := by
 have hL0 : GL w w [] := GL.start w
 replace hKT := Lib.hid hKT
 replace HW := Lib.hid HW
 replace HX := Lib.hid HX
 replace HN := Lib.hid HN
 replace HS := Lib.hid HS
 replace hL0 := (hL0.new rfl [.int .u64 0, .string ⟨#[]⟩, .bool false, .int .u64 0, .string ⟨#[]⟩] 79)
 generalize hweq : (w.alloc (.cells #[.int .u64 0, .string ⟨#[]⟩, .bool false, .int .u64 0, .string ⟨#[]⟩] 79)) = x1 at hL0
 go_enter Tryz.func10, Tryz.ntmps10
 have hA := hL0.fc
 simp only [fcG, cellsF, neK, and_true, ne_eq, Nat.zero_add, Nat.reduceAdd] at hA
 go_wp2_with fail
 clear hA
 clear hweq
 obtain ⟨S, hS⟩ : ∃ S, S = w.heap.size := ⟨_, rfl⟩
 rw [← hS] at hL0 ⊢
 clear hS
 go_loopw [5, 8] (fun v z wr => v = .slice none 0 0 ∧ z = .int .i64 0 ∧ GL w wr [(S, [.int .u64 0, .string ⟨#[]⟩, .bool false, .int .u64 0, .string ⟨#[]⟩])]) (fun _ _ _ => 0)
 case atStart => exact ⟨rfl, rfl, hL0⟩
 case round =>
  clear hL0
  obtain ⟨rfl, rfl, hL0⟩ := hrel
  go_wp2_with fail
  with_reducible refine Calls.mono (HX.out _) ?_
  rintro e x2 ⟨rfl, hb⟩
  replace hL0 := hL0.call hb
  clear hb
  go_wp2_with fail
  with_reducible refine Calls.mono (HN.out _) ?_
  rintro e x3 ⟨rfl, hb⟩
  replace hL0 := hL0.call hb
  clear hb
  replace hL0 := ((hL0.new rfl [.int .u64 0, .string ⟨#[]⟩, .bool false, .int .u64 0, .string ⟨#[]⟩] 79).new (K := x3.heap.size + 1) (szA _ _) [.int .u64 0, .string ⟨#[]⟩, .bool false, .int .u64 0, .string ⟨#[]⟩] 79)
  generalize hweq : ((x3.alloc (.cells #[.int .u64 0, .string ⟨#[]⟩, .bool false, .int .u64 0, .string ⟨#[]⟩] 79)).alloc (.cells #[.int .u64 0, .string ⟨#[]⟩, .bool false, .int .u64 0, .string ⟨#[]⟩] 79)) = x4 at hL0
  have hA := hL0.fc
  simp only [fcG, cellsF, neK, and_true, ne_eq, Nat.zero_add, Nat.reduceAdd] at hA
  have hP := hL0.put 1 (x3.heap.size) _ rfl [.int .u64 0, .string ⟨#[]⟩, .bool false, .int .u64 0, .string ⟨#[]⟩] rfl
  simp only [setAll, List.set_cons_zero, List.set_cons_succ] at hP
  generalize hput1 : (((((x4.setCell ⟨x3.heap.size, 0, none⟩ (.int .u64 0)).setCell ⟨x3.heap.size, 1, none⟩ (.string ⟨#[]⟩)).setCell ⟨x3.heap.size, 2, none⟩ (.bool false)).setCell ⟨x3.heap.size, 3, none⟩ (.int .u64 0)).setCell ⟨x3.heap.size, 4, none⟩ (.string ⟨#[]⟩)) = x5 at hP
  have hB1 := hP.fc
  simp only [fcG, cellsF, neK, and_true, ne_eq, Nat.zero_add, Nat.reduceAdd] at hB1
  replace hL0 := hP
  have hP := hL0.put 0 (x3.heap.size + 1) _ rfl [.int .u64 0, .string ⟨#[]⟩, .bool false, .int .u64 0, .string ⟨#[]⟩] rfl
  simp only [setAll, List.set_cons_zero, List.set_cons_succ] at hP
  generalize hput2 : (((((x5.setCell ⟨x3.heap.size + 1, 0, none⟩ (.int .u64 0)).setCell ⟨x3.heap.size + 1, 1, none⟩ (.string ⟨#[]⟩)).setCell ⟨x3.heap.size + 1, 2, none⟩ (.bool false)).setCell ⟨x3.heap.size + 1, 3, none⟩ (.int .u64 0)).setCell ⟨x3.heap.size + 1, 4, none⟩ (.string ⟨#[]⟩)) = x6 at hP
  have hB2 := hP.fc
  simp only [fcG, cellsF, neK, and_true, ne_eq, Nat.zero_add, Nat.reduceAdd] at hB2
  replace hL0 := hP
  go_upto_region 16 with fail
  clear hA
  clear hput1 hB1 hput2 hB2
  clear hweq
  obtain ⟨α, iα, F, hF1, hF2⟩ := cls x6
  have hq0 := cls_box hF1 hL0 _ _ (List.mem_cons_of_mem _ (List.mem_cons_of_mem _ List.mem_cons_self))
  simp only [cellsC, and_true, Nat.zero_add, Nat.reduceAdd] at hq0
  have hq1 := cls_box hF1 hL0 _ _ (List.mem_cons_of_mem _ List.mem_cons_self)
  simp only [cellsC, and_true, Nat.zero_add, Nat.reduceAdd] at hq1
  have hq2 := cls_box hF1 hL0 _ _ List.mem_cons_self
  simp only [cellsC, and_true, Nat.zero_add, Nat.reduceAdd] at hq2
  refine region_cls (F := F) (by kernel_rfl) (lexB_of_fast (by kernel_rfl)) (cls_drew hF2) ?_
  repeat (go_big_quiet_step (first | fail | (go_at_call 91; with_reducible exact cls_call hF1 hF2 HS.out _) | (go_at_call 89; with_reducible exact cls_call hF1 hF2 HX.out _) | (go_at_call 90; with_reducible exact cls_call hF1 hF2 HN.out _)))
  refine wpQuiet_nil ?_
  rintro wq ⟨xq, rfl⟩
  replace hL0 := hL0.call (hF1 xq)
  clear  hq0 hq1 hq2 hF2
  generalize F xq = x7 at hL0 ⊢
  clear hF1 xq iα F α
  have hN0 := cells_of _ 0 [] rfl (hL0.get _ _ (List.mem_cons_of_mem _ (List.mem_cons_of_mem _ List.mem_cons_self)))
  simp only [cellsF, and_true, Nat.zero_add, Nat.reduceAdd] at hN0
  have hN1 := cells_of _ 0 [] rfl (hL0.get _ _ (List.mem_cons_of_mem _ List.mem_cons_self))
  simp only [cellsF, and_true, Nat.zero_add, Nat.reduceAdd] at hN1
  have hN2 := cells_of _ 0 [] rfl (hL0.get _ _ List.mem_cons_self)
  simp only [cellsF, and_true, Nat.zero_add, Nat.reduceAdd] at hN2
  go_wp2_with fail
  clear hN0 hN1 hN2
  with_reducible refine Calls.mono (HW.out _ (hKT.out.at hL0.bl kKT)) ?_
  rintro e xe ⟨rfl, hb⟩
  replace hL0 := hL0.call hb
  clear hb
  go_wp2_with fail
  exact bodyPost_ret (v := .bool true) (by simp [results, Tryz.results10, go_sem]) rfl ⟨rfl, hL0.bl⟩
end Go.Proofs.YtdmoadfnogdfnaaGreatDoor
namespace Go.Proofs.YtdmoadfnogdfnaaGreatDoor
open Go.RowKit
attribute [local irreducible] lo hs sm s64 c64 d64 b64 mh ml pd pc qd qc val hiB str cmpI srD lz nb isq decB zl zh zs
set_option maxHeartbeats 4000000 in
set_option maxRecDepth 100000 in
theorem qof_zero (n x c : Int) (f : Nat) (HF : RT 138 #[.int .i64 n, .int .i64 1] (.tuple #[frV x f, .int .i64 c])) (hmx : max (0 : Int) 1 = 1) (w : World) :
  Calls Tryz.prog 88 #[.agg #[.int .i64 n, .int .u32 0]] w fun xe w' => xe = .returned (frV x f) ∧ Below w.heap.size w w' := by
 have hL0 : GL w w [] := GL.start w
 replace HF := Lib.hid HF
 replace hL0 := ((hL0.new rfl [.int .i64 n, .int .u32 0] 115).new (K := w.heap.size + 1) (szA _ _) [.int .u64 0, .string ⟨#[]⟩, .bool false, .int .u64 0, .string ⟨#[]⟩] 79)
 generalize hweq : ((w.alloc (.cells #[.int .i64 n, .int .u32 0] 115)).alloc (.cells #[.int .u64 0, .string ⟨#[]⟩, .bool false, .int .u64 0, .string ⟨#[]⟩] 79)) = x1 at hL0
 go_enter Tryz.func88, Tryz.ntmps88
 have hN0 := cells_of _ 0 [] rfl (hL0.get _ _ (List.mem_cons_of_mem _ List.mem_cons_self))
 simp only [cellsF, and_true, Nat.zero_add, Nat.reduceAdd] at hN0
 go_wp2_with fail
 clear hN0
 with_reducible refine Calls.mono (HF.out _) ?_
 rintro e x2 ⟨rfl, hb⟩
 replace hL0 := hL0.call hb
 clear hb hweq
 replace hL0 := (hL0.new rfl [.int .u64 ((zl x : Nat) : Int), .string (zh x), .bool (zs x), .int .u64 ((lo f : Nat) : Int), .string (hs f)] 79)
 generalize hweq : (x2.alloc (.cells #[.int .u64 ((zl x : Nat) : Int), .string (zh x), .bool (zs x), .int .u64 ((lo f : Nat) : Int), .string (hs f)] 79)) = x3 at hL0
 have hA := hL0.fc
 simp only [fcG, cellsF, neK, and_true, ne_eq, Nat.zero_add, Nat.reduceAdd] at hA
 have hP := hL0.put 1 (w.heap.size + 1) _ rfl [.int .u64 ((zl x : Nat) : Int), .string (zh x), .bool (zs x), .int .u64 ((lo f : Nat) : Int), .string (hs f)] rfl
 simp only [setAll, List.set_cons_zero, List.set_cons_succ] at hP
 generalize hput1 : (((((x3.setCell ⟨w.heap.size + 1, 0, none⟩ (.int .u64 ((zl x : Nat) : Int))).setCell ⟨w.heap.size + 1, 1, none⟩ (.string (zh x))).setCell ⟨w.heap.size + 1, 2, none⟩ (.bool (zs x))).setCell ⟨w.heap.size + 1, 3, none⟩ (.int .u64 ((lo f : Nat) : Int))).setCell ⟨w.heap.size + 1, 4, none⟩ (.string (hs f))) = x4 at hP
 have hB1 := hP.fc
 simp only [fcG, cellsF, neK, and_true, ne_eq, Nat.zero_add, Nat.reduceAdd] at hB1
 replace hL0 := hP
 go_wp2_with fail
 exact bodyPost_ret (v := frV x f) (by simp [results, Tryz.results88, go_sem, hB1]) rfl ⟨rfl, hL0.bl⟩
set_option maxHeartbeats 4000000 in
set_option maxRecDepth 100000 in
theorem qof_pos (n d x c : Int) (f : Nat) (HF : RT 138 #[.int .i64 n, .int .i64 d] (.tuple #[frV x f, .int .i64 c])) (h1 : max d 1 = d) (hw : IntKind.i64.wrap d = d) (w : World) :
  Calls Tryz.prog 88 #[.agg #[.int .i64 n, .int .u32 d]] w fun xe w' => xe = .returned (frV x f) ∧ Below w.heap.size w w' := by
 have hL0 : GL w w [] := GL.start w
 replace HF := Lib.hid HF
 replace hL0 := ((hL0.new rfl [.int .i64 n, .int .u32 d] 115).new (K := w.heap.size + 1) (szA _ _) [.int .u64 0, .string ⟨#[]⟩, .bool false, .int .u64 0, .string ⟨#[]⟩] 79)
 generalize hweq : ((w.alloc (.cells #[.int .i64 n, .int .u32 d] 115)).alloc (.cells #[.int .u64 0, .string ⟨#[]⟩, .bool false, .int .u64 0, .string ⟨#[]⟩] 79)) = x1 at hL0
 go_enter Tryz.func88, Tryz.ntmps88
 have hN0 := cells_of _ 0 [] rfl (hL0.get _ _ (List.mem_cons_of_mem _ List.mem_cons_self))
 simp only [cellsF, and_true, Nat.zero_add, Nat.reduceAdd] at hN0
 go_wp2_with fail
 clear hN0
 with_reducible refine Calls.mono (HF.out _) ?_
 rintro e x2 ⟨rfl, hb⟩
 replace hL0 := hL0.call hb
 clear hb hweq
 replace hL0 := (hL0.new rfl [.int .u64 ((zl x : Nat) : Int), .string (zh x), .bool (zs x), .int .u64 ((lo f : Nat) : Int), .string (hs f)] 79)
 generalize hweq : (x2.alloc (.cells #[.int .u64 ((zl x : Nat) : Int), .string (zh x), .bool (zs x), .int .u64 ((lo f : Nat) : Int), .string (hs f)] 79)) = x3 at hL0
 have hA := hL0.fc
 simp only [fcG, cellsF, neK, and_true, ne_eq, Nat.zero_add, Nat.reduceAdd] at hA
 have hP := hL0.put 1 (w.heap.size + 1) _ rfl [.int .u64 ((zl x : Nat) : Int), .string (zh x), .bool (zs x), .int .u64 ((lo f : Nat) : Int), .string (hs f)] rfl
 simp only [setAll, List.set_cons_zero, List.set_cons_succ] at hP
 generalize hput1 : (((((x3.setCell ⟨w.heap.size + 1, 0, none⟩ (.int .u64 ((zl x : Nat) : Int))).setCell ⟨w.heap.size + 1, 1, none⟩ (.string (zh x))).setCell ⟨w.heap.size + 1, 2, none⟩ (.bool (zs x))).setCell ⟨w.heap.size + 1, 3, none⟩ (.int .u64 ((lo f : Nat) : Int))).setCell ⟨w.heap.size + 1, 4, none⟩ (.string (hs f))) = x4 at hP
 have hB1 := hP.fc
 simp only [fcG, cellsF, neK, and_true, ne_eq, Nat.zero_add, Nat.reduceAdd] at hB1
 replace hL0 := hP
 go_wp2_with fail
 exact bodyPost_ret (v := frV x f) (by simp [results, Tryz.results88, go_sem, hB1]) rfl ⟨rfl, hL0.bl⟩
theorem qof_any (n d : Int) (a1 : -9223372036854775808 ≤ n) (a2 : n < 9223372036854775808) (b1 : 0 ≤ d) (b2 : d < 4294967296) (w : World) :
  Calls Tryz.prog 88 #[.agg #[.int .i64 n, .int .u32 d]] w fun xe w' => xe = .returned (fracV (qmade n d.toNat)) ∧ Below w.heap.size w w' := by
 by_cases h : d = 0
 ·subst h
  have e : (n : Rat) / ((1 : Int) : Rat) = qmade n 0 := by rw [← of_val_q n 1 (by decide)]; rfl
  have hF := fun w => ofF n 1 a1 a2 (by decide) (by decide) (by decide) w
  rw [e] at hF
  exact qof_zero n _ _ _ hF (by decide) w
 ·have e : (n : Rat) / (d : Rat) = qmade n d.toNat := by
   rw [← of_val_q n d h]
   unfold qmade
   rw [if_neg (by omega), if_neg (by omega), show d.natAbs = d.toNat by omega]
  have hF := fun w => ofF n d a1 a2 (by omega) (by omega) h w
  rw [e] at hF
  exact qof_pos n d _ _ _ hF (by omega) (IntWalk.i64_in _ (by omega)) w
end Go.Proofs.YtdmoadfnogdfnaaGreatDoor
namespace Go.Proofs.YtdmoadfnogdfnaaGreatDoor
open Go.RowKit
attribute [local irreducible] lo hs sm s64 c64 d64 b64 mh ml pd pc qd qc val hiB str cmpI srD lz nb isq decB zl zh zs dval
theorem sz_0 : Sz 0 1 := szc 0 (by decide) (by decide)
theorem part_sz (qs : List Rat) (h : ∀ q ∈ qs, Sz q 1) (hl : qs.length ≤ 20) (i : Nat) : Sz (qsum (qs.take i)) 50 := by
 have hz := qsum_sz (qs.take i) 1 0 sz_0 (fun q hq => h q (List.mem_of_mem_take hq))
 refine hz.mono ?_
 rw [List.length_take]
 omega
theorem flists_any (ao : Option Addr) (n c : Nat) (ql : List (Int × Int)) (t : Int) (w : World) (htab : Tab w) (hm : MaxL w) (hq : (n = 0 ∧ ql = []) ∨ ∃ a, ao = some a ∧ ql.length = n ∧ QSl w a ql) :
  Calls Tryz.prog 10 #[.slice ao n c, .int .i64 t] w fun xe w' => xe = .returned (.bool true) ∧ Below w.heap.size w w' := by
 have KT : Keeps (fun w => Tab w ∧ MaxL w) := Keeps.and Keeps.tab MaxL.keeps
 have WK : ∀ w, (Tab w ∧ MaxL w) → _ := fun w h => fworks_any w h.1 h.2
 rcases Nat.lt_or_ge 20 n with h20 | h20
 ·exact flists_big t ao n c h20 _ KT WK w ⟨htab, hm⟩
 rcases hq with ⟨rfl, rfl⟩ | ⟨a, rfl, hlen, hq⟩
 ·have e0 : SlQ w (.slice none 0 0) [] := .inl ⟨none, 0, rfl, rfl⟩
  have HX := fun w => maxF none 0 0 [] 1 (by omega) (by decide) (fun q h => by cases h) w (.inl ⟨none, 0, rfl, rfl⟩)
  have HN := fun w => minF none 0 0 [] 1 (by omega) (by decide) (fun q h => by cases h) w (.inl ⟨none, 0, rfl, rfl⟩)
  have HS := fun w => sumF none 0 0 [] 1 (by omega) (by decide) (fun q h => by cases h) w (.inl ⟨none, 0, rfl, rfl⟩)
  rw [show amg gtQ [] = 0 from rfl, frV_q0] at HX
  rw [show amg ltQ [] = 0 from rfl, frV_q0] at HN
  rw [show qsum [] = 0 from rfl, frV_q0] at HS
  exact flists_nil t ao c HX HN HS _ KT WK w ⟨htab, hm⟩
 ·by_cases hn : n = 0
  ·subst hn
   have HX := fun w => maxF none 0 0 [] 1 (by omega) (by decide) (fun q h => by cases h) w (.inl ⟨none, 0, rfl, rfl⟩)
   have HN := fun w => minF none 0 0 [] 1 (by omega) (by decide) (fun q h => by cases h) w (.inl ⟨none, 0, rfl, rfl⟩)
   have HS := fun w => sumF none 0 0 [] 1 (by omega) (by decide) (fun q h => by cases h) w (.inl ⟨none, 0, rfl, rfl⟩)
   rw [show amg gtQ [] = 0 from rfl, frV_q0] at HX
   rw [show amg ltQ [] = 0 from rfl, frV_q0] at HN
   rw [show qsum [] = 0 from rfl, frV_q0] at HS
   exact flists_nil t (some a) c HX HN HS _ KT WK w ⟨htab, hm⟩
  ·obtain ⟨qs, hqs⟩ : ∃ qs, qs = ql.map (fun p => qmade p.1 p.2.toNat) := ⟨_, rfl⟩
   have hlq : qs.length = n := by rw [hqs, List.length_map]; exact hlen
   have hZ : ∀ q ∈ qs, Sz q 1 := fun q hx => by
    rw [hqs] at hx
    obtain ⟨p, hp, rfl⟩ := List.mem_map.1 hx
    obtain ⟨⟨h1, h2⟩, h3, h4⟩ := hq.rg p hp
    exact qmade_sz p.1 p.2.toNat h1 h2 (by omega)
   refine flists_pos t a n c ql qs (by omega) h20 hlen hlq (fun i h h' w => ?_) (fun i h w => ?_) hZ _ KT WK w ⟨htab, hm⟩ hq
   ·obtain ⟨⟨h1, h2⟩, h3, h4⟩ := hq.rg ql[i] (List.getElem_mem h)
    have e : qs[i] = qmade ql[i].1 ql[i].2.toNat := by simp [hqs]
    rw [e]
    exact qof_any ql[i].1 ql[i].2 h1 h2 h3 h4 w
   ·have e : qsum (qs.take (i + 1)) = qsum (qs.take i) + qs[i] := by rw [List.take_succ_eq_append_getElem h, qsum_snoc]
    rw [e]
    exact addF _ _ 50 (part_sz qs hZ (by omega) i) ((hZ _ (List.getElem_mem h)).mono (by omega)) (by omega) w
end Go.Proofs.YtdmoadfnogdfnaaGreatDoor
namespace Go.Proofs.YtdmoadfnogdfnaaGreatDoor
open Go.ChangeShapes Go.WideShapes Go.ChangeAt Go.RowKit Go.Joins
set_option maxRecDepth 100000 in
theorem cellsQ : Tryz.prog.cellsOf 115 = 2 := by kernel_rfl
theorem cellsI : Tryz.prog.cellsOf 2 = 1 := by kernel_rfl
theorem cellsU : Tryz.prog.cellsOf 22 = 1 := by kernel_rfl
end Go.Proofs.YtdmoadfnogdfnaaGreatDoor
namespace Go.Proofs.YtdmoadfnogdfnaaGreatDoor
open Go.ChangeShapes Go.WideShapes Go.ChangeAt Go.RowKit Go.Joins
theorem addadd (a : Addr) (i j : Nat) : (a.add i).add j = a.add (i + j) := by
 unfold Addr.add
 by_cases h : i = 0
 ·subst h; simp
 ·by_cases h2 : j = 0
  ·subst h2; simp [h]
  ·simp [h, h2, Nat.add_assoc]
set_option maxRecDepth 100000 in
theorem qs_of {H : Type} {enc : TypeId × Value → H} {W : World} {base : Nat} {v : Value} {d : DataW H} {p : List MemPlace} (hv : Value.okWide Tryz.prog W .any base 112 v)
  (h : DataW.Trod enc Tryz.prog W 0 (fun _ => true) true 112 v d p) : ∃ a n c l, v = .slice a n c ∧ ((n = 0 ∧ l = []) ∨ ∃ x, a = some x ∧ l.length = n ∧ QSl W x l) := by
 obtain ⟨a0, len, cap, rfl⟩ := okWide_slice Tryz.underlying112 hv
 obtain ⟨fuel, hf⟩ := h
 rcases Go.Deep.open_slice_pairs Tryz.underlying112 Tryz.underlying115 cellsQ rfl rfl cellsI cellsU hf with ⟨hcs, hx⟩ | ⟨a, len', cap', m, n, V0, V1, D0, D1, P0, P1, hcs, _, hl, _, hm, hx, hcell⟩
 ·simp [Value.cells] at hcs
  obtain ⟨rfl, rfl, rfl⟩ := hcs
  exact ⟨none, 0, 0, [], rfl, .inl ⟨rfl, rfl⟩⟩
 ·simp [Value.cells] at hcs
  obtain ⟨rfl, rfl, rfl⟩ := hcs
  simp only [if_true] at hm
  by_cases h0 : len = 0
  ·subst h0
   exact ⟨some a, 0, cap, [], rfl, .inl ⟨rfl, rfl⟩⟩
  have each : ∀ i, i < len → ∃ z : Int × Int, W.cell? (a.add (i * 2)) = some (.int .i64 z.1) ∧ W.cell? ((a.add (i * 2)).add 1) = some (.int .u32 z.2) ∧ (-9223372036854775808 ≤ z.1 ∧ z.1 < 9223372036854775808) ∧ 0 ≤ z.2 ∧ z.2 < 4294967296 := by
   intro i hi
   obtain ⟨e0, e1, g0, g1⟩ := hcell i (by omega)
   obtain ⟨x, y0, -, f0⟩ := DataW.trod_int Tryz.underlying2 g0
   obtain ⟨y, y1, -, f1⟩ := DataW.trod_int Tryz.underlying22 g1
   simp only [List.cons.injEq, and_true] at y0 y1
   rw [y0] at e0
   rw [y1] at e1
   have b0 := bounds_i64 f0
   have b1 := bounds_u32 f1
   exact ⟨(x, y), e0, by rw [addadd]; exact e1, by omega, by omega⟩
  obtain ⟨q, hq⟩ := Go.Deep.choose_lt each
  refine ⟨some a, len, cap, (List.range len).map q, rfl, .inr ⟨a, rfl, by simp, fun i hi => ?_, fun i hi => ?_, fun z hz => ?_, ?_⟩⟩
  ·have hi' : i < len := by simpa using hi
   have := (hq i hi').1
   simpa using this
  ·have hi' : i < len := by simpa using hi
   have := (hq i hi').2.1
   simpa using this
  ·obtain ⟨i, hi, rfl⟩ := List.mem_map.1 hz
   exact (hq i (List.mem_range.1 hi)).2.2
  ·have e := (hq 0 (by omega)).1
   have := World.block_lt_of_cell? W _ e
   rw [add_blk] at this
   exact this
end Go.Proofs.YtdmoadfnogdfnaaGreatDoor
namespace Go.Proofs.YtdmoadfnogdfnaaGreatDoor.fracsLists
open Go.ChangeShapes Go.WideShapes Go.ChangeAt Go.RowKit
set_option maxRecDepth 100000 in
theorem contract (H : Type) (enc : TypeId × Value → H) (W : World) (base : Nat) (args : Array Value) (ds gs : List (DataW H)) (before : List MemPlace)
  (hval : ∀ (j : Nat) t v, Tryz.f10.params[j]? = some t → args[j]? = some v → Value.okWide Tryz.prog W .any base t v)
  (hW : DataW.Whole enc Tryz.prog Tryz.f10.params.toList Rows.fracsListsSpec.vars false W args.toList ds gs before) (hL : laidMetH Tryz.prog Rows.fracsListsRow.laid W) (hSh : W.ShapedOpen Tryz.prog) :
  Calls Tryz.prog 10 args W fun e W' => ∃ v, e = .returned v ∧ Rows.fracsListsSpec.post enc Tryz.prog Tryz.f10 false true false false W args v W' := by
 have hW' := hW
 obtain ⟨p, q, hA0, hV, rfl, _, _⟩ := hW
 have hA : DataW.TrodAll enc Tryz.prog W 0 (fun _ => true) true Tryz.f10.params.toList args.toList ds p := hA0
 rw [Tryz.params10] at hA hval
 obtain ⟨v0, v1, e0, e1, p0, p1, rfl, rfl, rfl, h0, h1⟩ := trodAll_two hA
 obtain ⟨rfl, rfl⟩ := trodVars_none hV
 clear hA0
 simp only [List.append_nil] at hW'
 have hlt : ∀ x ∈ p0 ++ p1, x.block < W.heap.size := fun x hx => by simpa using hW'.lt x hx
 have t0 : ∀ x ∈ p0, x.block < W.heap.size := fun x hx => hlt x (by simp [hx])
 obtain ⟨a0, n0, c0, l0, rfl, w0⟩ := qs_of (hval 0 112 v0 rfl rfl) h0
 obtain ⟨z1, rfl, rfl, rfl, f1⟩ := open_int Tryz.underlying3 (hval 1 3 v1 rfl rfl) h1
 have b1 := bounds_i64 f1
 refine (flists_any a0 n0 c0 l0 z1 W (tab_of hL) (maxL_of hSh) w0).mono fun e W' ⟨he, hb⟩ => ?_
 subst he
 refine ⟨_, rfl, _, _, _, [], ?pl, [], hW', ?_, ?_, rfl, hb.frame _, fun h => by cases h⟩
 rotate_left
 ·exact trodAll_mk1 (shut_bool Tryz.underlying4 _)
 ·exact trodAll_mk2 (Below.trod laidOut (by kernel_rfl) (of_decide_eq_true (by kernel_rfl)) h0 hb t0) (shut_int Tryz.underlying3 f1)
/-- A world for the witness: the settled one, the tables as their initialisers lay them. -/
noncomputable def laidWorld (os : Os) : World := World.laidAll Tryz.prog os Rows.fracsListsRow.laid
theorem laid_met (os : Os) : laidMet Tryz.prog Rows.fracsListsRow.laid ((laidWorld os).forCall (fun _ _ => 0) ⟨#[], #[.slice none 0 0, .int .i64 0], []⟩).memory :=
 laidMet_laidAll _ (by kernel_rfl) (by kernel_rfl)
theorem reads (os : Os) {H : Type} (enc : TypeId × Value → H) : ∃ places, DataW.whole enc Tryz.prog ((laidWorld os).forCall (fun _ _ => 0) ⟨#[], #[.slice none 0 0, .int .i64 0], []⟩).memory Tryz.f10.params.toList Rows.fracsListsSpec.vars false (#[.slice none 0 0, .int .i64 0] : Array Value).toList 8 = some ([.nil, .lit (.int .i64 0)], [], places) :=
 ⟨[], by kernel_rfl⟩
set_option maxRecDepth 100000 in
theorem lifted (os : Os) (started : os.Started) (H : Type) (enc : TypeId × Value → H) (F : Stop.Interp) :
  ReturnsInHanded {} Tryz.checked os 10 .any ((OpenSpec.ofChange Rows.fracsListsSpec).preRow enc Tryz.prog Tryz.f10 Rows.fracsListsRow.domain false Rows.fracsListsRow.laid) (((OpenSpec.ofChange Rows.fracsListsSpec).at F).post enc Tryz.prog Tryz.f10 false true false false) := by
 obtain ⟨places, hx⟩ := reads os enc
 refine returnsInHanded_of_row (C := Tryz.checked) (s := OpenSpec.ofChange Rows.fracsListsSpec) own started (by kernel_rfl) Tryz.func10
  (witness_row_at (enc := enc) (C := Tryz.checked) false (laidWorld os) #[.slice none 0 0, .int .i64 0] (World.laidAll_os _ _ _) (by kernel_rfl) (by kernel_rfl) (by kernel_rfl)
   (OpenSpec.preRow_of_cond 8 hx (by kernel_rfl) (fun k hk => by cases hk) (by kernel_rfl) (laid_met os))) ?_
 intro W base args ds gs before hval hW _ _ _ hL hSh _
 exact contract H enc W base args ds gs before hval hW hL hSh
theorem said : Rows.FracsListsSaid :=
 OpenClaim.holds_of_cond 10 Tryz.f10 rfl rfl rfl rfl rfl rfl rfl ⟨rfl, rfl, rfl, rfl, rfl⟩ rfl rfl rfl rfl rfl (by kernel_rfl) Tryz.func10 (by kernel_rfl)
  (of_decide_eq_true (by kernel_rfl)) (by unfold Func.isWrapper; first | (rw [if_pos (by decide +kernel)]; kernel_rfl) | (rw [if_neg (by decide +kernel)]; exact ⟨rfl, rfl⟩))
  (fun os started H enc _ F => by rw [OpenClaim.pre_eq_preRow]; exact lifted os started H enc F)
theorem plain (f : FuncId) (fn : Func) (hf : Tryz.pinned.checked.prog.funcNamed "gusset/gussetlaw03.FracsLists" = some f) (hfn : Tryz.pinned.checked.prog.funcs[f]? = some fn) :
  false = Tryz.pinned.checked.prog.looks [] ∧ ∀ (j : Nat) t, fn.params[j]? = some t → Tryz.pinned.checked.prog.wantsStandIn t = false := by
 obtain rfl : f = 10 := Option.some.inj ((show Tryz.prog.funcNamed "gusset/gussetlaw03.FracsLists" = some 10 by kernel_rfl).symm.trans hf) |>.symm
 obtain rfl : fn = Tryz.f10 := (Option.some.inj (Tryz.func10.symm.trans hfn)).symm
 refine ⟨by kernel_rfl, fun j t ht => ?_⟩
 rw [Tryz.params10] at ht
 have hm := Array.mem_of_getElem? ht
 simp only [List.mem_toArray, List.mem_cons, List.not_mem_nil, or_false] at hm
 rcases hm with rfl | rfl
 ·exact (show Tryz.prog.wantsStandIn 112 = false by kernel_rfl)
 ·exact (show Tryz.prog.wantsStandIn 3 = false by kernel_rfl)
end Go.Proofs.YtdmoadfnogdfnaaGreatDoor.fracsLists
namespace Go.Proofs.YtdmoadfnogdfnaaGreatDoor
open Go.ChangeShapes Go.WideShapes Go.ChangeAt Go.RowKit
/-- THE CARD -/
theorem fracsListsProved : Rows.FracsListsCardSaid :=
 Claim7.holds_tied_plain_at .later [] _ _ _ _ fracsLists.said (fun _ h => by cases h) (by kernel_rfl) (fun _ h => by cases h) fracsLists_row_tie rfl ⟨rfl, rfl⟩ (by kernel_rfl) rfl fracsLists.plain (by kernel_rfl)
end Go.Proofs.YtdmoadfnogdfnaaGreatDoor
