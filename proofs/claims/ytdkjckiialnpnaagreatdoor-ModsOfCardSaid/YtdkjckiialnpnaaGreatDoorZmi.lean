/-
  The law answers true at every input, and leaves its arguments as they were: a part of the proof. CONDITIONS: the package-level tables start as the program's text lays them (the card ties them).
-/
import Derived.Test.YtdkjckiialnpnaaGreatDoorZmh
import Derived.Test.YtdkjckiialnpnaaGreatDoorRows
import Derived.Test.YtdkjckiialnpnaaGreatDoorTie
import Derived.Test.YtdkjckiialnpnaaGreatDoorCards
set_option linter.unusedVariables false
set_option linter.unusedSimpArgs false
namespace Go.Proofs.YtdkjckiialnpnaaGreatDoor
theorem pc_HAl : HA 4294967296 (strongT [2, 7, 61]) pcL18 := by
 have h := heads_HA pc_h18 HA_nil
 rwa [List.append_nil] at h
theorem pc_HA : HA 4294967296 (strongT [2, 7, 61]) pcL := heads_HA pc_h0 (heads_HA pc_h1 (heads_HA pc_h2 (heads_HA pc_h3 (heads_HA pc_h4 (heads_HA pc_h5 (heads_HA pc_h6 (heads_HA pc_h7 (heads_HA pc_h8 (heads_HA pc_h9 (heads_HA pc_h10 (heads_HA pc_h11 (heads_HA pc_h12 (heads_HA pc_h13 (heads_HA pc_h14 (heads_HA pc_h15 (heads_HA pc_h16 (heads_HA pc_h17 pc_HAl)))))))))))))))))
/-- Below 2^32 an odd number that passes is a prime. -/
theorem pc_prime {n : Nat} (h1 : 1 < n) (hn : n < 4294967296) (ho : n % 2 = 1) (ht : strongT [2, 7, 61] n = true) : isPr n :=
 passes_prime strongT_pass (by decide) pc_list pc_cov pc_desc pc_prod pc_far pc_tell pc_HA h1 hn ho ht
end Go.Proofs.YtdkjckiialnpnaaGreatDoor
namespace Go.Proofs.YtdkjckiialnpnaaGreatDoor
open Go.RowKit
attribute [local irreducible] rsd subN invV invB prB
theorem not_pr_small : ¬ isPr 0 ∧ ¬ isPr 1 := ⟨fun h => by have := h.1; omega, fun h => by have := h.1; omega⟩
theorem prB_small {n : Nat} (hs : n < 4 ∨ n % 2 = 0) : prB n = decide (n = 2 ∨ n = 3) := by
 by_cases h : n = 2 ∨ n = 3
 ·rw [decide_eq_true h]
  rcases h with rfl | rfl
  ·exact prB_of (isPr_of (n := 0) (by decide) (by decide) (by decide +kernel))
  ·exact prB_of (isPr_of (n := 0) (by decide) (by decide) (by decide +kernel))
 ·rw [decide_eq_false h]
  refine prB_no (fun hp => ?_)
  have h1 := hp.1
  have := pr_odd hp (by omega)
  omega
theorem prime_any (n : Nat) (hn : n < 4294967296) (w : World) (hT : T32 w) :
  Calls Tryz.prog 58 #[.int .u32 (n : Int)] w fun e w' => e = .returned (.bool (prB n)) ∧ Below w.heap.size w w' := by
 by_cases hs : n < 4 ∨ n % 2 = 0
 ·exact prime_small n hs hn _ (prB_small hs) w
 ·exact prime_great n (by omega) (by omega) hn (fun ht => pc_prime (by omega) hn (by omega) ht) w hT
set_option maxHeartbeats 4000000 in
set_option maxRecDepth 100000 in
theorem next_is_any (n q : Nat) (c : Int) (hn : n < 4294967296) (hi : IsNext n q c) (w : World) (hT : T32 w) :
  Calls Tryz.prog 117 #[.int .u32 (n : Int)] w fun e w' => e = .returned (.tuple #[.int .u32 (q : Int), .int .i64 c]) ∧ Below w.heap.size w w' := by
 have HPr := Lib.hid (fun (m : Nat) (hm : m < 4294967296) w hT => prime_any m hm w hT)
 replace hT := Lib.hid hT
 have h1 : (n : Int) % 18446744073709551616 = (n : Int) := by omega
 have h2 : (n : Int) + 1 = ((n + 1 : Nat) : Int) := by omega
 have h3 : ((n + 1 : Nat) : Int) % 18446744073709551616 = ((n + 1 : Nat) : Int) := by omega
 generalize hs : n + 1 = s at *
 replace hs := Lib.hid hs
 replace hi := Lib.hid hi
 go_enter Tryz.func117, Tryz.ntmps117
 go_wp2_with fail
 go_loopw [4] (fun qv wr => ∃ Q : Nat, qv = .int .u64 (Q : Int) ∧ n < Q ∧ Q ≤ 4294967296 ∧ (∀ i, n < i → i < Q → ¬ isPr i) ∧ Below w.heap.size w wr) (fun qv _ => 4294967296 - (intOf qv).toNat)
 case atStart => exact ⟨s, rfl, by rw [← hs.out]; omega, by rw [← hs.out]; omega, fun i g1 g2 => by rw [← hs.out] at g2; omega, Below.refl _ _⟩
 case round =>
  obtain ⟨Q, rfl, hnQ, hQb, hno, hbl⟩ := hrel
  replace hno := Lib.hid hno
  clear h1 h2 h3
  rcases Nat.lt_or_ge Q 2147483648 with hlt | hge
  ·have k1 : (Q : Int) < 2147483648 := by omega
   have k2 : (Q : Int) % 4294967296 = (Q : Int) := by omega
   have hTr := Lib.hid (hT.out.below hbl)
   have H := Lib.hid (HPr.out Q (by omega) wr hTr.out)
   by_cases hp : isPr Q
   ·have hb := prB_of hp
    obtain ⟨rfl, rfl⟩ := hi.out.uniq (show IsNext n Q 0 from .inl ⟨rfl, hnQ, hlt, hp, hno.out⟩)
    rw [hb] at H
    replace hp := Lib.hid hp
    clear hb
    go_wp2_with fail
    with_reducible refine Calls.mono H.out ?_
    rintro e w2 ⟨rfl, hb2⟩
    go_wp2_with fail
    exact bodyPost_ret (v := .tuple #[.int .u32 (q : Int), .int .i64 0]) (by simp [results, Tryz.results117, go_sem]) rfl ⟨rfl, hbl.trans (hb2.mono hbl.size)⟩
   ·have hb := prB_no hp
    have hno2 : ∀ i, n < i → i < Q + 1 → ¬ isPr i := fun i g1 g2 => by
     rcases Nat.lt_or_ge i Q with g | g
     ·exact hno.out i g1 g
     ·obtain rfl : i = Q := by omega
      exact hp
    rw [hb] at H
    replace hno2 := Lib.hid hno2
    clear hb hp
    go_wp2_with fail
    with_reducible refine Calls.mono H.out ?_
    rintro e w2 ⟨rfl, hb2⟩
    have k3 : (Q : Int) + 1 = ((Q + 1 : Nat) : Int) := by omega
    have k4 : ((Q + 1 : Nat) : Int) % 18446744073709551616 = ((Q + 1 : Nat) : Int) := by omega
    generalize hs2 : Q + 1 = Q1 at *
    replace hs2 := Lib.hid hs2
    go_wp2_with fail
    go_roundw
    case rel => exact ⟨Q1, rfl, by rw [← hs2.out]; omega, by rw [← hs2.out]; omega, hno2.out, hbl.trans (hb2.mono hbl.size)⟩
    case measure => simp [intOf]; have := hs2.out; omega
  ·have k1 : ¬ (Q : Int) < 2147483648 := by omega
   obtain ⟨rfl, rfl⟩ := hi.out.uniq (show IsNext n 0 3 from .inr ⟨rfl, rfl, fun i g1 g2 => hno.out i g1 (by omega)⟩)
   go_wp2_with fail
   exact bodyPost_ret (v := .tuple #[.int .u32 ((0 : Nat) : Int), .int .i64 3]) (by simp [results, Tryz.results117, go_sem]) rfl ⟨rfl, hbl⟩
end Go.Proofs.YtdkjckiialnpnaaGreatDoor
namespace Go.Proofs.YtdkjckiialnpnaaGreatDoor
open Go.RowKit
attribute [local irreducible] subN invV invB prB
set_option maxHeartbeats 4000000 in
set_option maxRecDepth 100000 in
theorem rof6_any (n p : Nat) (hn : n < 18446744073709551616) (hp : p < 4294967296) (w : World) :
  Calls Tryz.prog 126 #[.int .u64 (n : Int), .int .u32 (p : Int)] w fun e w' => e = .returned (.int .u32 ((rsd n p : Nat) : Int)) ∧ w' = w := by
 have hr : rsd n p < 4294967296 := Nat.lt_of_le_of_lt (rsd_le n p) hp
 by_cases h0 : p = 0
 ·subst h0
  go_enter Tryz.func126, Tryz.ntmps126
  go_wp2_with fail
  go_ret
  exact ⟨rfl, rfl⟩
 ·have e0 : ((p : Int) == 0) = false := by simp; omega
  have e1 : (p : Int) ≠ 0 := by omega
  have hz : (p : Int) % 18446744073709551616 = (p : Int) := by omega
  have hq : (n : Int) % (p : Int) = ((rsd n p : Nat) : Int) := by rw [rsd_pos h0]; rfl
  have hr2 : ((rsd n p : Nat) : Int) % 4294967296 = ((rsd n p : Nat) : Int) := by omega
  generalize rsd n p = r at *
  go_enter Tryz.func126, Tryz.ntmps126
  go_wp2_with fail
  go_ret
  exact ⟨by first | rfl | (simp [*]), rfl⟩
attribute [local irreducible] rsd
end Go.Proofs.YtdkjckiialnpnaaGreatDoor
namespace Go.Proofs.YtdkjckiialnpnaaGreatDoor
open Go.RowKit Go.Proofs.YtdkjckiialnpnaaGreatDoor.Rx
attribute [local irreducible] lo hs sm s64 c64 d64 b64 mh ml pd pc qd qc val hiB str cmpI srD lz nb isq zl zh zs dval tln rsd
theorem rn_open {w : World} {ao : Option Addr} {c n : Nat} (h : Rn w (.slice ao (tln n) c) n) : 0 < tln n → ∃ a, ao = some a ∧ Sd w a (td n) := by
 intro h0
 obtain ⟨bo, d, e, hv⟩ := Sl.view (show Sl w (.slice ao (tln n) c) (td n) from h)
 have e1 : (td n).length = tln n := by unfold tln; rfl
 obtain ⟨a, h1, -, h2⟩ := hv (by omega)
 simp only [Value.slice.injEq] at e
 exact ⟨a, e.1.trans h1, h2⟩
theorem tv_drop {D : List Nat} {i : Nat} (h : i < D.length) : tv (D.drop i) = tv (D.drop (i + 1)) * 10000 + D[i] := by
 rw [List.drop_eq_getElem_cons h]
 show D[i] + 10000 * tv (D.drop (i + 1)) = _
 omega
theorem tv_drop_le (D : List Nat) : ∀ i, tv (D.drop i) ≤ tv D := by
 intro i
 induction i with
 | zero => rw [List.drop_zero]; exact Nat.le_refl _
 | succ i ih =>
  rcases Nat.lt_or_ge i D.length with h | h
  ·have := tv_drop h; omega
  ·rw [List.drop_eq_nil_of_le (by omega)]; exact Nat.zero_le _
set_option maxHeartbeats 4000000 in
set_option maxRecDepth 100000 in
theorem rofint0_w (x : Int) (p0 : Value) (w : World) (r0 : RZ w p0 x) :
  Calls Tryz.prog 52 #[p0, .int .u32 0] w fun e w' => e = .returned (.int .u32 0) ∧ Below w.heap.size w w' := by
 obtain ⟨a0, c0, rfl⟩ := rz_form r0
 have f0 := Lib.hid (rz_rn r0)
 clear r0
 have hL0 : GL w w [] := GL.start w
 have hS : SS w [] := SS.nil w
 replace hS := (hS.new (.cells #[.bool (zs x), .slice a0 (tln x.natAbs) c0] 40))
 replace hL0 := (hL0.new rfl [.bool (zs x), .slice a0 (tln x.natAbs) c0] 40)
 generalize hweq : (w.alloc (.cells #[.bool (zs x), .slice a0 (tln x.natAbs) c0] 40)) = x1 at hL0 hS
 go_enter Tryz.func52, Tryz.ntmps52
 go_wp2_with fail
 exact bodyPost_ret (v := .int .u32 0) (by simp [results, Tryz.results52, go_sem]) rfl ⟨rfl, hL0.bl⟩
set_option maxHeartbeats 4000000 in
set_option maxRecDepth 100000 in
theorem rofint_w (x q m p : Int) (HO : ∀ (w : World), Calls Tryz.prog 129 #[.int .i64 p] w fun e w' => ∃ pv, e = .returned pv ∧ RZ w' pv p ∧ Below w.heap.size w w') (HD : ∀ (p0 p1 : Value) (w : World), RZ w p0 x → RZ w p1 p → Calls Tryz.prog 133 #[p0, p1] w fun e w' => ∃ v0 v1, e = .returned (.tuple #[v0, v1]) ∧ RZ w' v0 q ∧ RZ w' v1 m ∧ Below w.heap.size w w') (hp0 : (p == 0) = false) (hw : IntKind.i64.wrap p = p) (hm : m.natAbs < 4294967296) (hl : tln m.natAbs ≤ 1000) (p0 : Value) (w : World) (r0 : RZ w p0 x) :
  Calls Tryz.prog 52 #[p0, .int .u32 p] w fun e w' => e = .returned (.int .u32 ((m.natAbs : Nat) : Int)) ∧ Below w.heap.size w w' := by
 obtain ⟨a0, c0, rfl⟩ := rz_form r0
 have f0 := Lib.hid (rz_rn r0)
 clear r0
 replace HO := Lib.hid HO
 replace HD := Lib.hid HD
 have hL0 : GL w w [] := GL.start w
 have hS : SS w [] := SS.nil w
 replace hS := (hS.new (.cells #[.bool (zs x), .slice a0 (tln x.natAbs) c0] 40))
 replace hL0 := (hL0.new rfl [.bool (zs x), .slice a0 (tln x.natAbs) c0] 40)
 generalize hweq : (w.alloc (.cells #[.bool (zs x), .slice a0 (tln x.natAbs) c0] 40)) = x1 at hL0 hS
 go_enter Tryz.func52, Tryz.ntmps52
 go_upto_region 3 with fail
 clear hweq
 refine region_tbl 10 7 [EV (.agg #[.bool (zs x), .slice a0 (tln x.natAbs) c0]), EV (.int .u32 p), EV (.int .i64 p), PZ p, fun pu pw => ∃ pa pb, pu = .tuple #[pa, pb] ∧ RZ pw pa q ∧ RZ pw pb m, fun pu pw => ∃ pa pb, pu = .tuple #[pa, pb] ∧ RZ pw pa q ∧ RZ pw pb m, PZ q, PZ m, NewB x1.heap.size [.bool false, .slice none 0 0], NewB x1.heap.size [.bool false, .slice none 0 0]] [8, 9] (by kernel_rfl) (by kernel_rfl) ?_ ?_ ?_ ?_ ?_ (by rfl) ?_
 ·exact stays_cons (stays_eq _) (stays_cons (stays_eq _) (stays_cons (stays_eq _) (stays_cons (stays_rz _) (stays_cons (stays_rz2 _ _) (stays_cons (stays_rz2 _ _) (stays_cons (stays_rz _) (stays_cons (stays_rz _) (stays_cons (stays_new _ _) (stays_cons (stays_new _ _) (stays_nil))))))))))
 ·simp only [List.take_succ_cons, List.take_zero, hopsR, and_true]
  refine ⟨?_, ?_, ?_, ?_, ?_, ?_, ?_, ?_, ?_, ?_⟩ <;> intro fv w1 hb1 hp
  all_goals (simp only [putsV, Act.put, List.setIfInBounds_toArray, List.set_cons_succ, List.set_cons_zero, Nat.zero_add, Nat.reduceAdd])
  ·refine tyAt_none rfl ?_
   have hc := (hL0.call (below_drew hb1)).fc
   simp only [fcG, cellsF, neK, and_true, ne_eq, Nat.zero_add, Nat.reduceAdd] at hc
   simp [tyUpon, execOp, go_sem, Act.eval, hc, hw, Below.refl]
  ·refine tyAt_none rfl ?_
   simp [tyUpon, execOp, go_sem, Act.eval, hw, Below.refl]
  ·have h1 : EV _ (fv 1) w1 := hp 1 (LC (by kernel_rfl))
   refine tyAt_none rfl ?_
   simp [tyUpon, execOp, go_sem, Act.eval, h1, hw, Below.refl]
  ·have h2 : EV _ (fv 2) w1 := hp 2 (LC (by kernel_rfl))
   refine tyAt_none rfl ?_
   refine ty_call (f := 129) (args := #[.int .i64 p]) (by simp [execOp, go_sem, Act.eval, h2]) ?_
   exact (HO.out w1).mono fun e w2 ⟨pv, h1, h2, h3⟩ => ⟨pv, h1, h2, h3⟩
  ·have h0 : EV _ (fv 0) w1 := hp 0 (LC (by kernel_rfl))
   have h3 : PZ _ (fv 3) w1 := hp 3 (LC (by kernel_rfl))
   refine tyAt_none rfl ?_
   refine ty_call (f := 133) (args := #[.agg #[.bool (zs x), .slice a0 (tln x.natAbs) c0], fv 3]) (by simp [execOp, go_sem, Act.eval, h0]) ?_
   exact (HD.out (.agg #[.bool (zs x), .slice a0 (tln x.natAbs) c0]) (fv 3) w1 (rz_of (Sl.below (Sl.below f0.out hL0.bl) (below_drew hb1))) h3).mono fun e w2 ⟨pa, pb, h1, h2, h3, h4⟩ => ⟨_, h1, ⟨pa, pb, rfl, h2, h3⟩, h4⟩
  ·have h4 : (fun pu pw => ∃ pa pb, pu = .tuple #[pa, pb] ∧ RZ pw pa q ∧ RZ pw pb m) (fv 4) w1 := hp 4 (LC (by kernel_rfl))
   refine tyAt_none rfl ?_
   obtain ⟨pa, pb, pe, pz1, pz2⟩ := h4
   simp [tyUpon, execOp, go_sem, Act.eval, pe, Below.refl]
   first | exact ⟨pz1, pz2⟩ | exact ⟨_, _, ⟨rfl, rfl⟩, pz1, pz2⟩ | exact ⟨_, _, rfl, pz1, pz2⟩
  ·have h5 : (fun pu pw => ∃ pa pb, pu = .tuple #[pa, pb] ∧ RZ pw pa q ∧ RZ pw pb m) (fv 5) w1 := hp 5 (LC (by kernel_rfl))
   refine tyAt_none rfl ?_
   obtain ⟨pa, pb, pe, pz0, pz1⟩ := h5
   simp [tyUpon, execOp, go_sem, Act.eval, pe, Below.refl]
   exact pz0
  ·have h5 : (fun pu pw => ∃ pa pb, pu = .tuple #[pa, pb] ∧ RZ pw pa q ∧ RZ pw pb m) (fv 5) w1 := hp 5 (LC (by kernel_rfl))
   refine tyAt_none rfl ?_
   obtain ⟨pa, pb, pe, pz0, pz1⟩ := h5
   simp [tyUpon, execOp, go_sem, Act.eval, pe, Below.refl]
   exact pz1
  ·exact tyAt_new rfl rfl new_rz (below_drew hb1).size
  ·exact tyAt_new rfl rfl new_rz (below_drew hb1).size
 ·intro j hj u w2 hT
  simp only [List.contains_iff_mem, List.mem_cons, List.not_mem_nil, or_false] at hj
  rcases hj with rfl | rfl <;> exact NewB.ptr hT
 ·exact ⟨⟨_, _, _, _, rfl, rfl, rfl, new_rz⟩, ⟨_, _, _, _, rfl, rfl, rfl, new_rz⟩, trivial⟩
 ·intro fv wl hb1 hv
  have e0 : fv 0 = .agg #[.bool (zs x), .slice a0 (tln x.natAbs) c0] := hv 0 (by omega) (by omega)
  have e1 : fv 1 = .int .u32 p := hv 1 (by omega) (by omega)
  have e2 : fv 2 = .int .i64 p := hv 2 (by omega) (by omega)
  obtain ⟨lg3, ld3, e3⟩ := rz_form (show RZ wl (fv 3) p from hv 3 (by omega) (by omega))
  obtain ⟨pa4, pb4, e4, qa4, qb4⟩ := hv 4 (by omega) (by omega)
  obtain ⟨pa5, pb5, e5, qa5, qb5⟩ := hv 5 (by omega) (by omega)
  obtain ⟨lg6, ld6, e6⟩ := rz_form (show RZ wl (fv 6) q from hv 6 (by omega) (by omega))
  obtain ⟨kb8, e8, n8, m8⟩ : NewB x1.heap.size [.bool false, .slice none 0 0] (fv 8) wl := hv 8 (by omega) (by omega)
  obtain ⟨kb9, e9, n9, m9⟩ : NewB x1.heap.size [.bool false, .slice none 0 0] (fv 9) wl := hv 9 (by omega) (by omega)
  have hx0 := hL0
  replace hL0 := hL0.call (below_drew hb1)
  replace hL0 := GL.tnew (M := []) hL0 hx0 n8 m8 (fun p hp => by cases hp)
  simp only [List.cons_append, List.nil_append] at hL0
  have hA := hL0.fc
  simp only [fcG, cellsF, neK, and_true, ne_eq, Nat.zero_add, Nat.reduceAdd] at hA
  have hP := hL0.put 0 (kb8) _ rfl [.bool (zs q), .slice lg6 (tln q.natAbs) ld6] rfl
  simp only [setAll, List.set_cons_zero, List.set_cons_succ] at hP
  have hB1 := hP.fc
  simp only [fcG, cellsF, neK, and_true, ne_eq, Nat.zero_add, Nat.reduceAdd] at hB1
  refine ⟨((wl.setCell ⟨kb8, 0, none⟩ (.bool (zs q))).setCell ⟨kb8, 1, none⟩ (.slice lg6 (tln q.natAbs) ld6)), pb5, fun o ho => ?_, fun o ho => ?_, ?_⟩
  ·obtain rfl := Option.some.inj ho
   simp [execOp, go_sem, Act.eval, putsV, Act.put, List.take_succ_cons, List.take_zero, List.setIfInBounds_toArray, List.set_cons_succ, List.set_cons_zero, Nat.zero_add, Nat.reduceAdd, hA, e0, e1, e2, e3, e4, e5, e6, e8, e9]
  ·obtain rfl := Option.some.inj ho
   simp [execOp, go_sem, Act.eval, putsV, Act.put, List.take_succ_cons, List.take_zero, List.setIfInBounds_toArray, List.set_cons_succ, List.set_cons_zero, Nat.zero_add, Nat.reduceAdd, hB1, e0, e1, e2, e3, e4, e5, e6, e8, e9]
  ·exact qb5
 ·intro fv x2 hb1 hv hne
  have e0 : fv 0 = _ := hv 0 (by omega)
  have e1 : fv 1 = _ := hv 1 (by omega)
  have e2 : fv 2 = _ := hv 2 (by omega)
  have q3 : RZ x2 (fv 3) p := hv 3 (by omega)
  obtain ⟨g1, d1, e3⟩ := rz_form q3
  rw [e3] at q3
  obtain ⟨pa4, pb4, e4, q4, -⟩ := hv 4 (by omega)
  obtain ⟨pa5, pb5, e5, q5, -⟩ := hv 5 (by omega)
  have q6 : RZ x2 (fv 6) q := hv 6 (by omega)
  obtain ⟨g2, d2, e6⟩ := rz_form q6
  rw [e6] at q6
  have q7 : RZ x2 (fv 7) m := hv 7 (by omega)
  obtain ⟨g3, d3, e7⟩ := rz_form q7
  rw [e7] at q7
  obtain ⟨kb8, e8, n8, m8⟩ : NewB x1.heap.size [.bool false, .slice none 0 0] (fv 8) x2 := hv 8 (by omega)
  obtain ⟨kb9, e9, n9, m9⟩ : NewB x1.heap.size [.bool false, .slice none 0 0] (fv 9) x2 := hv 9 (by omega)
  simp only [List.take_succ_cons, List.take_zero, putsV, Act.put, List.setIfInBounds_toArray, List.set_cons_succ, List.set_cons_zero, List.drop_succ_cons, List.drop_zero, Nat.zero_add, Nat.reduceAdd, e0, e1, e2, e3, e4, e5, e6, e7, e8, e9]
  have hx0 := hL0
  replace hL0 := hL0.call (below_drew hb1)
  replace hS := hS.call (below_drew hb1)
  replace hL0 := GL.tnew (M := []) hL0 hx0 n8 m8 (fun p hp => by cases hp)
  replace hL0 := GL.tnew (M := [(kb8, [.bool false, .slice none 0 0])]) hL0 hx0 n9 m9 (by intro p hp; simp only [List.mem_cons, List.not_mem_nil, or_false] at hp; rcases hp with rfl; exact ptr_ne e8 e9 (hne 8 9 (by omega) (by omega) (by omega) rfl rfl))
  simp only [List.cons_append, List.nil_append] at hL0
  replace hS := hS.cons (rz_rn q3)
  replace hS := hS.cons (rz_rn q6)
  replace hS := hS.cons (rz_rn q7)
  clear e0 e1 e2 e3 e4 e5 e6 e7 e8 e9 hb1 hv hne hx0 n8 m8 n9 m9 q3 q4 q5 q6 q7 fv
  have hS1 := hS.put (((Upd.refl kb8 x2).setCell 0 (.bool (zs q))).setCell 1 (.slice g2 (tln q.natAbs) d2)) (hL0.get _ _ (List.mem_cons_of_mem _ List.mem_cons_self)) (by intro v hv n; simp only [List.mem_cons, List.not_mem_nil, or_false] at hv; rcases hv with rfl | rfl <;> simp)
  have hA := hL0.fc
  simp only [fcG, cellsF, neK, and_true, ne_eq, Nat.zero_add, Nat.reduceAdd] at hA
  have hP := hL0.put 1 (kb8) _ rfl [.bool (zs q), .slice g2 (tln q.natAbs) d2] rfl
  simp only [setAll, List.set_cons_zero, List.set_cons_succ] at hP
  generalize hput1 : ((x2.setCell ⟨kb8, 0, none⟩ (.bool (zs q))).setCell ⟨kb8, 1, none⟩ (.slice g2 (tln q.natAbs) d2)) = x3 at hP hS1
  have hB1 := hP.fc
  simp only [fcG, cellsF, neK, and_true, ne_eq, Nat.zero_add, Nat.reduceAdd] at hB1
  replace hL0 := hP
  replace hS := hS1
  clear hS1
  have hS1 := hS.put (((Upd.refl kb9 x3).setCell 0 (.bool (zs m))).setCell 1 (.slice g3 (tln m.natAbs) d3)) (hL0.get _ _ List.mem_cons_self) (by intro v hv n; simp only [List.mem_cons, List.not_mem_nil, or_false] at hv; rcases hv with rfl | rfl <;> simp)
  have hP := hL0.put 0 (kb9) _ rfl [.bool (zs m), .slice g3 (tln m.natAbs) d3] rfl
  simp only [setAll, List.set_cons_zero, List.set_cons_succ] at hP
  generalize hput2 : ((x3.setCell ⟨kb9, 0, none⟩ (.bool (zs m))).setCell ⟨kb9, 1, none⟩ (.slice g3 (tln m.natAbs) d3)) = x4 at hP hS1
  have hB2 := hP.fc
  simp only [fcG, cellsF, neK, and_true, ne_eq, Nat.zero_add, Nat.reduceAdd] at hB2
  replace hL0 := hP
  replace hS := hS1
  clear hS1
  have hR := rn_open (hS.get List.mem_cons_self)
  have hD := td_lt m.natAbs
  have hv := tv_td m.natAbs
  have hlen : (td m.natAbs).length = tln m.natAbs := by unfold tln; rfl
  have hle := tv_drop_le (td m.natAbs)
  generalize td m.natAbs = D at hR hD hv hlen hle
  replace hR := Lib.hid hR
  replace hD := Lib.hid hD
  replace hv := Lib.hid hv
  replace hlen := Lib.hid hlen
  replace hle := Lib.hid hle
  go_wp2_with fail
  go_loopw [7, 8] (fun nv iv wr => ∃ j : Nat, j ≤ tln m.natAbs ∧ iv = .int .i64 ((j : Int) - 1) ∧ nv = .int .u64 ((tv (D.drop j) : Nat) : Int) ∧ wr = x4) (fun _ iv _ => (intOf iv + 1).toNat)
  case atStart => exact ⟨tln m.natAbs, Nat.le_refl _, by first | rfl | go_num, by rw [List.drop_eq_nil_of_le (by rw [hlen.out]; exact Nat.le_refl _)]; rfl, rfl⟩
  case round =>
   obtain ⟨j, hj, rfl, rfl, rfl⟩ := hrel
   cases j with
   | zero =>
    rw [List.drop_zero, hv.out]
    have e2 : ((m.natAbs : Nat) : Int) % 4294967296 = ((m.natAbs : Nat) : Int) := by omega
    go_wp2_with fail
    go_ret
    exact ⟨rfl, hL0.bl⟩
   | succ i =>
    have hbl0 := hL0.bl
    obtain ⟨aA, rfl, sA⟩ := hR.out (by omega)
    have iA : i < D.length := by rw [hlen.out]; omega
    have cA := sA.cell i iA
    have hs := tv_drop iA
    have hb := hle.out i
    rw [hv.out] at hb
    generalize D[i] = x at cA hs
    generalize hy : tv (D.drop (i + 1)) = y at hs ⊢
    generalize hz : tv (D.drop i) = z at hs hb
    replace hy := Lib.hid hy
    replace hz := Lib.hid hz
    have e1 : (((i + 1 : Nat) : Int) - 1) = (i : Int) := by omega
    have hin : (i : Int) < ((tln m.natAbs : Nat) : Int) := by omega
    have q0 : (i : Int) ≤ 1000 := by omega
    have q1 : (y : Int) * 10000 = ((y * 10000 : Nat) : Int) := by omega
    have q2 : ((y * 10000 : Nat) : Int) % 18446744073709551616 = ((y * 10000 : Nat) : Int) := by omega
    have q3 : (x : Int) % 18446744073709551616 = (x : Int) := by omega
    have q4 : ((y * 10000 : Nat) : Int) + (x : Int) = (z : Int) := by omega
    have q5 : (z : Int) % 18446744073709551616 = (z : Int) := by omega
    generalize y * 10000 = yy at *
    replace hs := Lib.hid hs
    clear sA
    rw [e1]
    go_wp2_with fail
    go_roundw
    case rel => exact ⟨i, by omega, by first | rfl | go_num, by rw [hz.out], by first | rfl | trivial⟩
    case measure => simp [intOf]
set_option maxHeartbeats 4000000 in
set_option maxRecDepth 100000 in
theorem rinv0_w (a : Int) (w : World) :
  Calls Tryz.prog 124 #[.int .u32 a, .int .u32 0] w fun e w' => e = .returned (.tuple #[.int .u32 0, .bool false]) ∧ Below w.heap.size w w' := by
 have hL0 : GL w w [] := GL.start w
 have hS : SS w [] := SS.nil w
 go_enter Tryz.func124, Tryz.ntmps124
 go_wp2_with fail
 exact bodyPost_ret (v := .tuple #[.int .u32 0, .bool false]) (by simp [results, Tryz.results124, go_sem]) rfl ⟨rfl, hL0.bl⟩
set_option maxHeartbeats 4000000 in
set_option maxRecDepth 100000 in
theorem rinv1_w (a : Int) (w : World) :
  Calls Tryz.prog 124 #[.int .u32 a, .int .u32 1] w fun e w' => e = .returned (.tuple #[.int .u32 0, .bool true]) ∧ Below w.heap.size w w' := by
 have hL0 : GL w w [] := GL.start w
 have hS : SS w [] := SS.nil w
 go_enter Tryz.func124, Tryz.ntmps124
 go_wp2_with fail
 exact bodyPost_ret (v := .tuple #[.int .u32 0, .bool true]) (by simp [results, Tryz.results124, go_sem]) rfl ⟨rfl, hL0.bl⟩
set_option maxHeartbeats 4000000 in
set_option maxRecDepth 100000 in
theorem rinv_no (a p r g x y c : Int) (H0 : ∀ w, Calls Tryz.prog 126 #[.int .u64 a, .int .u32 p] w fun xe w' => xe = .returned (.int .u32 r) ∧ Below w.heap.size w w') (HO : ∀ (w : World), Calls Tryz.prog 129 #[.int .i64 r] w fun e w' => ∃ pv, e = .returned pv ∧ RZ w' pv r ∧ Below w.heap.size w w') (HP : ∀ (w : World), Calls Tryz.prog 129 #[.int .i64 p] w fun e w' => ∃ pv, e = .returned pv ∧ RZ w' pv p ∧ Below w.heap.size w w') (HG : ∀ (p0 p1 : Value) (w : World), RZ w p0 r → RZ w p1 p → Calls Tryz.prog 187 #[p0, p1] w fun e w' => ∃ v0 v1 v2, e = .returned (.tuple #[v0, v1, v2]) ∧ RZ w' v0 g ∧ RZ w' v1 x ∧ RZ w' v2 y ∧ Below w.heap.size w w') (H1 : ∀ (w : World), Calls Tryz.prog 129 #[.int .i64 1] w fun e w' => ∃ pv, e = .returned pv ∧ RZ w' pv 1 ∧ Below w.heap.size w w') (HC : ∀ (p0 p1 : Value) (w : World), RZ w p0 g → RZ w p1 1 → Calls Tryz.prog 188 #[p0, p1] w fun e w' => e = .returned (.int .i64 c) ∧ Below w.heap.size w w') (hp0 : (p == 0) = false) (hp1 : (p == 1) = false) (ha : a % 18446744073709551616 = a) (hr : IntKind.i64.wrap r = r) (hw : IntKind.i64.wrap p = p) (hc : (c != 0) = true) (hc2 : c ≠ 0) (w : World) :
  Calls Tryz.prog 124 #[.int .u32 a, .int .u32 p] w fun e w' => e = .returned (.tuple #[.int .u32 0, .bool false]) ∧ Below w.heap.size w w' := by
 replace H0 := Lib.hid H0
 replace HO := Lib.hid HO
 replace HP := Lib.hid HP
 replace HG := Lib.hid HG
 replace H1 := Lib.hid H1
 replace HC := Lib.hid HC
 have hL0 : GL w w [] := GL.start w
 have hS : SS w [] := SS.nil w
 go_enter Tryz.func124, Tryz.ntmps124
 go_wp2_with fail
 with_reducible refine Calls.mono (H0.out _) ?_
 rintro e x1 ⟨rfl, hb⟩
 replace hL0 := hL0.call hb
 replace hS := hS.call hb
 clear hb
 go_wp2_with fail
 with_reducible refine Calls.mono (HO.out _) ?_
 rintro e x2 ⟨v0, rfl, q0, hb⟩
 replace hL0 := hL0.call hb
 replace hS := hS.call hb
 clear hb
 obtain ⟨g1, d1, rfl⟩ := rz_form q0
 replace hS := hS.cons (rz_rn q0)
 clear q0
 go_wp2_with fail
 with_reducible refine Calls.mono (HP.out _) ?_
 rintro e x3 ⟨v0, rfl, q0, hb⟩
 replace hL0 := hL0.call hb
 replace hS := hS.call hb
 clear hb
 obtain ⟨g2, d2, rfl⟩ := rz_form q0
 replace hS := hS.cons (rz_rn q0)
 clear q0
 go_wp2_with fail
 with_reducible refine Calls.mono (HG.out (.agg #[.bool (zs r), .slice g1 (tln r.natAbs) d1]) (.agg #[.bool (zs p), .slice g2 (tln p.natAbs) d2]) _ (rz_of (hS.get (List.mem_cons_of_mem _ List.mem_cons_self))) (rz_of (hS.get List.mem_cons_self))) ?_
 rintro e x4 ⟨v0, v1, v2, rfl, q0, q1, q2, hb⟩
 replace hL0 := hL0.call hb
 replace hS := hS.call hb
 clear hb
 obtain ⟨g3, d3, rfl⟩ := rz_form q0
 replace hS := hS.cons (rz_rn q0)
 clear q0
 obtain ⟨g4, d4, rfl⟩ := rz_form q1
 replace hS := hS.cons (rz_rn q1)
 clear q1
 obtain ⟨g5, d5, rfl⟩ := rz_form q2
 replace hS := hS.cons (rz_rn q2)
 clear q2
 replace hS := (((hS.new (.cells #[.bool (zs g), .slice g3 (tln g.natAbs) d3] 40)).new (.cells #[.bool (zs x), .slice g4 (tln x.natAbs) d4] 40)).new (.cells #[.bool (zs y), .slice g5 (tln y.natAbs) d5] 40))
 replace hL0 := (((hL0.new rfl [.bool (zs g), .slice g3 (tln g.natAbs) d3] 40).new (K := x4.heap.size + 1) (szA _ _) [.bool (zs x), .slice g4 (tln x.natAbs) d4] 40).new (K := x4.heap.size + 1 + 1) (by simp only [World.size_alloc]) [.bool (zs y), .slice g5 (tln y.natAbs) d5] 40)
 generalize hweq : (((x4.alloc (.cells #[.bool (zs g), .slice g3 (tln g.natAbs) d3] 40)).alloc (.cells #[.bool (zs x), .slice g4 (tln x.natAbs) d4] 40)).alloc (.cells #[.bool (zs y), .slice g5 (tln y.natAbs) d5] 40)) = x5 at hL0 hS
 go_upto_region 6 with fail
 clear hweq
 refine region_tl 4 [EV (.agg #[.bool (zs g), .slice g3 (tln g.natAbs) d3]), PZ 1, EV (.int .i64 c), EV (.bool true)] (by kernel_rfl) (by kernel_rfl) ?_ ?_ ?_
 ·exact stays_cons (stays_eq _) (stays_cons (stays_rz _) (stays_cons (stays_eq _) (stays_cons (stays_eq _) (stays_nil))))
 ·simp only [List.take_succ_cons, List.take_zero, hopsR, and_true]
  refine ⟨?_, ?_, ?_, ?_⟩ <;> intro fv w1 hb1 hp
  all_goals (simp only [putsV, Act.put, List.setIfInBounds_toArray, List.set_cons_succ, List.set_cons_zero, Nat.zero_add, Nat.reduceAdd])
  ·refine tyAt_none rfl ?_
   have hc := (hL0.call (below_drew hb1)).fc
   simp only [fcG, cellsF, neK, and_true, ne_eq, Nat.zero_add, Nat.reduceAdd] at hc
   simp [tyUpon, execOp, go_sem, Act.eval, hc, hc2, Below.refl]
  ·refine tyAt_none rfl ?_
   refine ty_call (f := 129) (args := #[.int .i64 1]) (by simp [execOp, go_sem, Act.eval]) ?_
   exact (H1.out w1).mono fun e w2 ⟨pv, h1, h2, h3⟩ => ⟨pv, h1, h2, h3⟩
  ·have h0 : EV _ (fv 0) w1 := hp 0 (LC (by kernel_rfl))
   have h1 : PZ _ (fv 1) w1 := hp 1 (LC (by kernel_rfl))
   refine tyAt_none rfl ?_
   refine ty_call (f := 188) (args := #[.agg #[.bool (zs g), .slice g3 (tln g.natAbs) d3], fv 1]) (by simp [execOp, go_sem, Act.eval, h0]) ?_
   exact (HC.out (.agg #[.bool (zs g), .slice g3 (tln g.natAbs) d3]) (fv 1) w1 (rz_of (Sl.below (hS.get (List.mem_cons_of_mem _ (List.mem_cons_of_mem _ List.mem_cons_self))) (below_drew hb1))) h1).mono fun e w2 ⟨h1, h2⟩ => ⟨_, h1, rfl, h2⟩
  ·have h2 : EV _ (fv 2) w1 := hp 2 (LC (by kernel_rfl))
   refine tyAt_none rfl ?_
   simp [tyUpon, execOp, go_sem, Act.eval, h2, hc2, Below.refl]
 ·intro fv x6 hb1 hv
  have e0 : fv 0 = _ := hv 0 (by omega)
  have q1 : RZ x6 (fv 1) 1 := hv 1 (by omega)
  obtain ⟨g6, d6, e1⟩ := rz_form q1
  rw [e1] at q1
  have e2 : fv 2 = _ := hv 2 (by omega)
  have e3 : fv 3 = _ := hv 3 (by omega)
  simp only [List.take_succ_cons, List.take_zero, putsV, Act.put, List.setIfInBounds_toArray, List.set_cons_succ, List.set_cons_zero, List.drop_succ_cons, List.drop_zero, Nat.zero_add, Nat.reduceAdd, e0, e1, e2, e3]
  replace hL0 := hL0.call (below_drew hb1)
  replace hS := hS.call (below_drew hb1)
  replace hS := hS.cons (rz_rn q1)
  clear e0 e1 e2 e3 hb1 hv q1 fv
  go_wp2_with fail
  exact bodyPost_ret (v := .tuple #[.int .u32 0, .bool false]) (by simp [results, Tryz.results124, go_sem]) rfl ⟨rfl, hL0.bl⟩
set_option maxHeartbeats 4000000 in
set_option maxRecDepth 100000 in
theorem rinv_yes (a p r g x y v : Int) (H0 : ∀ w, Calls Tryz.prog 126 #[.int .u64 a, .int .u32 p] w fun xe w' => xe = .returned (.int .u32 r) ∧ Below w.heap.size w w') (HO : ∀ (w : World), Calls Tryz.prog 129 #[.int .i64 r] w fun e w' => ∃ pv, e = .returned pv ∧ RZ w' pv r ∧ Below w.heap.size w w') (HP : ∀ (w : World), Calls Tryz.prog 129 #[.int .i64 p] w fun e w' => ∃ pv, e = .returned pv ∧ RZ w' pv p ∧ Below w.heap.size w w') (HG : ∀ (p0 p1 : Value) (w : World), RZ w p0 r → RZ w p1 p → Calls Tryz.prog 187 #[p0, p1] w fun e w' => ∃ v0 v1 v2, e = .returned (.tuple #[v0, v1, v2]) ∧ RZ w' v0 g ∧ RZ w' v1 x ∧ RZ w' v2 y ∧ Below w.heap.size w w') (H1 : ∀ (w : World), Calls Tryz.prog 129 #[.int .i64 1] w fun e w' => ∃ pv, e = .returned pv ∧ RZ w' pv 1 ∧ Below w.heap.size w w') (HC : ∀ (p0 p1 : Value) (w : World), RZ w p0 g → RZ w p1 1 → Calls Tryz.prog 188 #[p0, p1] w fun e w' => e = .returned (.int .i64 0) ∧ Below w.heap.size w w') (HI : ∀ (p0 : Value) (w : World), RZ w p0 x → Calls Tryz.prog 52 #[p0, .int .u32 p] w fun e w' => e = .returned (.int .u32 v) ∧ Below w.heap.size w w') (hp0 : (p == 0) = false) (hp1 : (p == 1) = false) (ha : a % 18446744073709551616 = a) (hr : IntKind.i64.wrap r = r) (hw : IntKind.i64.wrap p = p) (w : World) :
  Calls Tryz.prog 124 #[.int .u32 a, .int .u32 p] w fun e w' => e = .returned (.tuple #[.int .u32 v, .bool true]) ∧ Below w.heap.size w w' := by
 replace H0 := Lib.hid H0
 replace HO := Lib.hid HO
 replace HP := Lib.hid HP
 replace HG := Lib.hid HG
 replace H1 := Lib.hid H1
 replace HC := Lib.hid HC
 replace HI := Lib.hid HI
 have hL0 : GL w w [] := GL.start w
 have hS : SS w [] := SS.nil w
 go_enter Tryz.func124, Tryz.ntmps124
 go_wp2_with fail
 with_reducible refine Calls.mono (H0.out _) ?_
 rintro e x1 ⟨rfl, hb⟩
 replace hL0 := hL0.call hb
 replace hS := hS.call hb
 clear hb
 go_wp2_with fail
 with_reducible refine Calls.mono (HO.out _) ?_
 rintro e x2 ⟨v0, rfl, q0, hb⟩
 replace hL0 := hL0.call hb
 replace hS := hS.call hb
 clear hb
 obtain ⟨g1, d1, rfl⟩ := rz_form q0
 replace hS := hS.cons (rz_rn q0)
 clear q0
 go_wp2_with fail
 with_reducible refine Calls.mono (HP.out _) ?_
 rintro e x3 ⟨v0, rfl, q0, hb⟩
 replace hL0 := hL0.call hb
 replace hS := hS.call hb
 clear hb
 obtain ⟨g2, d2, rfl⟩ := rz_form q0
 replace hS := hS.cons (rz_rn q0)
 clear q0
 go_wp2_with fail
 with_reducible refine Calls.mono (HG.out (.agg #[.bool (zs r), .slice g1 (tln r.natAbs) d1]) (.agg #[.bool (zs p), .slice g2 (tln p.natAbs) d2]) _ (rz_of (hS.get (List.mem_cons_of_mem _ List.mem_cons_self))) (rz_of (hS.get List.mem_cons_self))) ?_
 rintro e x4 ⟨v0, v1, v2, rfl, q0, q1, q2, hb⟩
 replace hL0 := hL0.call hb
 replace hS := hS.call hb
 clear hb
 obtain ⟨g3, d3, rfl⟩ := rz_form q0
 replace hS := hS.cons (rz_rn q0)
 clear q0
 obtain ⟨g4, d4, rfl⟩ := rz_form q1
 replace hS := hS.cons (rz_rn q1)
 clear q1
 obtain ⟨g5, d5, rfl⟩ := rz_form q2
 replace hS := hS.cons (rz_rn q2)
 clear q2
 replace hS := (((hS.new (.cells #[.bool (zs g), .slice g3 (tln g.natAbs) d3] 40)).new (.cells #[.bool (zs x), .slice g4 (tln x.natAbs) d4] 40)).new (.cells #[.bool (zs y), .slice g5 (tln y.natAbs) d5] 40))
 replace hL0 := (((hL0.new rfl [.bool (zs g), .slice g3 (tln g.natAbs) d3] 40).new (K := x4.heap.size + 1) (szA _ _) [.bool (zs x), .slice g4 (tln x.natAbs) d4] 40).new (K := x4.heap.size + 1 + 1) (by simp only [World.size_alloc]) [.bool (zs y), .slice g5 (tln y.natAbs) d5] 40)
 generalize hweq : (((x4.alloc (.cells #[.bool (zs g), .slice g3 (tln g.natAbs) d3] 40)).alloc (.cells #[.bool (zs x), .slice g4 (tln x.natAbs) d4] 40)).alloc (.cells #[.bool (zs y), .slice g5 (tln y.natAbs) d5] 40)) = x5 at hL0 hS
 go_upto_region 6 with fail
 clear hweq
 refine region_tl 4 [EV (.agg #[.bool (zs g), .slice g3 (tln g.natAbs) d3]), PZ 1, EV (.int .i64 0), EV (.bool false)] (by kernel_rfl) (by kernel_rfl) ?_ ?_ ?_
 ·exact stays_cons (stays_eq _) (stays_cons (stays_rz _) (stays_cons (stays_eq _) (stays_cons (stays_eq _) (stays_nil))))
 ·simp only [List.take_succ_cons, List.take_zero, hopsR, and_true]
  refine ⟨?_, ?_, ?_, ?_⟩ <;> intro fv w1 hb1 hp
  all_goals (simp only [putsV, Act.put, List.setIfInBounds_toArray, List.set_cons_succ, List.set_cons_zero, Nat.zero_add, Nat.reduceAdd])
  ·refine tyAt_none rfl ?_
   have hc := (hL0.call (below_drew hb1)).fc
   simp only [fcG, cellsF, neK, and_true, ne_eq, Nat.zero_add, Nat.reduceAdd] at hc
   simp [tyUpon, execOp, go_sem, Act.eval, hc, Below.refl]
  ·refine tyAt_none rfl ?_
   refine ty_call (f := 129) (args := #[.int .i64 1]) (by simp [execOp, go_sem, Act.eval]) ?_
   exact (H1.out w1).mono fun e w2 ⟨pv, h1, h2, h3⟩ => ⟨pv, h1, h2, h3⟩
  ·have h0 : EV _ (fv 0) w1 := hp 0 (LC (by kernel_rfl))
   have h1 : PZ _ (fv 1) w1 := hp 1 (LC (by kernel_rfl))
   refine tyAt_none rfl ?_
   refine ty_call (f := 188) (args := #[.agg #[.bool (zs g), .slice g3 (tln g.natAbs) d3], fv 1]) (by simp [execOp, go_sem, Act.eval, h0]) ?_
   exact (HC.out (.agg #[.bool (zs g), .slice g3 (tln g.natAbs) d3]) (fv 1) w1 (rz_of (Sl.below (hS.get (List.mem_cons_of_mem _ (List.mem_cons_of_mem _ List.mem_cons_self))) (below_drew hb1))) h1).mono fun e w2 ⟨h1, h2⟩ => ⟨_, h1, rfl, h2⟩
  ·have h2 : EV _ (fv 2) w1 := hp 2 (LC (by kernel_rfl))
   refine tyAt_none rfl ?_
   simp [tyUpon, execOp, go_sem, Act.eval, h2, Below.refl]
 ·intro fv x6 hb1 hv
  have e0 : fv 0 = _ := hv 0 (by omega)
  have q1 : RZ x6 (fv 1) 1 := hv 1 (by omega)
  obtain ⟨g6, d6, e1⟩ := rz_form q1
  rw [e1] at q1
  have e2 : fv 2 = _ := hv 2 (by omega)
  have e3 : fv 3 = _ := hv 3 (by omega)
  simp only [List.take_succ_cons, List.take_zero, putsV, Act.put, List.setIfInBounds_toArray, List.set_cons_succ, List.set_cons_zero, List.drop_succ_cons, List.drop_zero, Nat.zero_add, Nat.reduceAdd, e0, e1, e2, e3]
  replace hL0 := hL0.call (below_drew hb1)
  replace hS := hS.call (below_drew hb1)
  replace hS := hS.cons (rz_rn q1)
  clear e0 e1 e2 e3 hb1 hv q1 fv
  have hN0 := cells_of _ 0 [] rfl (hL0.get _ _ (List.mem_cons_of_mem _ List.mem_cons_self))
  simp only [cellsF, and_true, Nat.zero_add, Nat.reduceAdd] at hN0
  go_wp2_with fail
  clear hN0
  with_reducible refine Calls.mono (HI.out (.agg #[.bool (zs x), .slice g4 (tln x.natAbs) d4]) _ (rz_of (hS.get (List.mem_cons_of_mem _ (List.mem_cons_of_mem _ List.mem_cons_self))))) ?_
  rintro e x7 ⟨rfl, hb⟩
  replace hL0 := hL0.call hb
  replace hS := hS.call hb
  clear hb
  go_wp2_with fail
  exact bodyPost_ret (v := .tuple #[.int .u32 v, .bool true]) (by simp [results, Tryz.results124, go_sem]) rfl ⟨rfl, hL0.bl⟩
end Go.Proofs.YtdkjckiialnpnaaGreatDoor
namespace Go.Proofs.YtdkjckiialnpnaaGreatDoor
open Go.RowKit
attribute [local irreducible] lo hs sm s64 c64 d64 b64 mh ml pd pc qd qc val hiB str cmpI srD lz nb isq zl zh zs rsd subN invV invB
set_option maxHeartbeats 4000000 in
set_option maxRecDepth 100000 in
theorem ofint_w (z y q r p k : Int) (b c : Bool) (HO : ∀ w, Calls Tryz.prog 92 #[.int .i64 p] w fun xe w' => xe = .returned (intV y) ∧ Below w.heap.size w w') (HD : ∀ w, Calls Tryz.prog 130 #[intV z, intV y] w fun xe w' => xe = .returned (.tuple #[intV q, intV r, .bool b]) ∧ Below w.heap.size w w') (HI : ∀ w, Calls Tryz.prog 131 #[intV r] w fun xe w' => xe = .returned (.tuple #[.int .i64 k, .bool c]) ∧ Below w.heap.size w w') (hw1 : IntKind.i64.wrap p = p) (hw2 : IntKind.u32.wrap k = k) (w : World) :
  Calls Tryz.prog 50 #[intV z, .int .u32 p] w fun xe w' => xe = .returned (.int .u32 k) ∧ Below w.heap.size w w' := by
 have hL0 : GL w w [] := GL.start w
 replace HO := Lib.hid HO
 replace HD := Lib.hid HD
 replace HI := Lib.hid HI
 replace hL0 := (hL0.new rfl [.int .u64 ((zl z : Nat) : Int), .string (zh z), .bool (zs z)] 32)
 generalize hweq : (w.alloc (.cells #[.int .u64 ((zl z : Nat) : Int), .string (zh z), .bool (zs z)] 32)) = x1 at hL0
 go_enter Tryz.func50, Tryz.ntmps50
 go_upto_region 1 with fail
 clear hweq
 refine region_gh (by kernel_rfl) (by kernel_rfl) ?_
 refine lex_seg (gl := []) 9 (by kernel_rfl) ?_
 intro α iα F hF1 hF2
 have hq := GL.seg hF1 hL0
 simp only [fcC, cellsC, and_true, Nat.zero_add, Nat.reduceAdd] at hq
 simp only [List.take_succ_cons, List.take_zero, List.drop_succ_cons, List.drop_zero, List.take_nil, List.drop_nil]
 repeat (go_big_quiet_step (first | fail | (go_at_call 92; with_reducible exact seg_call hF2 HO.out _) | (go_at_call 130; with_reducible exact seg_call hF2 HD.out _)))
 refine wpQuiet_nil ?_
 clear hq hF1 hF2 iα F α
 refine lex_new [.int .u64 0, .string ⟨#[]⟩, .bool false] 5 32 32 rfl rfl (of_decide_eq_true (by kernel_rfl)) (by kernel_rfl) rfl new_int ?_
 simp only [Act.put, List.setIfInBounds_toArray, List.set_cons_succ, List.set_cons_zero]
 refine lex_new [.int .u64 0, .string ⟨#[]⟩, .bool false] 6 32 32 rfl rfl (of_decide_eq_true (by kernel_rfl)) (by kernel_rfl) rfl new_int ?_
 simp only [Act.put, List.setIfInBounds_toArray, List.set_cons_succ, List.set_cons_zero]
 refine lex_put [.int .u64 ((zl q : Nat) : Int), .string (zh q), .bool (zs q)] [.int .u64 0, .string ⟨#[]⟩, .bool false] 5 32 (.tmp 16) rfl (by kernel_rfl) (by simp [toG, upd]) rfl (fun w k h => put_int _ _ _ _ _ _ w k h) ?_
 simp only [Act.put]
 refine lex_put [.int .u64 ((zl r : Nat) : Int), .string (zh r), .bool (zs r)] [.int .u64 0, .string ⟨#[]⟩, .bool false] 6 32 (.tmp 17) rfl (by kernel_rfl) (by simp [toG, upd]) rfl (fun w k h => put_int _ _ _ _ _ _ w k h) ?_
 simp only [Act.put]
 refine lex_seg (gl := [(6, [.int .u64 ((zl r : Nat) : Int), .string (zh r), .bool (zs r)], true), (5, [.int .u64 ((zl q : Nat) : Int), .string (zh q), .bool (zs q)], true), (6, [.int .u64 0, .string ⟨#[]⟩, .bool false], false), (5, [.int .u64 0, .string ⟨#[]⟩, .bool false], false)]) 1 (by kernel_rfl) ?_
 intro α iα F hF1 hF2
 have hq := GL.seg hF1 hL0
 simp only [fcC, cellsC, and_true, Nat.zero_add, Nat.reduceAdd] at hq
 simp only [List.take_succ_cons, List.take_zero, List.drop_succ_cons, List.drop_zero, List.take_nil, List.drop_nil]
 repeat (go_big_quiet_step (first | fail | (go_at_call 92; with_reducible exact seg_call hF2 HO.out _) | (go_at_call 130; with_reducible exact seg_call hF2 HD.out _)))
 refine wpQuiet_nil ?_
 clear hq hF1 hF2 iα F α
 refine lexG_nil ?_
 intro κ x2 hS
 replace hL0 := hL0.ghs hS [(6, [.int .u64 ((zl r : Nat) : Int), .string (zh r), .bool (zs r)]), (5, [.int .u64 ((zl q : Nat) : Int), .string (zh q), .bool (zs q)])] (by simp) (by intro p hp; simp only [List.mem_cons, List.not_mem_nil, or_false] at hp; rcases hp with rfl | rfl <;> exact ⟨_, by simp only [toG, upd]; rfl⟩)
 simp only [List.map_cons, List.map_nil, List.cons_append, List.nil_append] at hL0
 simp only [over_toG, over_nil, Act.put, List.setIfInBounds_toArray, List.set_cons_succ, List.set_cons_zero]
 clear hS
 generalize κ 6 = k2_6 at *
 generalize κ 5 = k2_5 at *
 have hN0 := cells_of _ 0 [] rfl (hL0.get _ _ List.mem_cons_self)
 simp only [cellsF, and_true, Nat.zero_add, Nat.reduceAdd] at hN0
 go_wp2_with fail
 clear hN0
 with_reducible refine Calls.mono (HI.out _) ?_
 rintro e x3 ⟨rfl, hb⟩
 replace hL0 := hL0.call hb
 clear hb
 go_wp2_with fail
 exact bodyPost_ret (v := .int .u32 k) (by simp [results, Tryz.results50, go_sem]) rfl ⟨rfl, hL0.bl⟩
set_option maxHeartbeats 4000000 in
set_option maxRecDepth 100000 in
theorem offrac_no (n y p r v : Int) (e d : Nat) (HD : ∀ w, Calls Tryz.prog 62 #[frV n e] w fun xe w' => xe = .returned (natV d) ∧ Below w.heap.size w w') (HF : ∀ w, Calls Tryz.prog 93 #[.bool false, natV d] w fun xe w' => xe = .returned (intV y) ∧ Below w.heap.size w w') (HO : ∀ w, Calls Tryz.prog 50 #[intV y, .int .u32 p] w fun xe w' => xe = .returned (.int .u32 r) ∧ Below w.heap.size w w') (HI : ∀ w, Calls Tryz.prog 118 #[.int .u32 r, .int .u32 p] w fun xe w' => xe = .returned (.tuple #[.int .u32 v, .bool false]) ∧ Below w.heap.size w w') (w : World) :
  Calls Tryz.prog 47 #[frV n e, .int .u32 p] w fun xe w' => xe = .returned (.tuple #[.int .u32 0, .bool false]) ∧ Below w.heap.size w w' := by
 have hL0 : GL w w [] := GL.start w
 replace HD := Lib.hid HD
 replace HF := Lib.hid HF
 replace HO := Lib.hid HO
 replace HI := Lib.hid HI
 replace hL0 := (hL0.new rfl [.int .u64 ((zl n : Nat) : Int), .string (zh n), .bool (zs n), .int .u64 ((lo e : Nat) : Int), .string (hs e)] 34)
 generalize hweq : (w.alloc (.cells #[.int .u64 ((zl n : Nat) : Int), .string (zh n), .bool (zs n), .int .u64 ((lo e : Nat) : Int), .string (hs e)] 34)) = x1 at hL0
 go_enter Tryz.func47, Tryz.ntmps47
 have hN0 := cells_of _ 0 [] rfl (hL0.get _ _ List.mem_cons_self)
 simp only [cellsF, and_true, Nat.zero_add, Nat.reduceAdd] at hN0
 go_wp2_with fail
 clear hN0
 with_reducible refine Calls.mono (HD.out _) ?_
 rintro e x2 ⟨rfl, hb⟩
 replace hL0 := hL0.call hb
 clear hb hweq
 go_wp2_with fail
 with_reducible refine Calls.mono (HF.out _) ?_
 rintro e x3 ⟨rfl, hb⟩
 replace hL0 := hL0.call hb
 clear hb
 go_wp2_with fail
 with_reducible refine Calls.mono (HO.out _) ?_
 rintro e x4 ⟨rfl, hb⟩
 replace hL0 := hL0.call hb
 clear hb
 go_wp2_with fail
 with_reducible refine Calls.mono (HI.out _) ?_
 rintro e x5 ⟨rfl, hb⟩
 replace hL0 := hL0.call hb
 clear hb
 go_wp2_with fail
 exact bodyPost_ret (v := .tuple #[.int .u32 0, .bool false]) (by simp [results, Tryz.results47, go_sem]) rfl ⟨rfl, hL0.bl⟩
set_option maxHeartbeats 4000000 in
set_option maxRecDepth 100000 in
theorem offrac_yes (n y p r v s t : Int) (e d : Nat) (HD : ∀ w, Calls Tryz.prog 62 #[frV n e] w fun xe w' => xe = .returned (natV d) ∧ Below w.heap.size w w') (HF : ∀ w, Calls Tryz.prog 93 #[.bool false, natV d] w fun xe w' => xe = .returned (intV y) ∧ Below w.heap.size w w') (HO : ∀ w, Calls Tryz.prog 50 #[intV y, .int .u32 p] w fun xe w' => xe = .returned (.int .u32 r) ∧ Below w.heap.size w w') (HI : ∀ w, Calls Tryz.prog 118 #[.int .u32 r, .int .u32 p] w fun xe w' => xe = .returned (.tuple #[.int .u32 v, .bool true]) ∧ Below w.heap.size w w') (HN : ∀ w, Calls Tryz.prog 114 #[frV n e] w fun xe w' => xe = .returned (intV n) ∧ Below w.heap.size w w') (HP : ∀ w, Calls Tryz.prog 50 #[intV n, .int .u32 p] w fun xe w' => xe = .returned (.int .u32 s) ∧ Below w.heap.size w w') (HM : ∀ w, Calls Tryz.prog 120 #[.int .u32 s, .int .u32 v, .int .u32 p] w fun xe w' => xe = .returned (.int .u32 t) ∧ Below w.heap.size w w') (w : World) :
  Calls Tryz.prog 47 #[frV n e, .int .u32 p] w fun xe w' => xe = .returned (.tuple #[.int .u32 t, .bool true]) ∧ Below w.heap.size w w' := by
 have hL0 : GL w w [] := GL.start w
 replace HD := Lib.hid HD
 replace HF := Lib.hid HF
 replace HO := Lib.hid HO
 replace HI := Lib.hid HI
 replace HN := Lib.hid HN
 replace HP := Lib.hid HP
 replace HM := Lib.hid HM
 replace hL0 := (hL0.new rfl [.int .u64 ((zl n : Nat) : Int), .string (zh n), .bool (zs n), .int .u64 ((lo e : Nat) : Int), .string (hs e)] 34)
 generalize hweq : (w.alloc (.cells #[.int .u64 ((zl n : Nat) : Int), .string (zh n), .bool (zs n), .int .u64 ((lo e : Nat) : Int), .string (hs e)] 34)) = x1 at hL0
 go_enter Tryz.func47, Tryz.ntmps47
 have hN0 := cells_of _ 0 [] rfl (hL0.get _ _ List.mem_cons_self)
 simp only [cellsF, and_true, Nat.zero_add, Nat.reduceAdd] at hN0
 go_wp2_with fail
 clear hN0
 with_reducible refine Calls.mono (HD.out _) ?_
 rintro e x2 ⟨rfl, hb⟩
 replace hL0 := hL0.call hb
 clear hb hweq
 go_wp2_with fail
 with_reducible refine Calls.mono (HF.out _) ?_
 rintro e x3 ⟨rfl, hb⟩
 replace hL0 := hL0.call hb
 clear hb
 go_wp2_with fail
 with_reducible refine Calls.mono (HO.out _) ?_
 rintro e x4 ⟨rfl, hb⟩
 replace hL0 := hL0.call hb
 clear hb
 go_wp2_with fail
 with_reducible refine Calls.mono (HI.out _) ?_
 rintro e x5 ⟨rfl, hb⟩
 replace hL0 := hL0.call hb
 clear hb
 have hN0 := cells_of _ 0 [] rfl (hL0.get _ _ List.mem_cons_self)
 simp only [cellsF, and_true, Nat.zero_add, Nat.reduceAdd] at hN0
 go_wp2_with fail
 clear hN0
 with_reducible refine Calls.mono (HN.out _) ?_
 rintro e x6 ⟨rfl, hb⟩
 replace hL0 := hL0.call hb
 clear hb
 go_wp2_with fail
 with_reducible refine Calls.mono (HP.out _) ?_
 rintro e x7 ⟨rfl, hb⟩
 replace hL0 := hL0.call hb
 clear hb
 go_wp2_with fail
 with_reducible refine Calls.mono (HM.out _) ?_
 rintro e x8 ⟨rfl, hb⟩
 replace hL0 := hL0.call hb
 clear hb
 go_wp2_with fail
 exact bodyPost_ret (v := .tuple #[.int .u32 t, .bool true]) (by simp [results, Tryz.results47, go_sem]) rfl ⟨rfl, hL0.bl⟩
set_option maxHeartbeats 4000000 in
set_option maxRecDepth 100000 in
theorem mof_w (i j c x : Int) (e : Nat) (HF : ∀ w, Calls Tryz.prog 32 #[.int .i64 i, .int .i64 j] w fun xe w' => xe = .returned (.tuple #[frV x e, .int .i64 c]) ∧ Below w.heap.size w w') (w : World) :
  Calls Tryz.prog 123 #[.int .i64 i, .int .i64 j] w fun xe w' => xe = .returned (frV x e) ∧ Below w.heap.size w w' := by
 have hL0 : GL w w [] := GL.start w
 replace HF := Lib.hid HF
 replace hL0 := (hL0.new rfl [.int .u64 0, .string ⟨#[]⟩, .bool false, .int .u64 0, .string ⟨#[]⟩] 34)
 generalize hweq : (w.alloc (.cells #[.int .u64 0, .string ⟨#[]⟩, .bool false, .int .u64 0, .string ⟨#[]⟩] 34)) = x1 at hL0
 go_enter Tryz.func123, Tryz.ntmps123
 go_wp2_with fail
 with_reducible refine Calls.mono (HF.out _) ?_
 rintro e x2 ⟨rfl, hb⟩
 replace hL0 := hL0.call hb
 clear hb hweq
 replace hL0 := (hL0.new rfl [.int .u64 ((zl x : Nat) : Int), .string (zh x), .bool (zs x), .int .u64 ((lo e : Nat) : Int), .string (hs e)] 34)
 generalize hweq : (x2.alloc (.cells #[.int .u64 ((zl x : Nat) : Int), .string (zh x), .bool (zs x), .int .u64 ((lo e : Nat) : Int), .string (hs e)] 34)) = x3 at hL0
 have hA := hL0.fc
 simp only [fcG, cellsF, neK, and_true, ne_eq, Nat.zero_add, Nat.reduceAdd] at hA
 have hP := hL0.put 1 (w.heap.size) _ rfl [.int .u64 ((zl x : Nat) : Int), .string (zh x), .bool (zs x), .int .u64 ((lo e : Nat) : Int), .string (hs e)] rfl
 simp only [setAll, List.set_cons_zero, List.set_cons_succ] at hP
 generalize hput1 : (((((x3.setCell ⟨w.heap.size, 0, none⟩ (.int .u64 ((zl x : Nat) : Int))).setCell ⟨w.heap.size, 1, none⟩ (.string (zh x))).setCell ⟨w.heap.size, 2, none⟩ (.bool (zs x))).setCell ⟨w.heap.size, 3, none⟩ (.int .u64 ((lo e : Nat) : Int))).setCell ⟨w.heap.size, 4, none⟩ (.string (hs e))) = x4 at hP
 have hB1 := hP.fc
 simp only [fcG, cellsF, neK, and_true, ne_eq, Nat.zero_add, Nat.reduceAdd] at hB1
 replace hL0 := hP
 go_wp2_with fail
 exact bodyPost_ret (v := .agg #[.int .u64 ((zl x : Nat) : Int), .string (zh x), .bool (zs x), .int .u64 ((lo e : Nat) : Int), .string (hs e)]) (by simp [results, Tryz.results123, go_sem, hB1]) rfl ⟨rfl, hL0.bl⟩
set_option maxHeartbeats 4000000 in
set_option maxRecDepth 100000 in
theorem mworks_w (a b c z : Int) (i j k : Nat) (KT : World → Prop) (hKT : Keeps KT) (N0 : ∀ w, KT w → Calls Tryz.prog 117 #[.int .u32 0] w fun xe w' => xe = .returned (.tuple #[.int .u32 2, .int .i64 0]) ∧ Below w.heap.size w w') (N2 : ∀ w, KT w → Calls Tryz.prog 117 #[.int .u32 2] w fun xe w' => xe = .returned (.tuple #[.int .u32 3, .int .i64 0]) ∧ Below w.heap.size w w') (N6 : ∀ w, KT w → Calls Tryz.prog 117 #[.int .u32 2147483646] w fun xe w' => xe = .returned (.tuple #[.int .u32 2147483647, .int .i64 0]) ∧ Below w.heap.size w w') (N7 : ∀ w, KT w → Calls Tryz.prog 117 #[.int .u32 2147483647] w fun xe w' => xe = .returned (.tuple #[.int .u32 0, .int .i64 3]) ∧ Below w.heap.size w w') (P2 : ∀ w, KT w → Calls Tryz.prog 58 #[.int .u32 2] w fun xe w' => xe = .returned (.bool true) ∧ Below w.heap.size w w') (P1 : ∀ w, KT w → Calls Tryz.prog 58 #[.int .u32 1] w fun xe w' => xe = .returned (.bool false) ∧ Below w.heap.size w w') (P5 : ∀ w, KT w → Calls Tryz.prog 58 #[.int .u32 561] w fun xe w' => xe = .returned (.bool false) ∧ Below w.heap.size w w') (P7 : ∀ w, KT w → Calls Tryz.prog 58 #[.int .u32 2147483647] w fun xe w' => xe = .returned (.bool true) ∧ Below w.heap.size w w') (P9 : ∀ w, KT w → Calls Tryz.prog 58 #[.int .u32 4294967291] w fun xe w' => xe = .returned (.bool true) ∧ Below w.heap.size w w') (I3 : ∀ w, Calls Tryz.prog 118 #[.int .u32 3, .int .u32 7] w fun xe w' => xe = .returned (.tuple #[.int .u32 5, .bool true]) ∧ Below w.heap.size w w') (I2 : ∀ w, Calls Tryz.prog 118 #[.int .u32 2, .int .u32 4] w fun xe w' => xe = .returned (.tuple #[.int .u32 0, .bool false]) ∧ Below w.heap.size w w') (I0 : ∀ w, Calls Tryz.prog 118 #[.int .u32 0, .int .u32 1] w fun xe w' => xe = .returned (.tuple #[.int .u32 0, .bool true]) ∧ Below w.heap.size w w') (I5 : ∀ w, Calls Tryz.prog 118 #[.int .u32 5, .int .u32 0] w fun xe w' => xe = .returned (.tuple #[.int .u32 0, .bool false]) ∧ Below w.heap.size w w') (HS : ∀ w, Calls Tryz.prog 119 #[.int .u32 3, .int .u32 5, .int .u32 7] w fun xe w' => xe = .returned (.int .u32 5) ∧ Below w.heap.size w w') (HM : ∀ w, Calls Tryz.prog 120 #[.int .u32 4294967295, .int .u32 4294967295, .int .u32 4294967291] w fun xe w' => xe = .returned (.int .u32 16) ∧ Below w.heap.size w w') (HP : ∀ w, Calls Tryz.prog 121 #[.int .u32 2, .int .u64 10, .int .u32 1000] w fun xe w' => xe = .returned (.int .u32 24) ∧ Below w.heap.size w w') (HQ : ∀ w, Calls Tryz.prog 121 #[.int .u32 0, .int .u64 0, .int .u32 5] w fun xe w' => xe = .returned (.int .u32 1) ∧ Below w.heap.size w w') (HA : ∀ w, Calls Tryz.prog 122 #[.int .u32 3, .int .u32 4, .int .u32 0] w fun xe w' => xe = .returned (.int .u32 0) ∧ Below w.heap.size w w') (F1 : ∀ w, Calls Tryz.prog 123 #[.int .i64 1, .int .i64 2] w fun xe w' => xe = .returned (frV a i) ∧ Below w.heap.size w w') (F2 : ∀ w, Calls Tryz.prog 123 #[.int .i64 1, .int .i64 7] w fun xe w' => xe = .returned (frV b j) ∧ Below w.heap.size w w') (F3 : ∀ w, Calls Tryz.prog 123 #[.int .i64 7, .int .i64 2] w fun xe w' => xe = .returned (frV c k) ∧ Below w.heap.size w w') (G1 : ∀ w, Calls Tryz.prog 47 #[frV a i, .int .u32 7] w fun xe w' => xe = .returned (.tuple #[.int .u32 4, .bool true]) ∧ Below w.heap.size w w') (G2 : ∀ w, Calls Tryz.prog 47 #[frV b j, .int .u32 7] w fun xe w' => xe = .returned (.tuple #[.int .u32 0, .bool false]) ∧ Below w.heap.size w w') (G3 : ∀ w, Calls Tryz.prog 47 #[frV c k, .int .u32 7] w fun xe w' => xe = .returned (.tuple #[.int .u32 0, .bool true]) ∧ Below w.heap.size w w') (HO : ∀ w, Calls Tryz.prog 92 #[.int .i64 (-1)] w fun xe w' => xe = .returned (intV z) ∧ Below w.heap.size w w') (HI : ∀ w, Calls Tryz.prog 50 #[intV z, .int .u32 7] w fun xe w' => xe = .returned (.int .u32 6) ∧ Below w.heap.size w w') (w : World) (kKT : KT w) :
  Calls Tryz.prog 46 #[] w fun xe w' => xe = .returned (.bool true) ∧ Below w.heap.size w w' := by
 have hL0 : GL w w [] := GL.start w
 replace hKT := Lib.hid hKT
 replace N0 := Lib.hid N0
 replace N2 := Lib.hid N2
 replace N6 := Lib.hid N6
 replace N7 := Lib.hid N7
 replace P2 := Lib.hid P2
 replace P1 := Lib.hid P1
 replace P5 := Lib.hid P5
 replace P7 := Lib.hid P7
 replace P9 := Lib.hid P9
 replace I3 := Lib.hid I3
 replace I2 := Lib.hid I2
 replace I0 := Lib.hid I0
 replace I5 := Lib.hid I5
 replace HS := Lib.hid HS
 replace HM := Lib.hid HM
 replace HP := Lib.hid HP
 replace HQ := Lib.hid HQ
 replace HA := Lib.hid HA
 replace F1 := Lib.hid F1
 replace F2 := Lib.hid F2
 replace F3 := Lib.hid F3
 replace G1 := Lib.hid G1
 replace G2 := Lib.hid G2
 replace G3 := Lib.hid G3
 replace HO := Lib.hid HO
 replace HI := Lib.hid HI
 go_enter Tryz.func46, Tryz.ntmps46
 go_wp2_with fail
 with_reducible refine Calls.mono (N0.out _ (hKT.out.at hL0.bl kKT)) ?_
 rintro e x1 ⟨rfl, hb⟩
 replace hL0 := hL0.call hb
 clear hb
 go_wp2_with fail
 with_reducible refine Calls.mono (N2.out _ (hKT.out.at hL0.bl kKT)) ?_
 rintro e x2 ⟨rfl, hb⟩
 replace hL0 := hL0.call hb
 clear hb
 go_wp2_with fail
 with_reducible refine Calls.mono (N6.out _ (hKT.out.at hL0.bl kKT)) ?_
 rintro e x3 ⟨rfl, hb⟩
 replace hL0 := hL0.call hb
 clear hb
 go_wp2_with fail
 with_reducible refine Calls.mono (N7.out _ (hKT.out.at hL0.bl kKT)) ?_
 rintro e x4 ⟨rfl, hb⟩
 replace hL0 := hL0.call hb
 clear hb
 go_wp2_with fail
 with_reducible refine Calls.mono (P2.out _ (hKT.out.at hL0.bl kKT)) ?_
 rintro e x5 ⟨rfl, hb⟩
 replace hL0 := hL0.call hb
 clear hb
 go_wp2_with fail
 with_reducible refine Calls.mono (P1.out _ (hKT.out.at hL0.bl kKT)) ?_
 rintro e x6 ⟨rfl, hb⟩
 replace hL0 := hL0.call hb
 clear hb
 go_wp2_with fail
 with_reducible refine Calls.mono (P5.out _ (hKT.out.at hL0.bl kKT)) ?_
 rintro e x7 ⟨rfl, hb⟩
 replace hL0 := hL0.call hb
 clear hb
 go_wp2_with fail
 with_reducible refine Calls.mono (P7.out _ (hKT.out.at hL0.bl kKT)) ?_
 rintro e x8 ⟨rfl, hb⟩
 replace hL0 := hL0.call hb
 clear hb
 go_wp2_with fail
 with_reducible refine Calls.mono (P9.out _ (hKT.out.at hL0.bl kKT)) ?_
 rintro e x9 ⟨rfl, hb⟩
 replace hL0 := hL0.call hb
 clear hb
 go_wp2_with fail
 with_reducible refine Calls.mono (I3.out _) ?_
 rintro e x10 ⟨rfl, hb⟩
 replace hL0 := hL0.call hb
 clear hb
 go_wp2_with fail
 with_reducible refine Calls.mono (I2.out _) ?_
 rintro e x11 ⟨rfl, hb⟩
 replace hL0 := hL0.call hb
 clear hb
 go_wp2_with fail
 with_reducible refine Calls.mono (I0.out _) ?_
 rintro e x12 ⟨rfl, hb⟩
 replace hL0 := hL0.call hb
 clear hb
 go_wp2_with fail
 with_reducible refine Calls.mono (I5.out _) ?_
 rintro e x13 ⟨rfl, hb⟩
 replace hL0 := hL0.call hb
 clear hb
 go_wp2_with fail
 with_reducible refine Calls.mono (HS.out _) ?_
 rintro e x14 ⟨rfl, hb⟩
 replace hL0 := hL0.call hb
 clear hb
 go_wp2_with fail
 with_reducible refine Calls.mono (HM.out _) ?_
 rintro e x15 ⟨rfl, hb⟩
 replace hL0 := hL0.call hb
 clear hb
 go_wp2_with fail
 with_reducible refine Calls.mono (HP.out _) ?_
 rintro e x16 ⟨rfl, hb⟩
 replace hL0 := hL0.call hb
 clear hb
 go_wp2_with fail
 with_reducible refine Calls.mono (HQ.out _) ?_
 rintro e x17 ⟨rfl, hb⟩
 replace hL0 := hL0.call hb
 clear hb
 go_wp2_with fail
 with_reducible refine Calls.mono (HA.out _) ?_
 rintro e x18 ⟨rfl, hb⟩
 replace hL0 := hL0.call hb
 clear hb
 go_wp2_with fail
 with_reducible refine Calls.mono (F1.out _) ?_
 rintro e x19 ⟨rfl, hb⟩
 replace hL0 := hL0.call hb
 clear hb
 go_wp2_with fail
 with_reducible refine Calls.mono (G1.out _) ?_
 rintro e x20 ⟨rfl, hb⟩
 replace hL0 := hL0.call hb
 clear hb
 go_wp2_with fail
 with_reducible refine Calls.mono (F2.out _) ?_
 rintro e x21 ⟨rfl, hb⟩
 replace hL0 := hL0.call hb
 clear hb
 go_wp2_with fail
 with_reducible refine Calls.mono (G2.out _) ?_
 rintro e x22 ⟨rfl, hb⟩
 replace hL0 := hL0.call hb
 clear hb
 go_wp2_with fail
 with_reducible refine Calls.mono (F3.out _) ?_
 rintro e x23 ⟨rfl, hb⟩
 replace hL0 := hL0.call hb
 clear hb
 go_wp2_with fail
 with_reducible refine Calls.mono (G3.out _) ?_
 rintro e x24 ⟨rfl, hb⟩
 replace hL0 := hL0.call hb
 clear hb
 go_wp2_with fail
 with_reducible refine Calls.mono (HO.out _) ?_
 rintro e x25 ⟨rfl, hb⟩
 replace hL0 := hL0.call hb
 clear hb
 go_wp2_with fail
 with_reducible refine Calls.mono (HI.out _) ?_
 rintro e x26 ⟨rfl, hb⟩
 replace hL0 := hL0.call hb
 clear hb
 go_wp2_with fail
 exact bodyPost_ret (v := .bool true) (by simp [results, Tryz.results46, go_sem]) rfl ⟨rfl, hL0.bl⟩
end Go.Proofs.YtdkjckiialnpnaaGreatDoor
namespace Go.Proofs.YtdkjckiialnpnaaGreatDoor
theorem pr_2 : isPr 2 := isPr_of (n := 0) (by decide) (by decide) (by decide +kernel)
theorem pr_3 : isPr 3 := isPr_of (n := 0) (by decide) (by decide) (by decide +kernel)
theorem pr_2147483647 : isPr 2147483647 := isPr_of (n := 46340) (by decide) (by decide) (by decide +kernel)
end Go.Proofs.YtdkjckiialnpnaaGreatDoor
namespace Go.Proofs.YtdkjckiialnpnaaGreatDoor
open Go.RowKit
/-- The residue of an integer modulo p; it is 0 modulo 0. -/
def rsz (z : Int) (p : Nat) : Nat := if p = 0 then 0 else (z % (p : Int)).toNat
theorem rsz_lt32 (z : Int) {p : Nat} (hp : p < 4294967296) : rsz z p < 4294967296 := by
 unfold rsz; split
 ·omega
 ·have := Int.emod_lt_of_pos z (show (0 : Int) < (p : Int) by omega); omega
theorem rsz_nat (n p : Nat) : rsz (n : Int) p = rsd n p := by
 unfold rsz rsd; split
 ·rfl
 ·rw [show (n : Int) % (p : Int) = ((n % p : Nat) : Int) by push_cast; rfl, Int.toNat_natCast]
theorem rsz_cast {z : Int} {p : Nat} (h : p ≠ 0) : ((rsz z p : Nat) : Int) = z % (p : Int) := by
 unfold rsz; rw [if_neg h]; exact Int.toNat_of_nonneg (Int.emod_nonneg z (by omega))
/-- Whether a fraction has a residue modulo p. -/
noncomputable def frB (q : Rat) (p : Nat) : Bool := invB q.den p
/-- The residue of a fraction modulo p; it is 0 if there is none. -/
noncomputable def frR (q : Rat) (p : Nat) : Nat := if frB q p = true then rsd (rsz q.num p * invV q.den p) p else 0
theorem inv_rsd (a p : Nat) : invV (rsd a p) p = invV a p ∧ invB (rsd a p) p = invB a p := by
 by_cases h0 : p = 0
 ·subst h0
  have h1 : IsInv (rsd a 0) 0 0 false := .inr ⟨rfl, rfl, .inl rfl⟩
  have h2 : IsInv a 0 0 false := .inr ⟨rfl, rfl, .inl rfl⟩
  rw [(inv_eq h1).1, (inv_eq h1).2, (inv_eq h2).1, (inv_eq h2).2]; exact ⟨rfl, rfl⟩
 ·refine inv_eq ?_
  have hm : ∀ v, rsd a p * v % p = a * v % p := fun v => by rw [rsd_pos h0, Nat.mod_mul_mod]
  have hg : Nat.gcd (rsd a p) p = Nat.gcd a p := by rw [rsd_pos h0, ← Nat.gcd_rec p a, Nat.gcd_comm]
  rcases inv_is a p with ⟨h, h1, h2⟩ | ⟨h, h1, h2⟩
  ·exact .inl ⟨h, h1, by rw [hm]; exact h2⟩
  ·exact .inr ⟨h, h1, by rw [hg]; exact h2⟩
theorem ofintM (z : Int) (p : Nat) (hz : dI z ≤ 1000000000) (hp : p < 4294967296) (w : World) :
  Calls Tryz.prog 50 #[intV z, .int .u32 (p : Int)] w fun x w' => x = .returned (.int .u32 ((rsz z p : Nat) : Int)) ∧ Below w.heap.size w w' := by
 have hO := fun w => ofI (p : Int) (by omega) (by omega) w
 have hw1 : IntKind.i64.wrap (p : Int) = (p : Int) := by simp [IntKind.wrap, IntKind.signed, IntKind.bits]; omega
 have hl := rsz_lt32 z hp
 have hw2 : IntKind.u32.wrap ((rsz z p : Nat) : Int) = ((rsz z p : Nat) : Int) := by simp [IntKind.wrap, IntKind.signed, IntKind.bits]; omega
 by_cases h0 : p = 0
 ·subst h0
  have e : rsz z 0 = 0 := rfl
  rw [e] at hw2 ⊢
  exact ofint_w z 0 0 0 0 0 false true hO (div0I z) (fun w => i64I 0 w) hw1 hw2 w
 ·have hn : 0 ≤ z % (p : Int) := Int.emod_nonneg z (by omega)
  have hl2 : z % (p : Int) < (p : Int) := Int.emod_lt_of_pos z (by omega)
  have hi : in64 (z % (p : Int)) = true := by unfold in64; rw [decide_eq_true_iff]; omega
  have hI := fun w => i64I (z % (p : Int)) w
  rw [hi, if_pos rfl, ← rsz_cast h0] at hI
  refine ofint_w z (p : Int) (z / (p : Int)) ((rsz z p : Nat) : Int) (p : Int) ((rsz z p : Nat) : Int) true true hO (fun w => ?_) hI hw1 hw2 w
  have := divI z (p : Int) (by omega) hz (Nat.le_trans (i64_dI (by omega) (by omega)) (by omega)) w
  rw [← rsz_cast h0] at this
  exact this
theorem offracM (q : Rat) (p k : Nat) (hq : Sz q k) (hk : k ≤ 1000000000) (hp : p < 4294967296) (w : World) :
  Calls Tryz.prog 47 #[fracV q, .int .u32 (p : Int)] w fun x w' => x = .returned (.tuple #[.int .u32 ((frR q p : Nat) : Int), .bool (frB q p)]) ∧ Below w.heap.size w w' := by
 have hD := fun w => denF q w
 have hF := fun w => fromI false q.den (q.den : Int) rfl w
 have hO := fun w => ofintM (q.den : Int) p (by rw [dI_nat]; exact Nat.le_trans hq.d hk) hp w
 rw [rsz_nat] at hO
 have hI := fun w => minv_any (rsd q.den p) p (rsd_lt32 _ hp) hp w
 rw [(inv_rsd q.den p).1, (inv_rsd q.den p).2] at hI
 by_cases hb : frB q p = true
 ·have hb2 : invB q.den p = true := hb
  rw [hb2] at hI
  have hR : frR q p = rsd (rsz q.num p * invV q.den p) p := by unfold frR; rw [if_pos hb]
  rw [hb, hR]
  exact offrac_yes q.num (q.den : Int) p ((rsd q.den p : Nat) : Int) ((invV q.den p : Nat) : Int) ((rsz q.num p : Nat) : Int) ((rsd (rsz q.num p * invV q.den p) p : Nat) : Int) (fe q) q.den hD hF hO hI (numF q) (fun w => ofintM q.num p (Nat.le_trans hq.n hk) hp w)
   (fun w => (mmul_any (rsz q.num p) (invV q.den p) p (rsz_lt32 _ hp) (inv_lt _ _ hp) hp w).mono fun e w' h => ⟨h.1, by rw [h.2]; exact Below.refl _ _⟩) w
 ·have hb2 : invB q.den p = false := by
   rcases hc : invB q.den p with _ | _
   ·rfl
   ·exact absurd hc hb
  rw [hb2] at hI
  have hR : frR q p = 0 := by unfold frR; rw [if_neg hb]
  have hb3 : frB q p = false := hb2
  rw [hb3, hR]
  exact offrac_no q.num (q.den : Int) p ((rsd q.den p : Nat) : Int) ((invV q.den p : Nat) : Int) (fe q) q.den hD hF hO hI w
theorem mofF (n d : Int) (a1 : -9223372036854775808 ≤ n) (a2 : n < 9223372036854775808) (b1 : -9223372036854775808 ≤ d) (b2 : d < 9223372036854775808) (h0 : d ≠ 0) (w : World) :
  Calls Tryz.prog 123 #[.int .i64 n, .int .i64 d] w fun x w' => x = .returned (fracV ((n : Rat) / (d : Rat))) ∧ Below w.heap.size w w' :=
 mof_w n d 0 _ _ (ofF n d a1 a2 b1 b2 h0) w
end Go.Proofs.YtdkjckiialnpnaaGreatDoor
namespace Go.Proofs.YtdkjckiialnpnaaGreatDoor
open Go.RowKit
theorem pr_4294967291 : isPr 4294967291 := pc_prime (by decide) (by decide) (by decide) (by decide +kernel)
theorem Keeps.t32 : Keeps T32 := fun _ _ hb h => h.below hb
/-- A call that leaves the world alone. -/
theorem toBelow {P : Program} {f : FuncId} {args : Array Value} {v : Value} {w : World} (h : Calls P f args w fun e w' => e = .returned v ∧ w' = w) :
  Calls P f args w fun e w' => e = .returned v ∧ Below w.heap.size w w' := h.mono fun e w' k => ⟨k.1, by rw [k.2]; exact Below.refl _ _⟩
theorem next_ex (n q : Nat) (c : Int) (hn : n < 4294967296) (hi : IsNext n q c) : ∀ w, T32 w → Calls Tryz.prog 117 #[.int .u32 (n : Int)] w fun e w' => e = .returned (.tuple #[.int .u32 (q : Int), .int .i64 c]) ∧ Below w.heap.size w w' :=
 fun w hT => next_is_any n q c hn hi w hT
theorem prime_ex (n : Nat) (b : Bool) (hn : n < 4294967296) (hb : prB n = b) : ∀ w, T32 w → Calls Tryz.prog 58 #[.int .u32 (n : Int)] w fun e w' => e = .returned (.bool b) ∧ Below w.heap.size w w' :=
 fun w hT => by have := prime_any n hn w hT; rwa [hb] at this
theorem frac_ex {q : Rat} {p d r : Nat} {n : Int} {v : Nat} {b : Bool} (hd : q.den = d) (hn : q.num = n) (hi : IsInv d p v b) (hr : (if b = true then rsd (rsz n p * v) p else 0) = r) : frR q p = r ∧ frB q p = b := by
 subst hd hn
 have h := inv_eq hi
 refine ⟨?_, h.2⟩
 unfold frR frB
 rw [h.1, h.2]; exact hr
theorem sz_half (n d : Int) (a1 : -9223372036854775808 ≤ n) (a2 : n < 9223372036854775808) (b1 : -9223372036854775808 ≤ d) (b2 : d < 9223372036854775808) (h0 : d ≠ 0) : Sz ((n : Rat) / (d : Rat)) 2 := by
 have h := (Sz.int (i64_dI a1 a2) (by omega)).div (Sz.int (i64_dI b1 b2) (by omega)) (by simpa using h0)
 exact h
theorem mworks_any (w : World) (hT : T32 w) : Calls Tryz.prog 46 #[] w fun e w' => e = .returned (.bool true) ∧ Below w.heap.size w w' := by
 have e1 : ((1 : Int) : Rat) / ((2 : Int) : Rat) = mkRat 1 2 := by rw [← of_val_q 1 2 (by decide)]; rfl
 have e2 : ((1 : Int) : Rat) / ((7 : Int) : Rat) = mkRat 1 7 := by rw [← of_val_q 1 7 (by decide)]; rfl
 have e3 : ((7 : Int) : Rat) / ((2 : Int) : Rat) = mkRat 7 2 := by rw [← of_val_q 7 2 (by decide)]; rfl
 have g1 := frac_ex (q := mkRat 1 2) (p := 7) (d := 2) (n := 1) (v := 4) (b := true) (r := 4) (by decide +kernel) (by decide +kernel) (.inl ⟨rfl, by decide, by decide⟩) (by decide)
 have g2 := frac_ex (q := mkRat 1 7) (p := 7) (d := 7) (n := 1) (v := 0) (b := false) (r := 0) (by decide +kernel) (by decide +kernel) (.inr ⟨rfl, rfl, .inr (by decide)⟩) (by decide)
 have g3 := frac_ex (q := mkRat 7 2) (p := 7) (d := 2) (n := 7) (v := 4) (b := true) (r := 0) (by decide +kernel) (by decide +kernel) (.inl ⟨rfl, by decide, by decide⟩) (by decide)
 have F1 := fun w => mofF 1 2 (by decide) (by decide) (by decide) (by decide) (by decide) w
 have F2 := fun w => mofF 1 7 (by decide) (by decide) (by decide) (by decide) (by decide) w
 have F3 := fun w => mofF 7 2 (by decide) (by decide) (by decide) (by decide) (by decide) w
 have G1 := fun w => offracM _ 7 2 (sz_half 1 2 (by decide) (by decide) (by decide) (by decide) (by decide)) (by decide) (by decide) w
 have G2 := fun w => offracM _ 7 2 (sz_half 1 7 (by decide) (by decide) (by decide) (by decide) (by decide)) (by decide) (by decide) w
 have G3 := fun w => offracM _ 7 2 (sz_half 7 2 (by decide) (by decide) (by decide) (by decide) (by decide)) (by decide) (by decide) w
 rw [e1] at F1 G1
 rw [e2] at F2 G2
 rw [e3] at F3 G3
 rw [g1.1, g1.2] at G1
 rw [g2.1, g2.2] at G2
 rw [g3.1, g3.2] at G3
 have HI := fun w => ofintM (-1) 7 (by decide +kernel) (by decide) w
 rw [show rsz (-1) 7 = 6 by decide] at HI
 refine mworks_w (mkRat 1 2).num (mkRat 1 7).num (mkRat 7 2).num (-1) (fe (mkRat 1 2)) (fe (mkRat 1 7)) (fe (mkRat 7 2)) T32 Keeps.t32
  (next_ex 0 2 0 (by decide) (.inl ⟨rfl, by decide, by decide, pr_2, fun i h1 h2 h => by have := h.1; omega⟩))
  (next_ex 2 3 0 (by decide) (.inl ⟨rfl, by decide, by decide, pr_3, fun i h1 h2 h => by omega⟩))
  (next_ex 2147483646 2147483647 0 (by decide) (.inl ⟨rfl, by decide, by decide, pr_2147483647, fun i h1 h2 h => by omega⟩))
  (next_ex 2147483647 0 3 (by decide) (.inr ⟨rfl, rfl, fun i h1 h2 h => by omega⟩))
  (prime_ex 2 true (by decide) (prB_of pr_2)) (prime_ex 1 false (by decide) (prB_no not_pr_small.2)) (prime_ex 561 false (by decide) (prB_no (not_pr_dvd (d := 3) (by decide) (by decide) (by decide))))
  (prime_ex 2147483647 true (by decide) (prB_of pr_2147483647)) (prime_ex 4294967291 true (by decide) (prB_of pr_4294967291))
  (fun w => minv_is 3 7 5 true (by decide) (by decide) (.inl ⟨rfl, by decide, by decide⟩) w) (fun w => minv_is 2 4 0 false (by decide) (by decide) (.inr ⟨rfl, rfl, .inr (by decide)⟩) w)
  (fun w => minv_is 0 1 0 true (by decide) (by decide) (.inl ⟨rfl, by decide, by decide⟩) w) (fun w => minv_is 5 0 0 false (by decide) (by decide) (.inr ⟨rfl, rfl, .inl rfl⟩) w)
  (fun w => toBelow (by have := msub_any 3 5 7 (by decide) (by decide) (by decide) w; rwa [show subN 3 5 7 = 5 by decide] at this))
  (fun w => toBelow (by have := mmul_any 4294967295 4294967295 4294967291 (by decide) (by decide) (by decide) w; rwa [show rsd (4294967295 * 4294967295) 4294967291 = 16 by decide] at this))
  (fun w => toBelow (by have := mpow_any 2 10 1000 (by decide) (by decide) (by decide) w; rwa [show rsd (2 ^ 10) 1000 = 24 by decide] at this))
  (fun w => toBelow (by have := mpow_any 0 0 5 (by decide) (by decide) (by decide) w; rwa [show rsd (0 ^ 0) 5 = 1 by decide] at this))
  (fun w => toBelow (by have := madd_any 3 4 0 (by decide) (by decide) (by decide) w; rwa [show rsd (3 + 4) 0 = 0 by decide] at this))
  F1 F2 F3 G1 G2 G3 (fun w => ofI (-1) (by decide) (by decide) w) HI w hT
end Go.Proofs.YtdkjckiialnpnaaGreatDoor
namespace Go.Proofs.YtdkjckiialnpnaaGreatDoor
open Go.RowKit Go.Proofs.YtdkjckiialnpnaaGreatDoor.Rx
theorem wrap64 {n : Nat} (h : n < 4294967296) : IntKind.i64.wrap (n : Int) = (n : Int) := by simp [IntKind.wrap, IntKind.signed, IntKind.bits]; omega
theorem rzofN (n : Nat) (hn : n < 4294967296) (w : World) : Calls Tryz.prog 129 #[.int .i64 (n : Int)] w fun e w' => ∃ v, e = .returned v ∧ RZ w' v (n : Int) ∧ Below w.heap.size w w' :=
 rzof_pos n n n n (fun w => rof_val n n rfl (by omega) w) (rz_from false n n (by first | rfl | (simp [zs]; try omega)) (by simp)) (decide_eq_false (by omega)) (by simp [IntKind.wrap, IntKind.signed, IntKind.bits]; omega) w
theorem tln_small {n : Nat} (h : n < 4294967296) : tln n ≤ 3 := by
 unfold tln; exact td_length.2 (by omega)
theorem rofint6 (z : Int) (p : Nat) (hp : p < 4294967296) (hz : (Rx.td z.natAbs).length ≤ 1000) (v : Value) (w : World) (hv : RZ w v z) :
  Calls Tryz.prog 52 #[v, .int .u32 (p : Int)] w fun e w' => e = .returned (.int .u32 ((rsz z p : Nat) : Int)) ∧ Below w.heap.size w w' := by
 by_cases h0 : p = 0
 ·subst h0; exact rofint0_w z v w hv
 ·have h1 : 0 ≤ z % (p : Int) := Int.emod_nonneg z (by omega)
  have h2 : z % (p : Int) < (p : Int) := Int.emod_lt_of_pos z (by omega)
  have e : (z % (p : Int)).natAbs = rsz z p := by have := rsz_cast (z := z) h0; omega
  have := rofint_w z (z / (p : Int)) (z % (p : Int)) (p : Int) (rzofN p hp) (fun a b w ha hb => rzdivI z (p : Int) (by omega) hz (Nat.le_trans (td_length.2 (show (p : Int).natAbs < 10000 ^ 3 by omega)) (by omega)) a b w ha hb)
   (by simp; omega) (wrap64 hp) (by omega) (Nat.le_trans (tln_small (by omega)) (by omega)) v w hv
  rwa [e] at this
theorem rinv6 (a p : Nat) (ha : a < 4294967296) (hp : p < 4294967296) (w : World) :
  Calls Tryz.prog 124 #[.int .u32 (a : Int), .int .u32 (p : Int)] w fun e w' => e = .returned (.tuple #[.int .u32 ((invV a p : Nat) : Int), .bool (invB a p)]) ∧ Below w.heap.size w w' := by
 by_cases h0 : p = 0
 ·subst h0
  have h := inv_eq (show IsInv a 0 0 false from .inr ⟨rfl, rfl, .inl rfl⟩)
  rw [h.1, h.2]; exact rinv0_w a w
 by_cases h1 : p = 1
 ·subst h1
  have h := inv_eq (show IsInv a 1 0 true from .inl ⟨rfl, by omega, by rw [Nat.mul_zero]⟩)
  rw [h.1, h.2]; exact rinv1_w a w
 have hr := rsd_lt32 a hp
 have H0 := fun w => rof6_any a p (by omega) hp w
 obtain ⟨r, hre⟩ : ∃ r, r = rsd a p := ⟨_, rfl⟩
 rw [← hre] at H0 hr
 obtain ⟨bz, bg⟩ := xgcd_bez _ (r : Int) (p : Int) (Nat.le_refl _)
 have dr : dI (r : Int) ≤ 1 := i64_dI (by omega) (by omega)
 have dp : dI (p : Int) ≤ 1 := i64_dI (by omega) (by omega)
 obtain ⟨dg, dx, dy⟩ := xgcd_dI dr dp
 have HG := fun v1 v2 w h1 h2 => rzgcd_any (k := 1) (by omega) _ (r : Int) (p : Int) (Nat.le_refl _) dr dp v1 v2 w h1 h2
 generalize (xgcd (r : Int) (p : Int)).1 = g at *
 generalize (xgcd (r : Int) (p : Int)).2.1 = x at *
 generalize (xgcd (r : Int) (p : Int)).2.2 = y at *
 have lg := dI_td dg
 have lx := dI_td dx
 have hC := fun v1 v2 w h1 h2 => rzcmpI g 1 (by omega) (Nat.le_trans (td_length.2 (show (1 : Int).natAbs < 10000 ^ 1 by decide)) (by omega)) v1 v2 w h1 h2
 have hgp : Nat.gcd r p = Nat.gcd a p := by rw [hre, rsd_pos h0, ← Nat.gcd_rec p a, Nat.gcd_comm]
 have bg2 : g = ((Nat.gcd a p : Nat) : Int) := by rw [bg, Int.natAbs_natCast, Int.natAbs_natCast, hgp]
 have ka : (a : Int) % 18446744073709551616 = (a : Int) := by omega
 have H0b := fun w => toBelow (H0 w)
 by_cases hg : g = 1
 ·rw [hg, show sgn (1 - 1) = 0 from rfl] at hC
  have hm : IsInv a p (rsz x p) true := .inl ⟨rfl, by have := rsz_cast (z := x) h0; have := Int.emod_lt_of_pos x (show (0 : Int) < (p : Int) by omega); omega, by
   have e1 : ((a * rsz x p % p : Nat) : Int) = ((1 % p : Nat) : Int) := by
    push_cast
    have e2 : (a : Int) % (p : Int) = (r : Int) % (p : Int) := by rw [hre, rsd_pos h0]; push_cast; rw [Int.emod_emod]
    rw [rsz_cast h0, Int.mul_emod, Int.emod_emod, e2, ← Int.mul_emod, show (r : Int) * x = 1 + (p : Int) * (-y) by rw [hg] at bz; grind, Int.add_mul_emod_self_left]
   exact_mod_cast e1⟩
  have h := inv_eq hm
  rw [h.1, h.2]
  rw [hg] at HG
  exact rinv_yes a p r 1 x y ((rsz x p : Nat) : Int) H0b (rzofN r hr) (rzofN p hp) HG (rzofN 1 (by omega)) hC (fun v w hv => rofint6 x p hp (by omega) v w hv)
   (by simp; omega) (by simp; omega) ka (wrap64 hr) (wrap64 hp) w
 ·have hne : sgn (g - 1) ≠ 0 := by unfold sgn; split <;> (try split) <;> omega
  have h := inv_eq (show IsInv a p 0 false from .inr ⟨rfl, rfl, .inr (by omega)⟩)
  rw [h.1, h.2]
  exact rinv_no a p r g x y _ H0b (rzofN r hr) (rzofN p hp) HG (rzofN 1 (by omega)) hC (by simp; omega) (by simp; omega) ka (wrap64 hr) (wrap64 hp) (by simpa using hne) hne w
end Go.Proofs.YtdkjckiialnpnaaGreatDoor
namespace Go.Proofs.YtdkjckiialnpnaaGreatDoor
open Go.RowKit Go.Proofs.YtdkjckiialnpnaaGreatDoor.Rx
theorem roffrac6 (q : Rat) {k : Nat} (hq : Sz q k) (hk : k ≤ 100) (p : Nat) (hp : p < 4294967296) (v : Value) (w : World) (h : RF w v q) :
  Calls Tryz.prog 48 #[v, .int .u32 (p : Int)] w fun e w' => e = .returned (.tuple #[.int .u32 ((frR q p : Nat) : Int), .bool (frB q p)]) ∧ Below w.heap.size w w' := by
 have ln := dI_td hq.n
 have ld : (Rx.td (q.den : Int).natAbs).length ≤ 5 * k := dI_td (a := (q.den : Int)) (by rw [dI_nat]; exact hq.d)
 have HD := fun p0 w h => rden q hq (by omega) p0 w h
 have HF := fun p0 w h => rz_from false q.den (q.den : Int) (by simp) (by simp) p0 w h
 have HO := fun p0 w h => rofint6 (q.den : Int) p hp (by omega) p0 w h
 rw [rsz_nat] at HO
 have HI := fun w => rinv6 (rsd q.den p) p (rsd_lt32 _ hp) hp w
 rw [(inv_rsd q.den p).1, (inv_rsd q.den p).2] at HI
 by_cases hb : frB q p = true
 ·have hb2 : invB q.den p = true := hb
  rw [hb2] at HI
  have hR : frR q p = rsd (rsz q.num p * invV q.den p) p := by unfold frR; rw [if_pos hb]
  have l1 := rsz_lt32 q.num hp
  have l2 := inv_lt q.den p hp
  have hl : rsz q.num p * invV q.den p < 18446744073709551616 := by
   have := Nat.mul_le_mul (show rsz q.num p ≤ 4294967295 by omega) (show invV q.den p ≤ 4294967295 by omega); omega
  rw [hb, hR]
  exact roffrac_yes q q.den (q.den : Int) p ((rsd q.den p : Nat) : Int) ((invV q.den p : Nat) : Int) ((rsz q.num p : Nat) : Int) ((rsz q.num p * invV q.den p : Nat) : Int) ((rsd (rsz q.num p * invV q.den p) p : Nat) : Int) HD HF HO HI
   (fun p0 w h => rofint6 q.num p hp (by omega) p0 w h) (fun w => toBelow (rof6_any _ p hl hp w)) (by omega) (by omega) (by push_cast; rfl) (by omega) v w h
 ·have hb2 : frB q p = false := by
   rcases hc : frB q p with _ | _
   ·rfl
   ·exact absurd hc hb
  have hR : frR q p = 0 := by unfold frR; rw [if_neg hb]
  rw [show invB q.den p = false from hb2] at HI
  rw [hb2, hR]
  exact roffrac_no q q.den (q.den : Int) p ((rsd q.den p : Nat) : Int) ((invV q.den p : Nat) : Int) HD HF HO HI v w h
theorem gpairO (v u : Value) (l k : List Nat) : Keeps (fun w => Ws w v l ∧ Ws w u k) := Keeps.and (Keeps.ws v l) (Keeps.ws u k)
theorem mof_any (sx : Bool) (ax qx : Option Addr) (nx cx mx dx : Nat) (lx kx : List Nat) (p : Nat) (hp : p < 4294967296) (w : World) (hT : T32 w) (hwx : Ws w (.slice ax nx cx) lx) (hvx : Ws w (.slice qx mx dx) kx) :
  Calls Tryz.prog 13 #[.agg #[.bool sx, .slice ax nx cx, .slice qx mx dx], .int .u32 (p : Int)] w fun xe w' => xe = .returned (.bool true) ∧ Below w.heap.size w w' := by
 have e1 := hwx.len
 have e2 := hvx.len
 have T {n : Nat} (h : 8 < n) : decide ((8 : Int) < ((n : Nat) : Int)) = true ∧ decide (8 < n) = true := ⟨decide_eq_true (by omega), decide_eq_true h⟩
 have F {n : Nat} (h : ¬ 8 < n) : decide ((8 : Int) < ((n : Nat) : Int)) = false ∧ decide (8 < n) = false := ⟨decide_eq_false (by omega), decide_eq_false h⟩
 by_cases h1 : 8 < nx
 ·exact mof_big0 sx ax qx nx cx mx dx p T32 Keeps.t32 mworks_any (T h1).1 (T h1).2 w hT
 by_cases h2 : 8 < mx
 ·exact mof_big1 sx ax qx nx cx mx dx p T32 Keeps.t32 mworks_any (F h1).1 (F h1).2 (T h2).1 (T h2).2 w hT
 have sa : Sz (gmade sx lx kx) 9 := gmade_sz (by omega) hwx hvx (by omega) (by omega)
 have da := zmade_dI (s := sx) hwx.lt
 have GX : ∀ w, (Ws w (.slice ax nx cx) lx ∧ Ws w (.slice qx mx dx) kx) → _ := fun w h => gof_any sx ax qx nx cx mx dx lx kx (by omega) (by omega) w h.1 h.2
 have RX : ∀ w, (Ws w (.slice ax nx cx) lx ∧ Ws w (.slice qx mx dx) kx) → _ := fun w h => gref_any sx ax qx nx cx mx dx lx kx (by omega) (by omega) w h.1 h.2
 have ZX : ∀ w, (Ws w (.slice ax nx cx) lx ∧ Ws w (.slice qx mx dx) kx) → _ := fun w h => zof_any sx ax nx cx lx (by omega) w h.1
 have ZR : ∀ w, (Ws w (.slice ax nx cx) lx ∧ Ws w (.slice qx mx dx) kx) → _ := fun w h => zref_any sx ax nx cx lx (by omega) w h.1
 generalize gmade sx lx kx = a at *
 have da2 : dI (zmade sx lx) ≤ 100 := by omega
 clear da
 generalize zmade sx lx = m at *
 exact mof_ok sx ax qx nx cx mx dx p _ _ m (frB a p) a _ (gpairO _ _ lx kx) GX (fun w => offracM a p 9 sa (by omega) hp w) RX (fun p0 w h => roffrac6 a sa (by omega) p hp p0 w h) ZX (fun w => ofintM m p (by omega) hp w) ZR (fun p0 w h => rofint6 m p hp (Nat.le_trans (dI_td da2) (by omega)) p0 w h) T32 Keeps.t32 mworks_any
  (F h1).1 (F h1).2 (F h2).1 (F h2).2 w ⟨hwx, hvx⟩ hT
end Go.Proofs.YtdkjckiialnpnaaGreatDoor
namespace Go.Proofs.YtdkjckiialnpnaaGreatDoor
open Go.ChangeShapes Go.WideShapes Go.ChangeAt Go.RowKit
theorem own : ownKnob Tryz.prog.godebug = none := by kernel_rfl
theorem laidOut : laidOutB Tryz.prog = true := by kernel_rfl
theorem gBrType : (Tryz.prog.globals[0]?).map (·.type) = some 222 := by kernel_rfl
theorem cells32 : Tryz.prog.cellsOf 222 = 32 := by kernel_rfl
theorem cells8 : Tryz.prog.cellsOf 5 = 1 := by kernel_rfl
theorem t32_of {W : World} (h : laidMetH Tryz.prog [("math/bits.deBruijn32tab", Rows.laid_math_bits_deBruijn32tab)] W) : T32 W := by
 rw [MakeChecks.laidMetH_plain _ _ _ (by kernel_rfl)] at h
 exact Lib.tabIs_of_head (rest := []) gBr gBrType Tryz.underlying222 Tryz.underlying5 cells8 cells32 (show laidMet Tryz.prog (("math/bits.deBruijn32tab", Lib.tabData .u8 (Lib.deBruijn32tab.map (fun n : Nat => (n : Int)))) :: []) W from h)
section
variable {H : Type} {enc : TypeId × Value → H} {P : Program} {w : World} {base : Nat} {spare : Nat → Bool} {held : Bool}
end
end Go.Proofs.YtdkjckiialnpnaaGreatDoor
namespace Go.Proofs.YtdkjckiialnpnaaGreatDoor
open Go.ChangeShapes Go.WideShapes Go.ChangeAt Go.RowKit Go.Joins
theorem cells62 : Tryz.prog.cellsOf 22 = 1 := by kernel_rfl
theorem wide_u32 {n : Int} (h : (Lit.int .u32 n).wf = true) : 0 ≤ n ∧ n ≤ 4294967295 := bounds_u32 h
theorem cellsZ : Tryz.prog.cellsOf 48 = 2 := by kernel_rfl
theorem ws_of_trod {H : Type} {enc : TypeId × Value → H} {W : World} {v : Value} {y : DataW H × List MemPlace} {fuel : Nat} (hf : DataW.trod enc Tryz.prog W 0 (fun _ => true) true fuel 46 [v] = some y) : ∃ a n c l, v = .slice a n c ∧ Ws W v l := by
 rcases open_ints Tryz.underlying46 Tryz.underlying22 cells62 hf with ⟨hcs, hx⟩ | ⟨a, len', cap', zs, hcs, _, hl, hm, hz, hx, hcell, hwz⟩
 ·simp only [List.cons.injEq, and_true] at hcs
  subst hcs
  exact ⟨none, 0, 0, [], rfl, .inl ⟨_, _, rfl, rfl⟩⟩
 ·simp only [List.cons.injEq, and_true] at hcs
  subst hcs
  simp only [if_true] at hz
  refine ⟨some a, len', cap', ?_⟩
  by_cases h0 : len' = 0
  ·subst h0
   exact ⟨[], rfl, .inl ⟨_, _, rfl, rfl⟩⟩
  ·have hll : ((zs.take len').map Int.toNat).length = len' := by simp; omega
   refine ⟨(zs.take len').map Int.toNat, rfl, .inr ⟨a, cap', by rw [hll], ?_, ?_, ?_⟩⟩
   ·intro x hx
    obtain ⟨z, hz1, rfl⟩ := List.mem_map.1 hx
    have := wide_u32 (hwz z (List.mem_of_mem_take hz1))
    omega
   ·intro i hi
    rw [hll] at hi
    have hi2 : i < zs.length := by omega
    have e := hcell i hi2
    rw [show zs.getD i 0 = zs[i] by simp [List.getD, hi2]] at e
    have hw := wide_u32 (hwz zs[i] (List.getElem_mem hi2))
    rw [e]
    simp only [List.getElem_map, List.getElem_take]
    rw [Int.toNat_of_nonneg hw.1]
   ·have e := hcell 0 (by omega)
    have := World.block_lt_of_cell? W _ e
    rw [show (a.add 0).block = a.block from by unfold Addr.add; split <;> rfl] at this
    exact this
theorem cellsG : Tryz.prog.cellsOf 50 = 3 := by kernel_rfl
theorem cellsW : Tryz.prog.cellsOf 46 = 1 := by kernel_rfl
theorem cellsB : Tryz.prog.cellsOf 4 = 1 := by kernel_rfl
set_option maxRecDepth 100000 in
theorem great_of {H : Type} {enc : TypeId × Value → H} {W : World} {base : Nat} {v : Value} {d : DataW H} {p : List MemPlace} (hv : Value.okWide Tryz.prog W .any base 50 v)
  (h : DataW.Trod enc Tryz.prog W 0 (fun _ => true) true 50 v d p) : ∃ s a q n c m d l k, v = .agg #[.bool s, .slice a n c, .slice q m d] ∧ Ws W (.slice a n c) l ∧ Ws W (.slice q m d) k := by
 obtain ⟨cs, rfl, hsz⟩ := okWide_struct Tryz.underlying50 hv
 obtain ⟨c0, c1, c2, rfl⟩ := array3 (hsz.trans cellsG)
 obtain ⟨fuel, hf⟩ := h
 obtain ⟨y0, y1, n, hx, _, h0, h1⟩ := trod_struct2 Tryz.underlying50 hf
 simp only [cellsZ, cellsW] at h0 h1
 obtain ⟨z0, z1, m, hz, _, g0, g1⟩ := trod_struct2 Tryz.underlying48 h0
 simp only [cellsB, cellsW] at g0 g1
 obtain ⟨s, e0, -⟩ := DataW.trod_bool Tryz.underlying4 g0
 obtain ⟨a1, n1, k1, l1, r1, w1⟩ := ws_of_trod g1
 obtain ⟨a2, n2, k2, l2, r2, w2⟩ := ws_of_trod h1
 simp [Value.cells] at e0 r1 r2
 subst e0 r1 r2
 exact ⟨s, a1, a2, n1, k1, n2, k2, l1, l2, rfl, w1, w2⟩
end Go.Proofs.YtdkjckiialnpnaaGreatDoor
