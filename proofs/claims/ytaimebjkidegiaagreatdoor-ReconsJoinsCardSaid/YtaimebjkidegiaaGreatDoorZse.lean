/-
  The law answers true at every input, and leaves its arguments as they were: a part of the proof. CONDITIONS: the package-level tables start as the program's text lays them (the card ties them).
-/
import Derived.Test.YtaimebjkidegiaaGreatDoorZsd
import Derived.Test.YtaimebjkidegiaaGreatDoorTie
import Derived.Test.YtaimebjkidegiaaGreatDoorCards
set_option linter.unusedVariables false
set_option linter.unusedSimpArgs false
namespace Go.Proofs.YtaimebjkidegiaaGreatDoor
open Go.RowKit
attribute [local irreducible] lo hs sm s64 c64 d64 b64 mh ml pd pc qd qc val hiB str cmpI srD lz nb isq zl zh zs fe
def NewS (x : Nat × List Value × Nat) (v : Value) (w : World) : Prop := ∃ g, v = .slice (some ⟨g, 0, none⟩) x.2.2 x.2.2 ∧ x.1 ≤ g ∧ Hd w g x.2.1
theorem stays_news (x : Nat × List Value × Nat) : Stays (NewS x) := fun _ _ _ hb ⟨g, h1, h2, h3⟩ => ⟨g, h1, h2, h3.below hb⟩
theorem news_parts {B n : Nat} {c : List Value} {v : Value} {w : World} (h : NewS (B, c, n) v w) : ∃ g, v = .slice (some ⟨g, 0, none⟩) n n ∧ B ≤ g ∧ Hd w g c := h
theorem news_mk {B n : Nat} {c : List Value} {t : TypeId} {w : World} (h : B ≤ w.heap.size) : NewS (B, c, n) (.slice (some ⟨w.heap.size, 0, none⟩) n n) (w.alloc (.cells c.toArray t)) := ⟨_, rfl, h, hd_new w c t⟩
theorem ty_val8 {P : Program} {o : Oper} {a : Act} {w w' : World} {T : Value → World → Prop} {u : Value} (hr : (execOp a.eval o).run P w = .ok (.value u) w') (hb : Below w.heap.size w w') (ht : T u w') : tyUpon P w T ((execOp a.eval o).run P w) := by
 rw [hr]; exact ⟨hb, ht⟩
theorem new_rest (w : World) : (Instr.alloc 55 true (.tuple #[])).run Tryz.prog w = .ok (.pointer (some ⟨w.heap.size, 0, none⟩)) (w.alloc (.cells #[.int .u64 0, .string ⟨#[]⟩, .bool false, .int .u64 0, .string ⟨#[]⟩] 55)) := by
 simp [go_sem, Instr.alloc]
theorem put_rest (i0 i : Int) (s0 s : ByteArray) (b0 b : Bool) (j0 j : Int) (t0 t : ByteArray) (w : World) (k : Nat) (h : Hd w k [.int .u64 i0, .string s0, .bool b0, .int .u64 j0, .string t0]) :
  ∃ w', (Instr.storeAt 55 (.pointer (some ⟨k, 0, none⟩)) (.agg #[.int .u64 i, .string s, .bool b, .int .u64 j, .string t])).run Tryz.prog w = .ok () w' ∧ Hd w' k [.int .u64 i, .string s, .bool b, .int .u64 j, .string t] ∧ Upd k w w' := by
 have h0 : w.cell? ⟨k, 0, none⟩ = some (.int .u64 i0) := h.cell 0 (by simp)
 have h1 : w.cell? ⟨k, 1, none⟩ = some (.string s0) := h.cell 1 (by simp)
 have h2 : w.cell? ⟨k, 2, none⟩ = some (.bool b0) := h.cell 2 (by simp)
 have h3 : w.cell? ⟨k, 3, none⟩ = some (.int .u64 j0) := h.cell 3 (by simp)
 have h4 : w.cell? ⟨k, 4, none⟩ = some (.string t0) := h.cell 4 (by simp)
 have hf := h.frz
 refine ⟨_, ?_, setAll_hd [.int .u64 i, .string s, .bool b, .int .u64 j, .string t] 0 w k [] [.int .u64 i0, .string s0, .bool b0, .int .u64 j0, .string t0] rfl rfl h, ((((((Upd.refl k w).setCell 0 _).setCell 1 _).setCell 2 _).setCell 3 _).setCell 4 _)⟩
 simp [go_sem, Instr.storeAt, Instr.sureAddr, h0, h1, h2, h3, h4, hf, setAll]
set_option maxHeartbeats 16000000 in
set_option maxRecDepth 100000 in
theorem pjoins_w (sx : Bool) (ax al : Option Addr) (nx cx n cl : Nat) (tn tu ia fm qm : Int) (ll : List Nat) (cs : List (Int × Nat)) (kk : Nat) (R0 : Int) (M0 : Nat) (P : Nat → Int → Nat → Prop)
  (hlen : ll.length = n) (hcl : cs.length = n) (hn0 : 0 < n) (hn6 : n ≤ 6) (l0 : decide ((8 : Int) < (nx : Int)) = false) (k0 : decide (8 < nx) = false)
  (htu : IntKind.u64.wrap tn = tu) (hkt : tu.tmod (n : Int) = (kk : Int)) (hkk : kk < n)
  (hmm : ∀ i (h : i < ll.length) (h' : i < cs.length), max ((ll[i]'h : Nat) : Int) 1 = (((cs[i]'h').2 : Nat) : Int) ∧ (((cs[i]'h').2 : Nat) : Int) % 18446744073709551616 = (((cs[i]'h').2 : Nat) : Int))
  (HR : ∀ i (h : i < cs.length), ∃ (bb : Bool) (zz : Int), (i : Int).tmod 2 = zz ∧ (zz == 0) = bb ∧ ∃ fi : Int, (∀ w, Calls Tryz.prog 19 #[.bool bb, natV (cs[i]'h).2] w fun xe w' => xe = .returned (intV fi) ∧ Below w.heap.size w w') ∧ (∀ w, Calls Tryz.prog 18 #[intV ia, intV fi] w fun xe w' => xe = .returned (intV (cs[i]'h).1) ∧ Below w.heap.size w w') ∧ (∀ w, Calls Tryz.prog 17 #[.int .u64 (((cs[i]'h).2 : Nat) : Int)] w fun xe w' => xe = .returned (natV (cs[i]'h).2) ∧ Below w.heap.size w w'))
  (KX : World → Prop) (hKX : Keeps KX) (HZ : ∀ w, KX w → Calls Tryz.prog 16 #[.agg #[.bool sx, .slice ax nx cx]] w fun xe w' => xe = .returned (intV ia) ∧ Below w.heap.size w w')
  (HC : ∀ (v : Value) (w : World), SlR w v (cs) → Calls Tryz.prog 20 #[v] w fun xe w' => xe = .returned (.tuple #[frV R0 M0, .int .i64 0]) ∧ Below w.heap.size w w') (HCt : ∀ (v : Value) (w : World), SlR w v (cs.drop kk ++ cs.take kk) → Calls Tryz.prog 20 #[v] w fun xe w' => xe = .returned (.tuple #[frV R0 M0, .int .i64 0]) ∧ Below w.heap.size w w') (HO : ∀ w, Calls Tryz.prog 17 #[.int .u64 1] w fun xe w' => xe = .returned (natV 1) ∧ Below w.heap.size w w')
  (HFM : ∀ w, Calls Tryz.prog 19 #[.bool false, natV M0] w fun xe w' => xe = .returned (intV fm) ∧ Below w.heap.size w w') (HDM : ∀ w, Calls Tryz.prog 21 #[intV ia, intV fm] w fun xe w' => xe = .returned (.tuple #[intV qm, intV R0, .bool true]) ∧ Below w.heap.size w w')
  (HJ : ∀ j z m (h : j < cs.length), P j z m → ∃ z2 m2, P (j + 1) z2 m2 ∧ ∀ (v : Value) (w : World), SlR w v ([(z, m), cs[j]'h]) → Calls Tryz.prog 20 #[v] w fun xe w' => xe = .returned (.tuple #[frV z2 m2, .int .i64 0]) ∧ Below w.heap.size w w') (hP0 : P 0 0 1) (hPn : ∀ z m, P n z m → R0 = z ∧ M0 = m)
  (HD : ∀ i (h : i < cs.length), ∃ qd : Nat, ∀ w, Calls Tryz.prog 22 #[natV M0, natV (cs[i]'h).2] w fun xe w' => xe = .returned (.tuple #[natV qd, .agg #[.int .u64 0, .string ⟨#[]⟩], .bool true]) ∧ Below w.heap.size w w')
  (HG : ∀ i (h : i < cs.length), ∃ (yb zb : Int) (mb : Nat) (eb : Int), (∀ w, Calls Tryz.prog 18 #[intV (cs[i]'h).1, intV 1] w fun xe w' => xe = .returned (intV yb) ∧ Below w.heap.size w w') ∧ (∀ (v : Value) (w : World), SlR w v ([(R0, M0), (yb, (cs[i]'h).2)]) → Calls Tryz.prog 20 #[v] w fun xe w' => xe = .returned (.tuple #[frV zb mb, .int .i64 eb]) ∧ Below w.heap.size w w') ∧ ((cs[i]'h).2 = 1 → eb = 0) ∧ ((cs[i]'h).2 ≠ 1 → eb = 6))
  (HO1 : ∀ w, Calls Tryz.prog 23 #[.int .i64 1] w fun xe w' => xe = .returned (intV 1) ∧ Below w.heap.size w w') (KT : World → Prop) (hKT : Keeps KT) (HW : ∀ w, KT w → Calls Tryz.prog 15 #[] w fun xe w' => xe = .returned (.bool true) ∧ Below w.heap.size w w')
  (w : World) (kKX : KX w) (kKT : KT w) (hq : 0 < n → ∃ a, al = some a ∧ Wd w a ll) :
  Calls Tryz.prog 4 #[.agg #[.bool sx, .slice ax nx cx], .slice al n cl, .int .i64 tn] w fun xe w' => xe = .returned (.bool true) ∧ Below w.heap.size w w' := by
 have l1 : decide ((6 : Int) < (n : Int)) = false := decide_eq_false (by omega)
 have k1 : decide (6 < n) = false := decide_eq_false (by omega)
 replace hlen := Lib.hid hlen
 replace hcl := Lib.hid hcl
 replace hn0 := Lib.hid hn0
 replace hn6 := Lib.hid hn6
 replace htu := Lib.hid htu
 replace hkt := Lib.hid hkt
 replace hkk := Lib.hid hkk
 replace hmm := Lib.hid hmm
 replace HR := Lib.hid HR
 replace hKX := Lib.hid hKX
 replace HZ := Lib.hid HZ
 replace HC := Lib.hid HC
 replace HCt := Lib.hid HCt
 replace HO := Lib.hid HO
 replace HFM := Lib.hid HFM
 replace HDM := Lib.hid HDM
 replace HJ := Lib.hid HJ
 replace hP0 := Lib.hid hP0
 replace hPn := Lib.hid hPn
 replace HD := Lib.hid HD
 replace HG := Lib.hid HG
 replace HO1 := Lib.hid HO1
 replace hKT := Lib.hid hKT
 replace HW := Lib.hid HW
 replace hq := Lib.hid hq
 obtain ⟨iF, hi, hz0, hz1, hz2⟩ := info_parts infoS
 replace hi := Lib.hid hi
 replace hz0 := Lib.hid hz0
 replace hz1 := Lib.hid hz1
 replace hz2 := Lib.hid hz2
 have hL0 : GL w w [] := GL.start w
 have hS : SS w [] := SS.nil w
 replace hS := (hS.new (.cells #[.bool sx, .slice ax nx cx] 48))
 replace hL0 := (hL0.new rfl [.bool sx, .slice ax nx cx] 48)
 generalize hweq : (w.alloc (.cells #[.bool sx, .slice ax nx cx] 48)) = x1 at hL0 hS
 go_enter Tryz.func4, Tryz.ntmps4
 have hN0 := cells_of _ 0 [] rfl (hL0.get _ _ List.mem_cons_self)
 simp only [cellsF, and_true, Nat.zero_add, Nat.reduceAdd] at hN0
 go_wp2_with fail
 clear hN0
 with_reducible refine Calls.mono (HZ.out _ (hKX.out.at hL0.bl kKX)) ?_
 rintro e x2 ⟨rfl, hb⟩
 replace hL0 := hL0.call hb
 replace hS := hS.call hb
 clear hb hweq
 replace hS := (hS.new (.cells #[.int .u64 ((zl ia : Nat) : Int), .string (zh ia), .bool (zs ia)] 32))
 replace hL0 := (hL0.new rfl [.int .u64 ((zl ia : Nat) : Int), .string (zh ia), .bool (zs ia)] 32)
 generalize hweq : (x2.alloc (.cells #[.int .u64 ((zl ia : Nat) : Int), .string (zh ia), .bool (zs ia)] 32)) = x3 at hL0 hS
 go_wp2_with fail
 clear hweq
 have hk0 : x2.heap.size < x3.heap.size := (hL0.get _ _ List.mem_cons_self).lt
 have hk1 : w.heap.size < x3.heap.size := (hL0.get _ _ (List.mem_cons_of_mem _ List.mem_cons_self)).lt
 have hwE : w.heap.size ≤ x3.heap.size := hL0.bl.size
 obtain ⟨E, hE⟩ : ∃ E, E = x3.heap.size := ⟨_, rfl⟩
 rw [← hE] at hwE hk0 hk1
 have hBS : ∀ k ∈ ([x2.heap.size, w.heap.size] : List Nat), k < E := by intro k hk; simp only [List.mem_cons, List.not_mem_nil, or_false] at hk; rcases hk with rfl | rfl <;> assumption
 clear hk0 hk1
 replace hBS := Lib.hid hBS
 replace hwE := Lib.hid hwE
 go_loopw [8, 10] (fun v z wr => ∃ (i : Nat) (zi : Int) (va : Value), va = v ∧ i ≤ n ∧ z = .int .i64 zi ∧ zi = (i : Int) ∧ E ≤ wr.heap.size ∧ wr.ownsRow E 55 5 va i (rsCs (cs.take i)) ∧ GL w wr [(x2.heap.size, [.int .u64 ((zl ia : Nat) : Int), .string (zh ia), .bool (zs ia)]), (w.heap.size, [.bool sx, .slice ax nx cx])]) (fun _ z _ => n - (intOf z).toNat)
 case atStart => exact ⟨0, _, _, rfl, Nat.zero_le _, rfl, rfl, Nat.le_of_eq hE, by rw [List.take_zero, rsCs_nil]; exact World.ownsRow_nil _ _ _ _, hL0⟩
 case round =>
  clear hL0 hE hS
  obtain ⟨i, zi, va, rfl, hi1, rfl, hzi, hEw, hown, hL0⟩ := hrel
  have hS : SS wr [] := SS.nil wr
  rcases Nat.lt_or_ge i n with hin | hin
  ·subst hzi
   obtain ⟨q9, rfl, hqa⟩ := hq.out (by omega)
   have hln := hlen.out
   have hlc := hcl.out
   have k1 : (i : Int) < (n : Int) := by omega
   have k0 : (0 : Int) ≤ (i : Int) := Int.natCast_nonneg _
   have kb : (i : Int) ≤ 6 := by have := hn6.out; omega
   have c0 := (hqa.below hL0.bl).cell i (by omega)
   obtain ⟨bb, zz, hzm, hbm, fi, HF1, HA1, HN1⟩ := HR.out i (by omega)
   obtain ⟨hmx, hm64⟩ := hmm.out i (by omega) (by omega)
   obtain ⟨u, hu⟩ : ∃ u : Nat, u = ll[i]'(by omega) := ⟨_, rfl⟩
   rw [← hu] at c0 hmx
   have htk := Lib.hid (show cs.take (i + 1) = cs.take i ++ [cs[i]'(by omega)] from List.take_succ_eq_append_getElem (by omega))
   obtain ⟨y, hy⟩ : ∃ y, y = (cs[i]'(by omega)).1 := ⟨_, rfl⟩
   obtain ⟨m, hm⟩ : ∃ m, m = (cs[i]'(by omega)).2 := ⟨_, rfl⟩
   rw [← hm] at HF1 HN1 hmx hm64
   rw [← hy] at HA1
   have hpair := Lib.hid (show cs[i]'(by omega) = (y, m) from by rw [hy, hm])
   rw [hpair.out] at htk
   clear hu hy hm hqa
   replace HF1 := Lib.hid HF1
   replace HA1 := Lib.hid HA1
   replace HN1 := Lib.hid HN1
   replace hown := Lib.hid hown
   replace hEw := Lib.hid hEw
   replace hin := Lib.hid hin
   replace hi1 := Lib.hid hi1
   go_wp2_with fail
   with_reducible refine Calls.mono (HN1.out _) ?_
   rintro e x4 ⟨rfl, hb⟩
   have hbq : Below wr.heap.size wr x4 := hb
   replace hown := Lib.hid (ownR_below hown.out hbq)
   replace hEw := Lib.hid (Nat.le_trans hEw.out hbq.size)
   clear hbq
   replace hL0 := hL0.call hb
   replace hS := hS.call hb
   clear hb
   replace hS := (hS.new (.cells #[.int .u64 ((lo m : Nat) : Int), .string (hs m)] 30))
   replace hL0 := (hL0.new rfl [.int .u64 ((lo m : Nat) : Int), .string (hs m)] 30)
   generalize hweq : (x4.alloc (.cells #[.int .u64 ((lo m : Nat) : Int), .string (hs m)] 30)) = x5 at hL0 hS
   have hbq : Below x4.heap.size x4 x5 := by rw [← hweq]; exact (Below.refl _ _).alloc (Nat.le_refl _) _
   replace hown := Lib.hid (ownR_below hown.out hbq)
   replace hEw := Lib.hid (Nat.le_trans hEw.out hbq.size)
   clear hbq
   go_upto_region 9 with fail
   clear hweq
   refine region_tl 11 [EV va, EV (.agg #[.int .u64 ((zl ia : Nat) : Int), .string (zh ia), .bool (zs ia)]), EV (.int .i64 (i : Int)), EV (.int .i64 zz), EV (.bool bb), EV (.agg #[.int .u64 ((lo m : Nat) : Int), .string (hs m)]), EV (.agg #[.int .u64 ((zl fi : Nat) : Int), .string (zh fi), .bool (zs fi)]), EV (.agg #[.int .u64 ((zl y : Nat) : Int), .string (zh y), .bool (zs y)]), EV (.agg #[.int .u64 ((lo m : Nat) : Int), .string (hs m)]), EV (.agg #[.int .u64 ((zl y : Nat) : Int), .string (zh y), .bool (zs y), .int .u64 ((lo m : Nat) : Int), .string (hs m)]), NewS (x5.heap.size, [.int .u64 ((zl y : Nat) : Int), .string (zh y), .bool (zs y), .int .u64 ((lo m : Nat) : Int), .string (hs m)], 1)] (by kernel_rfl) (by kernel_rfl) ?_ ?_ ?_
   ·exact stays_cons (stays_eq _) (stays_cons (stays_eq _) (stays_cons (stays_eq _) (stays_cons (stays_eq _) (stays_cons (stays_eq _) (stays_cons (stays_eq _) (stays_cons (stays_eq _) (stays_cons (stays_eq _) (stays_cons (stays_eq _) (stays_cons (stays_eq _) (stays_cons (stays_news _) (stays_nil)))))))))))
   ·simp only [List.take_succ_cons, List.take_zero, hopsR, and_true]
    refine ⟨?_, ?_, ?_, ?_, ?_, ?_, ?_, ?_, ?_, ?_, ?_⟩ <;> intro fv w1 hb1 hp
    all_goals (simp only [putsV, Act.put, List.setIfInBounds_toArray, List.set_cons_succ, List.set_cons_zero, Nat.zero_add, Nat.reduceAdd])
    ·refine tyAt_none rfl ?_
     simp [tyUpon, execOp, go_sem, Act.eval, hzm, hbm, Below.refl]
    ·refine tyAt_none rfl ?_
     have hc := (hL0.call (below_drew hb1)).fc
     simp only [fcG, cellsF, neK, and_true, ne_eq, Nat.zero_add, Nat.reduceAdd] at hc
     simp [tyUpon, execOp, go_sem, Act.eval, hc, hzm, hbm, Below.refl]
    ·refine tyAt_none rfl ?_
     simp [tyUpon, execOp, go_sem, Act.eval, hzm, hbm, Below.refl]
    ·have h2 : EV _ (fv 2) w1 := hp 2 (LC (by kernel_rfl))
     refine tyAt_none rfl ?_
     simp [tyUpon, execOp, go_sem, Act.eval, h2, hzm, hbm, Below.refl]
    ·have h3 : EV _ (fv 3) w1 := hp 3 (LC (by kernel_rfl))
     refine tyAt_none rfl ?_
     simp [tyUpon, execOp, go_sem, Act.eval, h3, hzm, hbm, Below.refl]
    ·refine tyAt_none rfl ?_
     have hc := (hL0.call (below_drew hb1)).fc
     simp only [fcG, cellsF, neK, and_true, ne_eq, Nat.zero_add, Nat.reduceAdd] at hc
     simp [tyUpon, execOp, go_sem, Act.eval, hc, hzm, hbm, Below.refl]
    ·have h4 : EV _ (fv 4) w1 := hp 4 (LC (by kernel_rfl))
     have h5 : EV _ (fv 5) w1 := hp 5 (LC (by kernel_rfl))
     refine tyAt_none rfl ?_
     refine ty_call (f := 19) (args := #[.bool bb, .agg #[.int .u64 ((lo m : Nat) : Int), .string (hs m)]]) (by simp [execOp, go_sem, Act.eval, h4, h5]) ?_
     exact (HF1.out w1).mono fun e w2 ⟨h1, h2⟩ => ⟨_, h1, rfl, h2⟩
    ·have h1 : EV _ (fv 1) w1 := hp 1 (LC (by kernel_rfl))
     have h6 : EV _ (fv 6) w1 := hp 6 (LC (by kernel_rfl))
     refine tyAt_none rfl ?_
     refine ty_call (f := 18) (args := #[.agg #[.int .u64 ((zl ia : Nat) : Int), .string (zh ia), .bool (zs ia)], .agg #[.int .u64 ((zl fi : Nat) : Int), .string (zh fi), .bool (zs fi)]]) (by simp [execOp, go_sem, Act.eval, h1, h6]) ?_
     exact (HA1.out w1).mono fun e w2 ⟨h1, h2⟩ => ⟨_, h1, rfl, h2⟩
    ·refine tyAt_none rfl ?_
     have hc := (hL0.call (below_drew hb1)).fc
     simp only [fcG, cellsF, neK, and_true, ne_eq, Nat.zero_add, Nat.reduceAdd] at hc
     simp [tyUpon, execOp, go_sem, Act.eval, hc, hzm, hbm, Below.refl]
    ·have h7 : EV _ (fv 7) w1 := hp 7 (LC (by kernel_rfl))
     have h8 : EV _ (fv 8) w1 := hp 8 (LC (by kernel_rfl))
     refine tyAt_none rfl ?_
     simp [tyUpon, execOp, go_sem, Act.eval, h7, h8, hzm, hbm, Below.refl]
    ·have h9 : EV _ (fv 9) w1 := hp 9 (LC (by kernel_rfl))
     refine tyAt_none rfl ?_
     refine ty_val8 (u := .slice (some ⟨w1.heap.size, 0, none⟩) 1 1) (w' := w1.alloc (.cells #[.int .u64 ((zl y : Nat) : Int), .string (zh y), .bool (zs y), .int .u64 ((lo m : Nat) : Int), .string (hs m)] 55)) (by simp [execOp, go_sem, Act.eval, h9]) ((Below.refl _ _).alloc (Nat.le_refl _) _) (news_mk (below_drew hb1).size)
   ·intro fv x6 hb1 hv
    have e0 : fv 0 = _ := hv 0 (by omega)
    have e1 : fv 1 = _ := hv 1 (by omega)
    have e2 : fv 2 = _ := hv 2 (by omega)
    have e3 : fv 3 = _ := hv 3 (by omega)
    have e4 : fv 4 = _ := hv 4 (by omega)
    have e5 : fv 5 = _ := hv 5 (by omega)
    have e6 : fv 6 = _ := hv 6 (by omega)
    have e7 : fv 7 = _ := hv 7 (by omega)
    have e8 : fv 8 = _ := hv 8 (by omega)
    have e9 : fv 9 = _ := hv 9 (by omega)
    have q10 : NewS ((x5.heap.size, [.int .u64 ((zl y : Nat) : Int), .string (zh y), .bool (zs y), .int .u64 ((lo m : Nat) : Int), .string (hs m)], 1)) (fv 10) x6 := hv 10 (by omega)
    obtain ⟨g1, e10, ng1, mg1⟩ := news_parts q10
    rw [e10] at q10
    simp only [List.take_succ_cons, List.take_zero, putsV, Act.put, List.setIfInBounds_toArray, List.set_cons_succ, List.set_cons_zero, List.drop_succ_cons, List.drop_zero, Nat.zero_add, Nat.reduceAdd, e0, e1, e2, e3, e4, e5, e6, e7, e8, e9, e10]
    replace hL0 := hL0.call (below_drew hb1)
    replace hS := hS.call (below_drew hb1)
    have hb9 := Lib.hid (below_drew hb1)
    clear e0 e1 e2 e3 e4 e5 e6 e7 e8 e9 e10 hb1 hv q10 fv
    replace hown := Lib.hid (ownR_below hown.out hb9.out)
    replace hEw := Lib.hid (Nat.le_trans hEw.out hb9.out.size)
    clear hb9
    have hnw := Lib.hid (hd_newsP mg1)
    have hne := Lib.hid (show ∀ u ∈ ([.int .u64 ((zl y : Nat) : Int), .string (zh y), .bool (zs y), .int .u64 ((lo m : Nat) : Int), .string (hs m)] : List Value), u.oneCell' = true from rsC_one (y, m))
    go_wp2_with (at_builtin; refine wpList_append_own _ rfl _ _ 50 rfl E 55 iF (.agg #[.int .u64 0, .string ⟨#[]⟩, .bool false, .int .u64 0, .string ⟨#[]⟩]) 5 56 Tryz.underlying50 hi.out hz0.out hz1.out hz2.out rfl (by decide) _ _ _ rfl hown.out ⟨g1, 0, none⟩ 1 1 [.int .u64 ((zl y : Nat) : Int), .string (zh y), .bool (zs y), .int .u64 ((lo m : Nat) : Int), .string (hs m)] rfl rfl hnw.out hne.out (by unfold maxLen; have := hi1.out; have := hn6.out; omega) (by have := hi1.out; have := hn6.out; omega) hEw.out ?_)
    intro v' w1 hown' hgrow _
    have hown4 : w1.ownsRow E 55 5 v' (i + 1) (rsCs (cs.take (i + 1))) := by rw [htk.out, rsCs_snoc]; exact hown'
    have hb4 : Below E x6 w1 := (Below.refl E x6).grown hgrow hEw.out (fun j hj => (hown.out.lt j hj).1)
    replace hL0 := (hL0.weak (List.Sublist.cons _ (List.Sublist.refl _))).belowR hb4 (fun p hp => hBS.out p.1 (List.mem_map.2 ⟨p, hp, rfl⟩)) hwE.out
    have hE4 : E ≤ w1.heap.size := Nat.le_trans hEw.out hgrow.size
    clear hown' hgrow hb4 hown hEw hnw hne mg1 ng1 hS
    replace hown4 := Lib.hid hown4
    replace hE4 := Lib.hid hE4
    go_wp2_with fail
    go_roundw
    case rel => exact ⟨i + 1, _, _, rfl, by have := hin.out; omega, by first | rfl | go_num, by omega, hE4.out, hown4.out, hL0⟩
    case measure => have := hin.out; simp [intOf] <;> omega
  ·obtain rfl : i = n := by omega
   subst hzi
   have k1 : ¬ (i : Int) < (i : Int) := by omega
   have htl : cs.take i = cs := List.take_of_length_le (by have := hcl.out; omega)
   rw [htl] at hown
   obtain ⟨ga, ca, rfl, hga0, hga, hnca⟩ := ownR_form hown rfl hn0.out
   replace hown := Lib.hid hown
   clear htl hin hi1
   have g1 : decide ((0 : Int) < (i : Int)) = true := decide_eq_true (by have := hn0.out; omega)
   have g2 : decide (0 < i) = true := decide_eq_true hn0.out
   have q1 := Lib.hid (show 0 + (i - kk) ≤ maxLen by unfold maxLen; have := hn6.out; omega)
   have q2 := Lib.hid (show (0 + (i - kk)) * 56 ≤ 140737488355328 by have := hn6.out; omega)
   have q3 := Lib.hid (show kk ≤ cs.length by have := hcl.out; have := hkk.out; omega)
   have q4 := Lib.hid (show i - kk + kk ≤ maxLen by unfold maxLen; have := hn6.out; have := hkk.out; omega)
   have q5 := Lib.hid (show (i - kk + kk) * 56 ≤ 140737488355328 by have := hn6.out; have := hkk.out; omega)
   have e6 : ¬ (i : Int) = 0 := by have := hn0.out; omega
   have e7 : ((i : Int) == 0) = false := beq_eq_false_iff_ne.2 e6
   have e3 : (i : Int) % 18446744073709551616 = (i : Int) := by have := hn6.out; omega
   have e4 : wrap64 (kk : Int) = (kk : Int) := by unfold wrap64; have := hkk.out; have := hn6.out; omega
   replace e4 := Lib.hid e4
   have e5 : IntKind.i64.wrap (kk : Int) = (kk : Int) := IntWalk.i64_in _ (by have := hkk.out; have := hn6.out; omega)
   replace e4 := e4.out
   have htu2 := htu.out
   have hkt2 := hkt.out
   have hL0w := Lib.hid hL0.bl
   have h7x := Lib.hid (hL0.get _ _ List.mem_cons_self)
   have hkl := hkk.out
   have hsl1 := slice_fromRK wr ga i ca kk hkl hnca
   go_wp2_with (at_builtin; refine wpList_append_own _ rfl _ _ 50 rfl wr.heap.size 55 iF (.agg #[.int .u64 0, .string ⟨#[]⟩, .bool false, .int .u64 0, .string ⟨#[]⟩]) 5 56 Tryz.underlying50 hi.out hz0.out hz1.out hz2.out rfl (by decide) _ _ _ rfl (World.ownsRow_nil wr _ _ _) ⟨ga, kk * 5, none⟩ (i - kk) (ca - kk) (rsCs (cs.drop kk)) rfl (by rw [rsCs_length, List.length_drop, hcl.out]) (ownR_dropK hown.out q3.out) (rsCs_one _) q1.out q2.out (Nat.le_refl _) ?_)
   intro v3 w3 hown3 hgrow3 _
   have hB3 : Below wr.heap.size wr w3 := (Below.refl _ _).grown hgrow3 (Nat.le_refl _) (fun j hj => by cases hj)
   have hown5 := Lib.hid (ownR_below hown.out hB3)
   replace hL0 := hL0.call hB3
   replace hown3 : w3.ownsRow wr.heap.size 55 5 v3 (i - kk) (rsCs (cs.drop kk)) := hown3
   clear hsl1 hgrow3 e3 e4 e5 htu2 hkt2
   have hsl2 := slice_toR w3 ga i ca kk hkl hnca
   go_wp2_with (at_builtin; refine wpList_append_own _ rfl _ _ 50 rfl wr.heap.size 55 iF (.agg #[.int .u64 0, .string ⟨#[]⟩, .bool false, .int .u64 0, .string ⟨#[]⟩]) 5 56 Tryz.underlying50 hi.out hz0.out hz1.out hz2.out rfl (by decide) _ _ _ rfl hown3 ⟨ga, 0, none⟩ kk ca (rsCs (cs.take kk)) rfl (by rw [rsCs_length, List.length_take, Nat.min_eq_left q3.out]) (ownR_take hown5.out) (rsCs_one _) q4.out q5.out hB3.size ?_)
   intro v4 y4 hown4 hgrow4 _
   have hB4 : Below wr.heap.size w3 y4 := (Below.refl _ _).grown hgrow4 hB3.size (fun j hj => (hown3.lt j hj).1)
   have hBx : Below wr.heap.size wr y4 := hB3.trans hB4
   rw [← rsCs_append] at hown4
   have hSt := Lib.hid (ownR_slr hown4 (by rw [List.length_append, List.length_drop, List.length_take]; have := hcl.out; omega))
   have hSa := Lib.hid ((ownR_slr hown.out hcl.out.symm).below hBx)
   have hRa := Lib.hid ((ownR_rs hown.out rfl).below hBx)
   have hwy := Lib.hid (hL0w.out.trans (hBx.mono hL0w.out.size))
   have h7 := Lib.hid (h7x.out.below hBx)
   replace kKT := hKT.out.at hwy.out kKT
   obtain ⟨sb, sn, sc, rfl, -⟩ := slr_form hSt.out
   clear hsl2 hgrow4 hown4 hown3 hown5 hown hB3 hB4 hBx hL0 hL0w h7x
   have hL0 : GL y4 y4 [] := GL.start y4
   have hS : SS y4 [] := SS.nil y4
   go_wp2_with fail
   with_reducible refine Calls.mono (HC.out _ _ (hSa.out.below hL0.bl)) ?_
   rintro e x4 ⟨rfl, hb⟩
   replace hL0 := hL0.call hb
   replace hS := hS.call hb
   clear hb
   replace hS := (hS.new (.cells #[.int .u64 ((zl R0 : Nat) : Int), .string (zh R0), .bool (zs R0), .int .u64 ((lo M0 : Nat) : Int), .string (hs M0)] 55))
   replace hL0 := (hL0.new rfl [.int .u64 ((zl R0 : Nat) : Int), .string (zh R0), .bool (zs R0), .int .u64 ((lo M0 : Nat) : Int), .string (hs M0)] 55)
   generalize hweq : (x4.alloc (.cells #[.int .u64 ((zl R0 : Nat) : Int), .string (zh R0), .bool (zs R0), .int .u64 ((lo M0 : Nat) : Int), .string (hs M0)] 55)) = x5 at hL0 hS
   go_wp2_with fail
   with_reducible refine Calls.mono (HCt.out _ _ (hSt.out.below hL0.bl)) ?_
   rintro e x6 ⟨rfl, hb⟩
   replace hL0 := hL0.call hb
   replace hS := hS.call hb
   clear hb hweq
   replace hS := (hS.new (.cells #[.int .u64 ((zl R0 : Nat) : Int), .string (zh R0), .bool (zs R0), .int .u64 ((lo M0 : Nat) : Int), .string (hs M0)] 55))
   replace hL0 := (hL0.new rfl [.int .u64 ((zl R0 : Nat) : Int), .string (zh R0), .bool (zs R0), .int .u64 ((lo M0 : Nat) : Int), .string (hs M0)] 55)
   generalize hweq : (x6.alloc (.cells #[.int .u64 ((zl R0 : Nat) : Int), .string (zh R0), .bool (zs R0), .int .u64 ((lo M0 : Nat) : Int), .string (hs M0)] 55)) = x7 at hL0 hS
   go_wp2_with fail
   with_reducible refine Calls.mono (HO.out _) ?_
   rintro e x8 ⟨rfl, hb⟩
   replace hL0 := hL0.call hb
   replace hS := hS.call hb
   clear hb hweq
   replace hS := (hS.new (.cells #[.int .u64 0, .string ⟨#[]⟩, .bool false, .int .u64 ((lo 1 : Nat) : Int), .string (hs 1)] 55))
   replace hL0 := (hL0.new rfl [.int .u64 0, .string ⟨#[]⟩, .bool false, .int .u64 ((lo 1 : Nat) : Int), .string (hs 1)] 55)
   generalize hweq : (x8.alloc (.cells #[.int .u64 0, .string ⟨#[]⟩, .bool false, .int .u64 ((lo 1 : Nat) : Int), .string (hs 1)] 55)) = x9 at hL0 hS
   go_wp2_with fail
   clear hweq
   go_loopg [18] i (fun gk iv wr => ∃ (j : Nat) (z : Int) (m : Nat), j + gk = i ∧ iv = .int .i64 (j : Int) ∧ P j z m ∧ GL y4 wr [(x8.heap.size, [.int .u64 ((zl z : Nat) : Int), .string (zh z), .bool (zs z), .int .u64 ((lo m : Nat) : Int), .string (hs m)]), (x6.heap.size, [.int .u64 ((zl R0 : Nat) : Int), .string (zh R0), .bool (zs R0), .int .u64 ((lo M0 : Nat) : Int), .string (hs M0)]), (x4.heap.size, [.int .u64 ((zl R0 : Nat) : Int), .string (zh R0), .bool (zs R0), .int .u64 ((lo M0 : Nat) : Int), .string (hs M0)])])
   case atStart => exact ⟨0, 0, 1, Nat.zero_add i, by first | rfl | go_num, hP0.out, by rw [z0.1, z0.2.1, z0.2.2]; exact hL0⟩
   case round =>
    clear hL0 hS
    obtain ⟨j, z, m, hik, rfl, hP, hL0⟩ := hrel
    have hS : SS wr [] := SS.nil wr
    rcases Nat.lt_or_ge j i with hin | hin
    ·have k1 : (j : Int) < (i : Int) := by omega
     have k0 : (0 : Int) ≤ (j : Int) := Int.natCast_nonneg _
     have kb : (j : Int) ≤ 6 := by have := hn6.out; omega
     have hlc := hcl.out
     have hcell := fun (W : World) (hb : Below y4.heap.size y4 W) => (hRa.out.below hb).cell j (by omega)
     obtain ⟨y, hy⟩ : ∃ y, y = (cs[j]'(by omega)).1 := ⟨_, rfl⟩
     obtain ⟨l, hl⟩ : ∃ l, l = (cs[j]'(by omega)).2 := ⟨_, rfl⟩
     obtain ⟨z2, m2, hP2, HJ1⟩ := HJ.out j z m (by omega) hP
     rw [← hy, ← hl] at hcell
     rw [show cs[j]'(by omega) = (y, l) from by rw [hy, hl]] at HJ1
     replace hcell := Lib.hid hcell
     replace hP2 := Lib.hid hP2
     replace HJ1 := Lib.hid HJ1
     clear hy hl hP
     go_upto_region 21 with fail
     refine region_tbl 10 9 [EV (.agg #[.int .u64 ((zl z : Nat) : Int), .string (zh z), .bool (zs z), .int .u64 ((lo m : Nat) : Int), .string (hs m)]), EV (.slice (some ⟨ga, 0, none⟩) i ca), EV (.int .i64 (j : Int)), EV (.pointer (some ⟨ga, j * 5, none⟩)), EV (.agg #[.int .u64 ((zl y : Nat) : Int), .string (zh y), .bool (zs y), .int .u64 ((lo l : Nat) : Int), .string (hs l)]), NewS (wr.heap.size, [.int .u64 ((zl z : Nat) : Int), .string (zh z), .bool (zs z), .int .u64 ((lo m : Nat) : Int), .string (hs m), .int .u64 ((zl y : Nat) : Int), .string (zh y), .bool (zs y), .int .u64 ((lo l : Nat) : Int), .string (hs l)], 2), EV (.tuple #[.agg #[.int .u64 ((zl z2 : Nat) : Int), .string (zh z2), .bool (zs z2), .int .u64 ((lo m2 : Nat) : Int), .string (hs m2)], .int .i64 0]), EV (.tuple #[.agg #[.int .u64 ((zl z2 : Nat) : Int), .string (zh z2), .bool (zs z2), .int .u64 ((lo m2 : Nat) : Int), .string (hs m2)], .int .i64 0]), EV (.agg #[.int .u64 ((zl z2 : Nat) : Int), .string (zh z2), .bool (zs z2), .int .u64 ((lo m2 : Nat) : Int), .string (hs m2)]), EV (.int .i64 0)] [] (by kernel_rfl) (by kernel_rfl) ?_ ?_ ?_ ?_ ?_ (by rfl) ?_
     ·exact stays_cons (stays_eq _) (stays_cons (stays_eq _) (stays_cons (stays_eq _) (stays_cons (stays_eq _) (stays_cons (stays_eq _) (stays_cons (stays_news _) (stays_cons (stays_eq _) (stays_cons (stays_eq _) (stays_cons (stays_eq _) (stays_cons (stays_eq _) (stays_nil))))))))))
     ·simp only [List.take_succ_cons, List.take_zero, hopsR, and_true]
      refine ⟨?_, ?_, ?_, ?_, ?_, ?_, ?_, ?_, ?_, ?_⟩ <;> intro fv w1 hb1 hp
      all_goals (simp only [putsV, Act.put, List.setIfInBounds_toArray, List.set_cons_succ, List.set_cons_zero, Nat.zero_add, Nat.reduceAdd])
      ·refine tyAt_none rfl ?_
       have hc := (hL0.call (below_drew hb1)).fc
       simp only [fcG, cellsF, neK, and_true, ne_eq, Nat.zero_add, Nat.reduceAdd] at hc
       simp [tyUpon, execOp, go_sem, Act.eval, hc, k1, k0, add0P, addkP, Below.refl]
      ·refine tyAt_none rfl ?_
       simp [tyUpon, execOp, go_sem, Act.eval, k1, k0, add0P, addkP, Below.refl]
      ·refine tyAt_none rfl ?_
       simp [tyUpon, execOp, go_sem, Act.eval, k1, k0, add0P, addkP, Below.refl]
      ·have h1 : EV _ (fv 1) w1 := hp 1 (LC (by kernel_rfl))
       have h2 : EV _ (fv 2) w1 := hp 2 (LC (by kernel_rfl))
       refine tyAt_none rfl ?_
       simp [tyUpon, execOp, go_sem, Act.eval, h1, h2, k1, k0, add0P, addkP, Below.refl]
      ·have h3 : EV _ (fv 3) w1 := hp 3 (LC (by kernel_rfl))
       refine tyAt_none rfl ?_
       obtain ⟨f0, f1, f2, f3, f4⟩ := hcell.out w1 (hL0.call (below_drew hb1)).bl
       have hc := (hL0.call (below_drew hb1)).fc
       simp only [fcG, cellsF, neK, and_true, ne_eq, Nat.zero_add, Nat.reduceAdd] at hc
       simp [tyUpon, execOp, go_sem, Act.eval, hc, h3, k1, k0, add0P, addkP, f0, f1, f2, f3, f4, Below.refl]
      ·have h0 : EV _ (fv 0) w1 := hp 0 (LC (by kernel_rfl))
       have h4 : EV _ (fv 4) w1 := hp 4 (LC (by kernel_rfl))
       refine tyAt_none rfl ?_
       refine ty_val8 (u := .slice (some ⟨w1.heap.size, 0, none⟩) 2 2) (w' := w1.alloc (.cells #[.int .u64 ((zl z : Nat) : Int), .string (zh z), .bool (zs z), .int .u64 ((lo m : Nat) : Int), .string (hs m), .int .u64 ((zl y : Nat) : Int), .string (zh y), .bool (zs y), .int .u64 ((lo l : Nat) : Int), .string (hs l)] 55)) (by simp [execOp, go_sem, Act.eval, h0, h4]) ((Below.refl _ _).alloc (Nat.le_refl _) _) (news_mk (below_drew hb1).size)
      ·have h5 : (NewS (wr.heap.size, [.int .u64 ((zl z : Nat) : Int), .string (zh z), .bool (zs z), .int .u64 ((lo m : Nat) : Int), .string (hs m), .int .u64 ((zl y : Nat) : Int), .string (zh y), .bool (zs y), .int .u64 ((lo l : Nat) : Int), .string (hs l)], 2)) (fv 5) w1 := hp 5 (LC (by kernel_rfl))
       refine tyAt_none rfl ?_
       refine ty_call (f := 20) (args := #[fv 5]) (by simp [execOp, go_sem, Act.eval]) ?_
       exact (HJ1.out (fv 5) w1 (by obtain ⟨g9, e9, _, d9⟩ := news_parts h5; rw [e9]; exact slr_two d9)).mono fun e w2 ⟨h1, h2⟩ => ⟨_, h1, rfl, h2⟩
      ·have h6 : EV _ (fv 6) w1 := hp 6 (LC (by kernel_rfl))
       refine tyAt_none rfl ?_
       simp [tyUpon, execOp, go_sem, Act.eval, h6, k1, k0, add0P, addkP, Below.refl]
      ·have h7 : EV _ (fv 7) w1 := hp 7 (LC (by kernel_rfl))
       refine tyAt_none rfl ?_
       simp [tyUpon, execOp, go_sem, Act.eval, h7, k1, k0, add0P, addkP, Below.refl]
      ·have h7 : EV _ (fv 7) w1 := hp 7 (LC (by kernel_rfl))
       refine tyAt_none rfl ?_
       simp [tyUpon, execOp, go_sem, Act.eval, h7, k1, k0, add0P, addkP, Below.refl]
     ·intro j hj; simp at hj
     ·trivial
     ·intro fv wl hb1 hv
      have e0 : fv 0 = .agg #[.int .u64 ((zl z : Nat) : Int), .string (zh z), .bool (zs z), .int .u64 ((lo m : Nat) : Int), .string (hs m)] := hv 0 (by omega) (by omega)
      have e1 : fv 1 = .slice (some ⟨ga, 0, none⟩) i ca := hv 1 (by omega) (by omega)
      have e2 : fv 2 = .int .i64 (j : Int) := hv 2 (by omega) (by omega)
      have e3 : fv 3 = .pointer (some ⟨ga, j * 5, none⟩) := hv 3 (by omega) (by omega)
      have e4 : fv 4 = .agg #[.int .u64 ((zl y : Nat) : Int), .string (zh y), .bool (zs y), .int .u64 ((lo l : Nat) : Int), .string (hs l)] := hv 4 (by omega) (by omega)
      obtain ⟨lg5, e5, _, _⟩ := news_parts (show NewS ((wr.heap.size, [.int .u64 ((zl z : Nat) : Int), .string (zh z), .bool (zs z), .int .u64 ((lo m : Nat) : Int), .string (hs m), .int .u64 ((zl y : Nat) : Int), .string (zh y), .bool (zs y), .int .u64 ((lo l : Nat) : Int), .string (hs l)], 2)) (fv 5) wl from hv 5 (by omega) (by omega))
      have e6 : fv 6 = .tuple #[.agg #[.int .u64 ((zl z2 : Nat) : Int), .string (zh z2), .bool (zs z2), .int .u64 ((lo m2 : Nat) : Int), .string (hs m2)], .int .i64 0] := hv 6 (by omega) (by omega)
      have e7 : fv 7 = .tuple #[.agg #[.int .u64 ((zl z2 : Nat) : Int), .string (zh z2), .bool (zs z2), .int .u64 ((lo m2 : Nat) : Int), .string (hs m2)], .int .i64 0] := hv 7 (by omega) (by omega)
      have e8 : fv 8 = .agg #[.int .u64 ((zl z2 : Nat) : Int), .string (zh z2), .bool (zs z2), .int .u64 ((lo m2 : Nat) : Int), .string (hs m2)] := hv 8 (by omega) (by omega)
      have hx0 := hL0
      replace hL0 := hL0.call (below_drew hb1)
      have hA := hL0.fc
      simp only [fcG, cellsF, neK, and_true, ne_eq, Nat.zero_add, Nat.reduceAdd] at hA
      have hP := hL0.put 0 (x8.heap.size) _ rfl [.int .u64 ((zl z2 : Nat) : Int), .string (zh z2), .bool (zs z2), .int .u64 ((lo m2 : Nat) : Int), .string (hs m2)] rfl
      simp only [setAll, List.set_cons_zero, List.set_cons_succ] at hP
      have hB1 := hP.fc
      simp only [fcG, cellsF, neK, and_true, ne_eq, Nat.zero_add, Nat.reduceAdd] at hB1
      refine ⟨(((((wl.setCell ⟨x8.heap.size, 0, none⟩ (.int .u64 ((zl z2 : Nat) : Int))).setCell ⟨x8.heap.size, 1, none⟩ (.string (zh z2))).setCell ⟨x8.heap.size, 2, none⟩ (.bool (zs z2))).setCell ⟨x8.heap.size, 3, none⟩ (.int .u64 ((lo m2 : Nat) : Int))).setCell ⟨x8.heap.size, 4, none⟩ (.string (hs m2))), .int .i64 0, fun o ho => ?_, fun o ho => ?_, ?_⟩
      ·obtain rfl := Option.some.inj ho
       simp [execOp, go_sem, Act.eval, putsV, Act.put, List.take_succ_cons, List.take_zero, List.setIfInBounds_toArray, List.set_cons_succ, List.set_cons_zero, Nat.zero_add, Nat.reduceAdd, hA, e0, e1, e2, e3, e4, e5, e6, e7, e8]
      ·obtain rfl := Option.some.inj ho
       simp [execOp, go_sem, Act.eval, putsV, Act.put, List.take_succ_cons, List.take_zero, List.setIfInBounds_toArray, List.set_cons_succ, List.set_cons_zero, Nat.zero_add, Nat.reduceAdd, hB1, e0, e1, e2, e3, e4, e5, e6, e7, e8]
      ·rfl
     ·intro fv x10 hb1 hv hne
      have e0 : fv 0 = _ := hv 0 (by omega)
      have e1 : fv 1 = _ := hv 1 (by omega)
      have e2 : fv 2 = _ := hv 2 (by omega)
      have e3 : fv 3 = _ := hv 3 (by omega)
      have e4 : fv 4 = _ := hv 4 (by omega)
      have q5 : NewS ((wr.heap.size, [.int .u64 ((zl z : Nat) : Int), .string (zh z), .bool (zs z), .int .u64 ((lo m : Nat) : Int), .string (hs m), .int .u64 ((zl y : Nat) : Int), .string (zh y), .bool (zs y), .int .u64 ((lo l : Nat) : Int), .string (hs l)], 2)) (fv 5) x10 := hv 5 (by omega)
      obtain ⟨g2, e5, ng2, mg2⟩ := news_parts q5
      rw [e5] at q5
      have e6 : fv 6 = _ := hv 6 (by omega)
      have e7 : fv 7 = _ := hv 7 (by omega)
      have e8 : fv 8 = _ := hv 8 (by omega)
      have e9 : fv 9 = _ := hv 9 (by omega)
      simp only [List.take_succ_cons, List.take_zero, putsV, Act.put, List.setIfInBounds_toArray, List.set_cons_succ, List.set_cons_zero, List.drop_succ_cons, List.drop_zero, Nat.zero_add, Nat.reduceAdd, e0, e1, e2, e3, e4, e5, e6, e7, e8, e9]
      replace hL0 := hL0.call (below_drew hb1)
      replace hS := hS.call (below_drew hb1)
      clear e0 e1 e2 e3 e4 e5 e6 e7 e8 e9 hb1 hv hne q5 fv
      have hS1 := hS.put ((((((Upd.refl x8.heap.size x10).setCell 0 (.int .u64 ((zl z2 : Nat) : Int))).setCell 1 (.string (zh z2))).setCell 2 (.bool (zs z2))).setCell 3 (.int .u64 ((lo m2 : Nat) : Int))).setCell 4 (.string (hs m2))) (hL0.get _ _ List.mem_cons_self) (by intro v hv n; simp only [List.mem_cons, List.not_mem_nil, or_false] at hv; rcases hv with rfl | rfl | rfl | rfl | rfl <;> simp)
      have hA := hL0.fc
      simp only [fcG, cellsF, neK, and_true, ne_eq, Nat.zero_add, Nat.reduceAdd] at hA
      have hP := hL0.put 0 (x8.heap.size) _ rfl [.int .u64 ((zl z2 : Nat) : Int), .string (zh z2), .bool (zs z2), .int .u64 ((lo m2 : Nat) : Int), .string (hs m2)] rfl
      simp only [setAll, List.set_cons_zero, List.set_cons_succ] at hP
      generalize hput1 : (((((x10.setCell ⟨x8.heap.size, 0, none⟩ (.int .u64 ((zl z2 : Nat) : Int))).setCell ⟨x8.heap.size, 1, none⟩ (.string (zh z2))).setCell ⟨x8.heap.size, 2, none⟩ (.bool (zs z2))).setCell ⟨x8.heap.size, 3, none⟩ (.int .u64 ((lo m2 : Nat) : Int))).setCell ⟨x8.heap.size, 4, none⟩ (.string (hs m2))) = x11 at hP hS1
      have hB1 := hP.fc
      simp only [fcG, cellsF, neK, and_true, ne_eq, Nat.zero_add, Nat.reduceAdd] at hB1
      replace hL0 := hP
      replace hS := hS1
      clear hS1
      go_wp2_with fail
      clear hA
      go_roundg (gk - 1)
      case measure => omega
      case rel => exact ⟨j + 1, z2, m2, by omega, by first | rfl | go_num, hP2.out, hL0.weak (List.Sublist.refl _)⟩
    ·obtain rfl : j = i := by omega
     have k1 : ¬ (j : Int) < (j : Int) := by omega
     obtain ⟨e1, e2⟩ := hPn.out z m hP
     subst e1
     subst e2
     clear hP hik hin
     have hcell := Lib.hid (fun (W : World) (hb : Below y4.heap.size y4 W) => (show W.cell? ⟨x2.heap.size, 0, none⟩ = some (.int .u64 ((zl ia : Nat) : Int)) ∧ W.cell? ⟨x2.heap.size, 1, none⟩ = some (.string (zh ia)) ∧ W.cell? ⟨x2.heap.size, 2, none⟩ = some (.bool (zs ia)) from ⟨(h7.out.below hb).cell 0 (by simp), (h7.out.below hb).cell 1 (by simp), (h7.out.below hb).cell 2 (by simp)⟩))
     go_upto_region 22 with fail
     refine region_gh (by kernel_rfl) (by kernel_rfl) ?_
     refine lex_seg (gl := []) 9 (by kernel_rfl) ?_
     intro α iα F hF1 hF2
     have hf := fun x => hcell.out (F x) (hL0.call (below_drew (hF1 x))).bl
     have f0 := fun x => (hf x).1
     have f1 := fun x => (hf x).2.1
     have f2 := fun x => (hf x).2.2
     clear hf
     have hq := GL.seg hF1 hL0
     simp only [fcC, cellsC, and_true, Nat.zero_add, Nat.reduceAdd] at hq
     simp only [List.take_succ_cons, List.take_zero, List.drop_succ_cons, List.drop_zero, List.take_nil, List.drop_nil]
     repeat (go_big_quiet_step (first | fail | (go_at_call 19; with_reducible exact seg_call hF2 HFM.out _) | (go_at_call 21; with_reducible exact seg_call hF2 HDM.out _)))
     refine wpQuiet_nil ?_
     clear hq hF1 hF2 iα F α f0 f1 f2
     refine lex_new [.int .u64 0, .string ⟨#[]⟩, .bool false] 19 32 32 rfl rfl (of_decide_eq_true (by kernel_rfl)) (by kernel_rfl) rfl new_int ?_
     simp only [Act.put, List.setIfInBounds_toArray, List.set_cons_succ, List.set_cons_zero]
     refine lex_new [.int .u64 0, .string ⟨#[]⟩, .bool false] 20 32 32 rfl rfl (of_decide_eq_true (by kernel_rfl)) (by kernel_rfl) rfl new_int ?_
     simp only [Act.put, List.setIfInBounds_toArray, List.set_cons_succ, List.set_cons_zero]
     refine lex_put [.int .u64 ((zl qm : Nat) : Int), .string (zh qm), .bool (zs qm)] [.int .u64 0, .string ⟨#[]⟩, .bool false] 19 32 (.tmp 120) rfl (by kernel_rfl) (by simp [toG, upd]) rfl (fun w k h => put_int _ _ _ _ _ _ w k h) ?_
     simp only [Act.put]
     refine lex_put [.int .u64 ((zl R0 : Nat) : Int), .string (zh R0), .bool (zs R0)] [.int .u64 0, .string ⟨#[]⟩, .bool false] 20 32 (.tmp 121) rfl (by kernel_rfl) (by simp [toG, upd]) rfl (fun w k h => put_int _ _ _ _ _ _ w k h) ?_
     simp only [Act.put]
     refine lex_seg (gl := [(20, [.int .u64 ((zl R0 : Nat) : Int), .string (zh R0), .bool (zs R0)], true), (19, [.int .u64 ((zl qm : Nat) : Int), .string (zh qm), .bool (zs qm)], true), (20, [.int .u64 0, .string ⟨#[]⟩, .bool false], false), (19, [.int .u64 0, .string ⟨#[]⟩, .bool false], false)]) 1 (by kernel_rfl) ?_
     intro α iα F hF1 hF2
     have hq := GL.seg hF1 hL0
     simp only [fcC, cellsC, and_true, Nat.zero_add, Nat.reduceAdd] at hq
     simp only [List.take_succ_cons, List.take_zero, List.drop_succ_cons, List.drop_zero, List.take_nil, List.drop_nil]
     repeat (go_big_quiet_step (first | fail | (go_at_call 19; with_reducible exact seg_call hF2 HFM.out _) | (go_at_call 21; with_reducible exact seg_call hF2 HDM.out _)))
     refine wpQuiet_nil ?_
     clear hq hF1 hF2 iα F α
     refine lexG_nil ?_
     intro κ x10 hS
     replace hL0 := hL0.ghs hS [(20, [.int .u64 ((zl R0 : Nat) : Int), .string (zh R0), .bool (zs R0)]), (19, [.int .u64 ((zl qm : Nat) : Int), .string (zh qm), .bool (zs qm)])] (by simp) (by intro p hp; simp only [List.mem_cons, List.not_mem_nil, or_false] at hp; rcases hp with rfl | rfl <;> exact ⟨_, by simp only [toG, upd]; rfl⟩)
     simp only [List.map_cons, List.map_nil, List.cons_append, List.nil_append] at hL0
     simp only [over_toG, over_nil, Act.put, List.setIfInBounds_toArray, List.set_cons_succ, List.set_cons_zero]
     clear hS
     generalize κ 20 = k10_20 at *
     generalize κ 19 = k10_19 at *
     replace hS := SS.nil x10
     clear hcell
     have hN0 := cells_of _ 0 [] rfl (hL0.get _ _ List.mem_cons_self)
     simp only [cellsF, and_true, Nat.zero_add, Nat.reduceAdd] at hN0
     have hN1 := cells_of _ 0 [] rfl (hL0.get _ _ (List.mem_cons_of_mem _ (List.mem_cons_of_mem _ List.mem_cons_self)))
     simp only [cellsF, and_true, Nat.zero_add, Nat.reduceAdd] at hN1
     have hN2 := cells_of _ 0 [] rfl (hL0.get _ _ (List.mem_cons_of_mem _ (List.mem_cons_of_mem _ (List.mem_cons_of_mem _ List.mem_cons_self))))
     simp only [cellsF, and_true, Nat.zero_add, Nat.reduceAdd] at hN2
     have hN3 := cells_of _ 0 [] rfl (hL0.get _ _ (List.mem_cons_of_mem _ (List.mem_cons_of_mem _ (List.mem_cons_of_mem _ (List.mem_cons_of_mem _ List.mem_cons_self)))))
     simp only [cellsF, and_true, Nat.zero_add, Nat.reduceAdd] at hN3
     go_wp2_with fail
     clear hN0 hN1 hN2 hN3
     go_loopg [22] j (fun gk iv wr => ∃ (i : Nat), i + gk = j ∧ iv = .int .i64 (i : Int) ∧ GL y4 wr [(k10_20, [.int .u64 ((zl R0 : Nat) : Int), .string (zh R0), .bool (zs R0)]), (k10_19, [.int .u64 ((zl qm : Nat) : Int), .string (zh qm), .bool (zs qm)]), (x8.heap.size, [.int .u64 ((zl R0 : Nat) : Int), .string (zh R0), .bool (zs R0), .int .u64 ((lo M0 : Nat) : Int), .string (hs M0)]), (x6.heap.size, [.int .u64 ((zl R0 : Nat) : Int), .string (zh R0), .bool (zs R0), .int .u64 ((lo M0 : Nat) : Int), .string (hs M0)]), (x4.heap.size, [.int .u64 ((zl R0 : Nat) : Int), .string (zh R0), .bool (zs R0), .int .u64 ((lo M0 : Nat) : Int), .string (hs M0)])])
     case atStart => exact ⟨0, Nat.zero_add j, by first | rfl | go_num, hL0⟩
     case round =>
      clear hL0 hS
      obtain ⟨i, hik, rfl, hL0⟩ := hrel
      have hS : SS wr [] := SS.nil wr
      rcases Nat.lt_or_ge i j with hin | hin
      ·have k1 : (i : Int) < (j : Int) := by omega
       have k0 : (0 : Int) ≤ (i : Int) := Int.natCast_nonneg _
       have kb : (i : Int) ≤ 6 := by have := hn6.out; omega
       have hlc := hcl.out
       have hcell := fun (W : World) (hb : Below y4.heap.size y4 W) => (hRa.out.below hb).cell i (by omega)
       obtain ⟨qd, HD1⟩ := HD.out i (by omega)
       obtain ⟨yb, zb, mb, eb, HA1, HG1, heb1, heb2⟩ := HG.out i (by omega)
       obtain ⟨y, hy⟩ : ∃ y, y = (cs[i]'(by omega)).1 := ⟨_, rfl⟩
       obtain ⟨l, hl⟩ : ∃ l, l = (cs[i]'(by omega)).2 := ⟨_, rfl⟩
       rw [← hy, ← hl] at hcell
       rw [← hl] at HD1 HG1 heb1 heb2
       rw [← hy] at HA1
       replace hcell := Lib.hid hcell
       replace HD1 := Lib.hid HD1
       replace HA1 := Lib.hid HA1
       replace HG1 := Lib.hid HG1
       clear hy hl
       by_cases hl1 : l = 1
       ·subst hl1
        have he : eb = 0 := heb1 rfl
        subst he
        clear heb1 heb2
        go_upto_region 28 with fail
        refine region_gh (by kernel_rfl) (by kernel_rfl) ?_
        refine lex_seg (gl := []) 12 (by kernel_rfl) ?_
        intro α iα F hF1 hF2
        have hf := fun x => hcell.out (F x) (hL0.call (below_drew (hF1 x))).bl
        have f0 := fun x => (hf x).1
        have f1 := fun x => (hf x).2.1
        have f2 := fun x => (hf x).2.2.1
        have f3 := fun x => (hf x).2.2.2.1
        have f4 := fun x => (hf x).2.2.2.2
        clear hf
        have hq := GL.seg hF1 hL0
        simp only [fcC, cellsC, and_true, Nat.zero_add, Nat.reduceAdd] at hq
        simp only [List.take_succ_cons, List.take_zero, List.drop_succ_cons, List.drop_zero, List.take_nil, List.drop_nil]
        repeat (go_big_quiet_step (first | fail | (go_at_call 22; with_reducible exact seg_call hF2 HD1.out _)))
        refine wpQuiet_nil ?_
        clear hq hF1 hF2 iα F α f0 f1 f2 f3 f4
        refine lex_new [.int .u64 0, .string ⟨#[]⟩] 23 30 30 rfl rfl (of_decide_eq_true (by kernel_rfl)) (by kernel_rfl) rfl new_natc ?_
        simp only [Act.put, List.setIfInBounds_toArray, List.set_cons_succ, List.set_cons_zero]
        refine lex_new [.int .u64 0, .string ⟨#[]⟩] 24 30 30 rfl rfl (of_decide_eq_true (by kernel_rfl)) (by kernel_rfl) rfl new_natc ?_
        simp only [Act.put, List.setIfInBounds_toArray, List.set_cons_succ, List.set_cons_zero]
        refine lex_put [.int .u64 ((lo qd : Nat) : Int), .string (hs qd)] [.int .u64 0, .string ⟨#[]⟩] 23 30 (.tmp 164) rfl (by kernel_rfl) (by simp [toG, upd]) rfl (fun w k h => put_natc _ _ _ _ w k h) ?_
        simp only [Act.put]
        refine lex_put [.int .u64 0, .string ⟨#[]⟩] [.int .u64 0, .string ⟨#[]⟩] 24 30 (.tmp 165) rfl (by kernel_rfl) (by simp [toG, upd]) rfl (fun w k h => put_natc _ _ _ _ w k h) ?_
        simp only [Act.put]
        refine lex_seg (gl := [(24, [.int .u64 0, .string ⟨#[]⟩], true), (23, [.int .u64 ((lo qd : Nat) : Int), .string (hs qd)], true), (24, [.int .u64 0, .string ⟨#[]⟩], false), (23, [.int .u64 0, .string ⟨#[]⟩], false)]) 1 (by kernel_rfl) ?_
        intro α iα F hF1 hF2
        have hq := GL.seg hF1 hL0
        simp only [fcC, cellsC, and_true, Nat.zero_add, Nat.reduceAdd] at hq
        simp only [List.take_succ_cons, List.take_zero, List.drop_succ_cons, List.drop_zero, List.take_nil, List.drop_nil]
        repeat (go_big_quiet_step (first | fail | (go_at_call 22; with_reducible exact seg_call hF2 HD1.out _)))
        refine wpQuiet_nil ?_
        clear hq hF1 hF2 iα F α
        refine lexG_nil ?_
        intro κ x11 hS
        replace hL0 := hL0.ghs hS [(24, [.int .u64 0, .string ⟨#[]⟩]), (23, [.int .u64 ((lo qd : Nat) : Int), .string (hs qd)])] (by simp) (by intro p hp; simp only [List.mem_cons, List.not_mem_nil, or_false] at hp; rcases hp with rfl | rfl <;> exact ⟨_, by simp only [toG, upd]; rfl⟩)
        simp only [List.map_cons, List.map_nil, List.cons_append, List.nil_append] at hL0
        simp only [over_toG, over_nil, Act.put, List.setIfInBounds_toArray, List.set_cons_succ, List.set_cons_zero]
        clear hS
        generalize κ 24 = k11_24 at *
        generalize κ 23 = k11_23 at *
        replace hS := SS.nil x11
        have hN0 := cells_of _ 0 [] rfl (hL0.get _ _ List.mem_cons_self)
        simp only [cellsF, and_true, Nat.zero_add, Nat.reduceAdd] at hN0
        go_upto_region 31 with fail
        clear hN0
        refine region_gh (by kernel_rfl) (by kernel_rfl) ?_
        refine lex_seg (gl := []) 13 (by kernel_rfl) ?_
        intro α iα F hF1 hF2
        have hf := fun x => hcell.out (F x) (hL0.call (below_drew (hF1 x))).bl
        have f0 := fun x => (hf x).1
        have f1 := fun x => (hf x).2.1
        have f2 := fun x => (hf x).2.2.1
        have f3 := fun x => (hf x).2.2.2.1
        have f4 := fun x => (hf x).2.2.2.2
        clear hf
        have hq := GL.seg hF1 hL0
        simp only [fcC, cellsC, and_true, Nat.zero_add, Nat.reduceAdd] at hq
        simp only [List.take_succ_cons, List.take_zero, List.drop_succ_cons, List.drop_zero, List.take_nil, List.drop_nil]
        repeat (go_big_quiet_step (first | fail | (go_at_call 23; with_reducible exact seg_call hF2 HO1.out _) | (go_at_call 18; with_reducible exact seg_call hF2 HA1.out _)))
        refine wpQuiet_nil ?_
        clear hq hF1 hF2 iα F α f0 f1 f2 f3 f4
        refine lex_new [.int .u64 0, .string ⟨#[]⟩, .bool false, .int .u64 0, .string ⟨#[]⟩] 26 55 55 rfl rfl (of_decide_eq_true (by kernel_rfl)) (by kernel_rfl) rfl new_rest ?_
        simp only [Act.put, List.setIfInBounds_toArray, List.set_cons_succ, List.set_cons_zero]
        refine lex_put [.int .u64 ((zl yb : Nat) : Int), .string (zh yb), .bool (zs yb), .int .u64 ((lo 1 : Nat) : Int), .string (hs 1)] [.int .u64 0, .string ⟨#[]⟩, .bool false, .int .u64 0, .string ⟨#[]⟩] 26 55 (.tmp 182) rfl (by kernel_rfl) (by simp [toG, upd]) rfl (fun w k h => put_rest _ _ _ _ _ _ _ _ _ _ w k h) ?_
        simp only [Act.put]
        refine lexG_nil ?_
        intro κ x12 hS
        replace hL0 := hL0.ghs hS [(26, [.int .u64 ((zl yb : Nat) : Int), .string (zh yb), .bool (zs yb), .int .u64 ((lo 1 : Nat) : Int), .string (hs 1)])] (by simp) (by intro p hp; simp only [List.mem_cons, List.not_mem_nil, or_false] at hp; rcases hp with rfl <;> exact ⟨_, by simp only [toG, upd]; rfl⟩)
        simp only [List.map_cons, List.map_nil, List.cons_append, List.nil_append] at hL0
        simp only [over_toG, over_nil, Act.put, List.setIfInBounds_toArray, List.set_cons_succ, List.set_cons_zero]
        clear hS
        generalize κ 26 = k12_26 at *
        replace hS := SS.nil x12
        have hZ := hL0.fc
        simp only [fcG, cellsF, neK, and_true, ne_eq, Nat.zero_add, Nat.reduceAdd] at hZ
        replace hS := (hS.new (.cells #[.int .u64 ((zl R0 : Nat) : Int), .string (zh R0), .bool (zs R0), .int .u64 ((lo M0 : Nat) : Int), .string (hs M0), .int .u64 ((zl yb : Nat) : Int), .string (zh yb), .bool (zs yb), .int .u64 ((lo 1 : Nat) : Int), .string (hs 1)] 55))
        replace hL0 := (hL0.new rfl [.int .u64 ((zl R0 : Nat) : Int), .string (zh R0), .bool (zs R0), .int .u64 ((lo M0 : Nat) : Int), .string (hs M0), .int .u64 ((zl yb : Nat) : Int), .string (zh yb), .bool (zs yb), .int .u64 ((lo 1 : Nat) : Int), .string (hs 1)] 55)
        generalize hweq : (x12.alloc (.cells #[.int .u64 ((zl R0 : Nat) : Int), .string (zh R0), .bool (zs R0), .int .u64 ((lo M0 : Nat) : Int), .string (hs M0), .int .u64 ((zl yb : Nat) : Int), .string (zh yb), .bool (zs yb), .int .u64 ((lo 1 : Nat) : Int), .string (hs 1)] 55)) = x13 at hL0 hS
        have hN0 := cells_of _ 0 [] rfl (hL0.get _ _ (List.mem_cons_of_mem _ List.mem_cons_self))
        simp only [cellsF, and_true, Nat.zero_add, Nat.reduceAdd] at hN0
        have hN1 := cells_of _ 0 [] rfl (hL0.get _ _ (List.mem_cons_of_mem _ (List.mem_cons_of_mem _ (List.mem_cons_of_mem _ (List.mem_cons_of_mem _ (List.mem_cons_of_mem _ (List.mem_cons_of_mem _ (List.mem_cons_of_mem _ (List.mem_cons_of_mem _ List.mem_cons_self)))))))))
        simp only [cellsF, and_true, Nat.zero_add, Nat.reduceAdd] at hN1
        go_wp2_with fail
        clear hN0 hN1
        with_reducible refine Calls.mono (HG1.out _ _ (slr_two (hL0.get _ _ List.mem_cons_self))) ?_
        rintro e x14 ⟨rfl, hb⟩
        replace hL0 := hL0.call hb
        replace hS := hS.call hb
        clear hb hweq
        clear hZ
        replace hS := (hS.new (.cells #[.int .u64 ((zl zb : Nat) : Int), .string (zh zb), .bool (zs zb), .int .u64 ((lo mb : Nat) : Int), .string (hs mb)] 55))
        replace hL0 := (hL0.new rfl [.int .u64 ((zl zb : Nat) : Int), .string (zh zb), .bool (zs zb), .int .u64 ((lo mb : Nat) : Int), .string (hs mb)] 55)
        generalize hweq : (x14.alloc (.cells #[.int .u64 ((zl zb : Nat) : Int), .string (zh zb), .bool (zs zb), .int .u64 ((lo mb : Nat) : Int), .string (hs mb)] 55)) = x15 at hL0 hS
        go_upto_region 33 with fail
        clear hweq
        refine region_tl 10 [EV (.int .i64 0), EV (.bool false), EV (.slice (some ⟨ga, 0, none⟩) j ca), EV (.int .i64 (i : Int)), EV (.pointer (some ⟨ga, i * 5, none⟩)), EV (.pointer (some ⟨ga, i * 5 + 3, none⟩)), EV (.agg #[.int .u64 ((lo 1 : Nat) : Int), .string (hs 1)]), EV (.agg #[.int .u64 ((lo 1 : Nat) : Int), .string (hs 1)]), EV (.bool false), EV (.bool false)] (by kernel_rfl) (by kernel_rfl) ?_ ?_ ?_
        ·exact stays_cons (stays_eq _) (stays_cons (stays_eq _) (stays_cons (stays_eq _) (stays_cons (stays_eq _) (stays_cons (stays_eq _) (stays_cons (stays_eq _) (stays_cons (stays_eq _) (stays_cons (stays_eq _) (stays_cons (stays_eq _) (stays_cons (stays_eq _) (stays_nil))))))))))
        ·simp only [List.take_succ_cons, List.take_zero, hopsR, and_true]
         refine ⟨?_, ?_, ?_, ?_, ?_, ?_, ?_, ?_, ?_, ?_⟩ <;> intro fv w1 hb1 hp
         all_goals (simp only [putsV, Act.put, List.setIfInBounds_toArray, List.set_cons_succ, List.set_cons_zero, Nat.zero_add, Nat.reduceAdd])
         ·refine tyAt_none rfl ?_
          simp [tyUpon, execOp, go_sem, Act.eval, k1, k0, add0P, addkP, Below.refl]
         ·have h0 : EV _ (fv 0) w1 := hp 0 (LC (by kernel_rfl))
          refine tyAt_none rfl ?_
          simp [tyUpon, execOp, go_sem, Act.eval, h0, k1, k0, add0P, addkP, Below.refl]
         ·refine tyAt_none rfl ?_
          simp [tyUpon, execOp, go_sem, Act.eval, k1, k0, add0P, addkP, Below.refl]
         ·refine tyAt_none rfl ?_
          simp [tyUpon, execOp, go_sem, Act.eval, k1, k0, add0P, addkP, Below.refl]
         ·have h2 : EV _ (fv 2) w1 := hp 2 (LC (by kernel_rfl))
          have h3 : EV _ (fv 3) w1 := hp 3 (LC (by kernel_rfl))
          refine tyAt_none rfl ?_
          simp [tyUpon, execOp, go_sem, Act.eval, h2, h3, k1, k0, add0P, addkP, Below.refl]
         ·have h4 : EV _ (fv 4) w1 := hp 4 (LC (by kernel_rfl))
          refine tyAt_none rfl ?_
          simp [tyUpon, execOp, go_sem, Act.eval, h4, k1, k0, add0P, addkP, Below.refl]
         ·have h5 : EV _ (fv 5) w1 := hp 5 (LC (by kernel_rfl))
          refine tyAt_none rfl ?_
          obtain ⟨f0, f1, f2, f3, f4⟩ := hcell.out w1 (hL0.call (below_drew hb1)).bl
          simp [tyUpon, execOp, go_sem, Act.eval, h5, k1, k0, add0P, addkP, f0, f1, f2, f3, f4, Below.refl]
         ·refine tyAt_none rfl ?_
          refine ty_call (f := 17) (args := #[.int .u64 1]) (by simp [execOp, go_sem, Act.eval]) ?_
          exact (HO.out w1).mono fun e w2 ⟨h1, h2⟩ => ⟨_, h1, rfl, h2⟩
         ·have h6 : EV _ (fv 6) w1 := hp 6 (LC (by kernel_rfl))
          have h7 : EV _ (fv 7) w1 := hp 7 (LC (by kernel_rfl))
          refine tyAt_none rfl ?_
          simp [tyUpon, execOp, go_sem, Act.eval, h6, h7, k1, k0, add0P, addkP, Below.refl]
         ·have h1 : EV _ (fv 1) w1 := hp 1 (LC (by kernel_rfl))
          have h8 : EV _ (fv 8) w1 := hp 8 (LC (by kernel_rfl))
          refine tyAt_none rfl ?_
          simp [tyUpon, execOp, go_sem, Act.eval, h1, h8, k1, k0, add0P, addkP, Below.refl]
        ·intro fv x16 hb1 hv
         have e0 : fv 0 = _ := hv 0 (by omega)
         have e1 : fv 1 = _ := hv 1 (by omega)
         have e2 : fv 2 = _ := hv 2 (by omega)
         have e3 : fv 3 = _ := hv 3 (by omega)
         have e4 : fv 4 = _ := hv 4 (by omega)
         have e5 : fv 5 = _ := hv 5 (by omega)
         have e6 : fv 6 = _ := hv 6 (by omega)
         have e7 : fv 7 = _ := hv 7 (by omega)
         have e8 : fv 8 = _ := hv 8 (by omega)
         have e9 : fv 9 = _ := hv 9 (by omega)
         simp only [List.take_succ_cons, List.take_zero, putsV, Act.put, List.setIfInBounds_toArray, List.set_cons_succ, List.set_cons_zero, List.drop_succ_cons, List.drop_zero, Nat.zero_add, Nat.reduceAdd, e0, e1, e2, e3, e4, e5, e6, e7, e8, e9]
         replace hL0 := hL0.call (below_drew hb1)
         replace hS := hS.call (below_drew hb1)
         clear e0 e1 e2 e3 e4 e5 e6 e7 e8 e9 hb1 hv fv
         go_wp2_with fail
         go_roundg (gk - 1)
         case measure => omega
         case rel => exact ⟨i + 1, by omega, by first | rfl | go_num, hL0.weak (List.Sublist.cons _ (List.Sublist.cons _ (List.Sublist.cons _ (List.Sublist.cons _ (List.Sublist.cons _ (List.Sublist.refl _))))))⟩
       ·have he : eb = 6 := heb2 hl1
        subst he
        have hne := Lib.hid (ne_nat hl1)
        clear hl1
        clear heb1 heb2
        go_upto_region 28 with fail
        refine region_gh (by kernel_rfl) (by kernel_rfl) ?_
        refine lex_seg (gl := []) 12 (by kernel_rfl) ?_
        intro α iα F hF1 hF2
        have hf := fun x => hcell.out (F x) (hL0.call (below_drew (hF1 x))).bl
        have f0 := fun x => (hf x).1
        have f1 := fun x => (hf x).2.1
        have f2 := fun x => (hf x).2.2.1
        have f3 := fun x => (hf x).2.2.2.1
        have f4 := fun x => (hf x).2.2.2.2
        clear hf
        have hq := GL.seg hF1 hL0
        simp only [fcC, cellsC, and_true, Nat.zero_add, Nat.reduceAdd] at hq
        simp only [List.take_succ_cons, List.take_zero, List.drop_succ_cons, List.drop_zero, List.take_nil, List.drop_nil]
        repeat (go_big_quiet_step (first | fail | (go_at_call 22; with_reducible exact seg_call hF2 HD1.out _)))
        refine wpQuiet_nil ?_
        clear hq hF1 hF2 iα F α f0 f1 f2 f3 f4
        refine lex_new [.int .u64 0, .string ⟨#[]⟩] 23 30 30 rfl rfl (of_decide_eq_true (by kernel_rfl)) (by kernel_rfl) rfl new_natc ?_
        simp only [Act.put, List.setIfInBounds_toArray, List.set_cons_succ, List.set_cons_zero]
        refine lex_new [.int .u64 0, .string ⟨#[]⟩] 24 30 30 rfl rfl (of_decide_eq_true (by kernel_rfl)) (by kernel_rfl) rfl new_natc ?_
        simp only [Act.put, List.setIfInBounds_toArray, List.set_cons_succ, List.set_cons_zero]
        refine lex_put [.int .u64 ((lo qd : Nat) : Int), .string (hs qd)] [.int .u64 0, .string ⟨#[]⟩] 23 30 (.tmp 164) rfl (by kernel_rfl) (by simp [toG, upd]) rfl (fun w k h => put_natc _ _ _ _ w k h) ?_
        simp only [Act.put]
        refine lex_put [.int .u64 0, .string ⟨#[]⟩] [.int .u64 0, .string ⟨#[]⟩] 24 30 (.tmp 165) rfl (by kernel_rfl) (by simp [toG, upd]) rfl (fun w k h => put_natc _ _ _ _ w k h) ?_
        simp only [Act.put]
        refine lex_seg (gl := [(24, [.int .u64 0, .string ⟨#[]⟩], true), (23, [.int .u64 ((lo qd : Nat) : Int), .string (hs qd)], true), (24, [.int .u64 0, .string ⟨#[]⟩], false), (23, [.int .u64 0, .string ⟨#[]⟩], false)]) 1 (by kernel_rfl) ?_
        intro α iα F hF1 hF2
        have hq := GL.seg hF1 hL0
        simp only [fcC, cellsC, and_true, Nat.zero_add, Nat.reduceAdd] at hq
        simp only [List.take_succ_cons, List.take_zero, List.drop_succ_cons, List.drop_zero, List.take_nil, List.drop_nil]
        repeat (go_big_quiet_step (first | fail | (go_at_call 22; with_reducible exact seg_call hF2 HD1.out _)))
        refine wpQuiet_nil ?_
        clear hq hF1 hF2 iα F α
        refine lexG_nil ?_
        intro κ x11 hS
        replace hL0 := hL0.ghs hS [(24, [.int .u64 0, .string ⟨#[]⟩]), (23, [.int .u64 ((lo qd : Nat) : Int), .string (hs qd)])] (by simp) (by intro p hp; simp only [List.mem_cons, List.not_mem_nil, or_false] at hp; rcases hp with rfl | rfl <;> exact ⟨_, by simp only [toG, upd]; rfl⟩)
        simp only [List.map_cons, List.map_nil, List.cons_append, List.nil_append] at hL0
        simp only [over_toG, over_nil, Act.put, List.setIfInBounds_toArray, List.set_cons_succ, List.set_cons_zero]
        clear hS
        generalize κ 24 = k11_24 at *
        generalize κ 23 = k11_23 at *
        replace hS := SS.nil x11
        have hN0 := cells_of _ 0 [] rfl (hL0.get _ _ List.mem_cons_self)
        simp only [cellsF, and_true, Nat.zero_add, Nat.reduceAdd] at hN0
        go_upto_region 31 with fail
        clear hN0
        refine region_gh (by kernel_rfl) (by kernel_rfl) ?_
        refine lex_seg (gl := []) 13 (by kernel_rfl) ?_
        intro α iα F hF1 hF2
        have hf := fun x => hcell.out (F x) (hL0.call (below_drew (hF1 x))).bl
        have f0 := fun x => (hf x).1
        have f1 := fun x => (hf x).2.1
        have f2 := fun x => (hf x).2.2.1
        have f3 := fun x => (hf x).2.2.2.1
        have f4 := fun x => (hf x).2.2.2.2
        clear hf
        have hq := GL.seg hF1 hL0
        simp only [fcC, cellsC, and_true, Nat.zero_add, Nat.reduceAdd] at hq
        simp only [List.take_succ_cons, List.take_zero, List.drop_succ_cons, List.drop_zero, List.take_nil, List.drop_nil]
        repeat (go_big_quiet_step (first | fail | (go_at_call 23; with_reducible exact seg_call hF2 HO1.out _) | (go_at_call 18; with_reducible exact seg_call hF2 HA1.out _)))
        refine wpQuiet_nil ?_
        clear hq hF1 hF2 iα F α f0 f1 f2 f3 f4
        refine lex_new [.int .u64 0, .string ⟨#[]⟩, .bool false, .int .u64 0, .string ⟨#[]⟩] 26 55 55 rfl rfl (of_decide_eq_true (by kernel_rfl)) (by kernel_rfl) rfl new_rest ?_
        simp only [Act.put, List.setIfInBounds_toArray, List.set_cons_succ, List.set_cons_zero]
        refine lex_put [.int .u64 ((zl yb : Nat) : Int), .string (zh yb), .bool (zs yb), .int .u64 ((lo l : Nat) : Int), .string (hs l)] [.int .u64 0, .string ⟨#[]⟩, .bool false, .int .u64 0, .string ⟨#[]⟩] 26 55 (.tmp 182) rfl (by kernel_rfl) (by simp [toG, upd]) rfl (fun w k h => put_rest _ _ _ _ _ _ _ _ _ _ w k h) ?_
        simp only [Act.put]
        refine lexG_nil ?_
        intro κ x12 hS
        replace hL0 := hL0.ghs hS [(26, [.int .u64 ((zl yb : Nat) : Int), .string (zh yb), .bool (zs yb), .int .u64 ((lo l : Nat) : Int), .string (hs l)])] (by simp) (by intro p hp; simp only [List.mem_cons, List.not_mem_nil, or_false] at hp; rcases hp with rfl <;> exact ⟨_, by simp only [toG, upd]; rfl⟩)
        simp only [List.map_cons, List.map_nil, List.cons_append, List.nil_append] at hL0
        simp only [over_toG, over_nil, Act.put, List.setIfInBounds_toArray, List.set_cons_succ, List.set_cons_zero]
        clear hS
        generalize κ 26 = k12_26 at *
        replace hS := SS.nil x12
        have hZ := hL0.fc
        simp only [fcG, cellsF, neK, and_true, ne_eq, Nat.zero_add, Nat.reduceAdd] at hZ
        replace hS := (hS.new (.cells #[.int .u64 ((zl R0 : Nat) : Int), .string (zh R0), .bool (zs R0), .int .u64 ((lo M0 : Nat) : Int), .string (hs M0), .int .u64 ((zl yb : Nat) : Int), .string (zh yb), .bool (zs yb), .int .u64 ((lo l : Nat) : Int), .string (hs l)] 55))
        replace hL0 := (hL0.new rfl [.int .u64 ((zl R0 : Nat) : Int), .string (zh R0), .bool (zs R0), .int .u64 ((lo M0 : Nat) : Int), .string (hs M0), .int .u64 ((zl yb : Nat) : Int), .string (zh yb), .bool (zs yb), .int .u64 ((lo l : Nat) : Int), .string (hs l)] 55)
        generalize hweq : (x12.alloc (.cells #[.int .u64 ((zl R0 : Nat) : Int), .string (zh R0), .bool (zs R0), .int .u64 ((lo M0 : Nat) : Int), .string (hs M0), .int .u64 ((zl yb : Nat) : Int), .string (zh yb), .bool (zs yb), .int .u64 ((lo l : Nat) : Int), .string (hs l)] 55)) = x13 at hL0 hS
        have hN0 := cells_of _ 0 [] rfl (hL0.get _ _ (List.mem_cons_of_mem _ List.mem_cons_self))
        simp only [cellsF, and_true, Nat.zero_add, Nat.reduceAdd] at hN0
        have hN1 := cells_of _ 0 [] rfl (hL0.get _ _ (List.mem_cons_of_mem _ (List.mem_cons_of_mem _ (List.mem_cons_of_mem _ (List.mem_cons_of_mem _ (List.mem_cons_of_mem _ (List.mem_cons_of_mem _ (List.mem_cons_of_mem _ (List.mem_cons_of_mem _ List.mem_cons_self)))))))))
        simp only [cellsF, and_true, Nat.zero_add, Nat.reduceAdd] at hN1
        go_wp2_with fail
        clear hN0 hN1
        with_reducible refine Calls.mono (HG1.out _ _ (slr_two (hL0.get _ _ List.mem_cons_self))) ?_
        rintro e x14 ⟨rfl, hb⟩
        replace hL0 := hL0.call hb
        replace hS := hS.call hb
        clear hb hweq
        clear hZ
        replace hS := (hS.new (.cells #[.int .u64 ((zl zb : Nat) : Int), .string (zh zb), .bool (zs zb), .int .u64 ((lo mb : Nat) : Int), .string (hs mb)] 55))
        replace hL0 := (hL0.new rfl [.int .u64 ((zl zb : Nat) : Int), .string (zh zb), .bool (zs zb), .int .u64 ((lo mb : Nat) : Int), .string (hs mb)] 55)
        generalize hweq : (x14.alloc (.cells #[.int .u64 ((zl zb : Nat) : Int), .string (zh zb), .bool (zs zb), .int .u64 ((lo mb : Nat) : Int), .string (hs mb)] 55)) = x15 at hL0 hS
        go_upto_region 33 with fail
        clear hweq
        refine region_tl 10 [EV (.int .i64 6), EV (.bool true), EV (.slice (some ⟨ga, 0, none⟩) j ca), EV (.int .i64 (i : Int)), EV (.pointer (some ⟨ga, i * 5, none⟩)), EV (.pointer (some ⟨ga, i * 5 + 3, none⟩)), EV (.agg #[.int .u64 ((lo l : Nat) : Int), .string (hs l)]), EV (.agg #[.int .u64 ((lo 1 : Nat) : Int), .string (hs 1)]), EV (.bool true), EV (.bool false)] (by kernel_rfl) (by kernel_rfl) ?_ ?_ ?_
        ·exact stays_cons (stays_eq _) (stays_cons (stays_eq _) (stays_cons (stays_eq _) (stays_cons (stays_eq _) (stays_cons (stays_eq _) (stays_cons (stays_eq _) (stays_cons (stays_eq _) (stays_cons (stays_eq _) (stays_cons (stays_eq _) (stays_cons (stays_eq _) (stays_nil))))))))))
        ·simp only [List.take_succ_cons, List.take_zero, hopsR, and_true]
         refine ⟨?_, ?_, ?_, ?_, ?_, ?_, ?_, ?_, ?_, ?_⟩ <;> intro fv w1 hb1 hp
         all_goals (simp only [putsV, Act.put, List.setIfInBounds_toArray, List.set_cons_succ, List.set_cons_zero, Nat.zero_add, Nat.reduceAdd])
         ·refine tyAt_none rfl ?_
          simp [tyUpon, execOp, go_sem, Act.eval, k1, k0, add0P, addkP, Below.refl]
         ·have h0 : EV _ (fv 0) w1 := hp 0 (LC (by kernel_rfl))
          refine tyAt_none rfl ?_
          simp [tyUpon, execOp, go_sem, Act.eval, h0, k1, k0, add0P, addkP, Below.refl]
         ·refine tyAt_none rfl ?_
          simp [tyUpon, execOp, go_sem, Act.eval, k1, k0, add0P, addkP, Below.refl]
         ·refine tyAt_none rfl ?_
          simp [tyUpon, execOp, go_sem, Act.eval, k1, k0, add0P, addkP, Below.refl]
         ·have h2 : EV _ (fv 2) w1 := hp 2 (LC (by kernel_rfl))
          have h3 : EV _ (fv 3) w1 := hp 3 (LC (by kernel_rfl))
          refine tyAt_none rfl ?_
          simp [tyUpon, execOp, go_sem, Act.eval, h2, h3, k1, k0, add0P, addkP, Below.refl]
         ·have h4 : EV _ (fv 4) w1 := hp 4 (LC (by kernel_rfl))
          refine tyAt_none rfl ?_
          simp [tyUpon, execOp, go_sem, Act.eval, h4, k1, k0, add0P, addkP, Below.refl]
         ·have h5 : EV _ (fv 5) w1 := hp 5 (LC (by kernel_rfl))
          refine tyAt_none rfl ?_
          obtain ⟨f0, f1, f2, f3, f4⟩ := hcell.out w1 (hL0.call (below_drew hb1)).bl
          simp [tyUpon, execOp, go_sem, Act.eval, h5, k1, k0, add0P, addkP, f0, f1, f2, f3, f4, Below.refl]
         ·refine tyAt_none rfl ?_
          refine ty_call (f := 17) (args := #[.int .u64 1]) (by simp [execOp, go_sem, Act.eval]) ?_
          exact (HO.out w1).mono fun e w2 ⟨h1, h2⟩ => ⟨_, h1, rfl, h2⟩
         ·have h6 : EV _ (fv 6) w1 := hp 6 (LC (by kernel_rfl))
          have h7 : EV _ (fv 7) w1 := hp 7 (LC (by kernel_rfl))
          refine tyAt_none rfl ?_
          rcases hne.out with hz | hz <;> simp [tyUpon, execOp, go_sem, Act.eval, h6, h7, k1, k0, add0P, addkP, hz, Below.refl]
         ·have h1 : EV _ (fv 1) w1 := hp 1 (LC (by kernel_rfl))
          have h8 : EV _ (fv 8) w1 := hp 8 (LC (by kernel_rfl))
          refine tyAt_none rfl ?_
          simp [tyUpon, execOp, go_sem, Act.eval, h1, h8, k1, k0, add0P, addkP, Below.refl]
        ·intro fv x16 hb1 hv
         have e0 : fv 0 = _ := hv 0 (by omega)
         have e1 : fv 1 = _ := hv 1 (by omega)
         have e2 : fv 2 = _ := hv 2 (by omega)
         have e3 : fv 3 = _ := hv 3 (by omega)
         have e4 : fv 4 = _ := hv 4 (by omega)
         have e5 : fv 5 = _ := hv 5 (by omega)
         have e6 : fv 6 = _ := hv 6 (by omega)
         have e7 : fv 7 = _ := hv 7 (by omega)
         have e8 : fv 8 = _ := hv 8 (by omega)
         have e9 : fv 9 = _ := hv 9 (by omega)
         simp only [List.take_succ_cons, List.take_zero, putsV, Act.put, List.setIfInBounds_toArray, List.set_cons_succ, List.set_cons_zero, List.drop_succ_cons, List.drop_zero, Nat.zero_add, Nat.reduceAdd, e0, e1, e2, e3, e4, e5, e6, e7, e8, e9]
         replace hL0 := hL0.call (below_drew hb1)
         replace hS := hS.call (below_drew hb1)
         clear e0 e1 e2 e3 e4 e5 e6 e7 e8 e9 hb1 hv fv
         go_wp2_with fail
         go_roundg (gk - 1)
         case measure => omega
         case rel => exact ⟨i + 1, by omega, by first | rfl | go_num, hL0.weak (List.Sublist.cons _ (List.Sublist.cons _ (List.Sublist.cons _ (List.Sublist.cons _ (List.Sublist.cons _ (List.Sublist.refl _))))))⟩
      ·obtain rfl : i = j := by omega
       have k1 : ¬ (i : Int) < (i : Int) := by omega
       clear hik hin
       go_wp2_with fail
       with_reducible refine Calls.mono (HW.out _ (hKT.out.at hL0.bl kKT)) ?_
       rintro e x11 ⟨rfl, hb⟩
       replace hL0 := hL0.call hb
       replace hS := hS.call hb
       clear hb
       go_wp2_with fail
       exact bodyPost_ret (v := .bool true) (by simp [results, Tryz.results4, go_sem]) rfl ⟨rfl, hwy.out.trans (hL0.bl.mono hwy.out.size)⟩
end Go.Proofs.YtaimebjkidegiaaGreatDoor
namespace Go.Proofs.YtaimebjkidegiaaGreatDoor
open Go.RowKit
attribute [local irreducible] lo hs sm s64 c64 d64 b64 mh ml pd pc qd qc val hiB str cmpI srD lz nb isq zl zh zs fe
set_option maxHeartbeats 4000000 in
set_option maxRecDepth 100000 in
theorem pjoins_b0 (sx : Bool) (ax al : Option Addr) (nx cx n cl : Nat) (tn : Int) (KT : World → Prop) (hKT : Keeps KT) (HW : ∀ (w : World), KT w → Calls Tryz.prog 15 #[] w fun e w' => e = .returned (.bool true) ∧ Below w.heap.size w w') (l0 : decide ((8 : Int) < (nx : Int)) = true) (k0 : decide (8 < nx) = true) (w : World) (kKT : KT w) :
  Calls Tryz.prog 4 #[.agg #[.bool sx, .slice ax nx cx], .slice al n cl, .int .i64 tn] w fun e w' => e = .returned (.bool true) ∧ Below w.heap.size w w' := by
 replace hKT := Lib.hid hKT
 replace HW := Lib.hid HW
 have hL0 : GL w w [] := GL.start w
 have hS : SS w [] := SS.nil w
 replace hS := (hS.new (.cells #[.bool sx, .slice ax nx cx] 48))
 replace hL0 := (hL0.new rfl [.bool sx, .slice ax nx cx] 48)
 generalize hweq : (w.alloc (.cells #[.bool sx, .slice ax nx cx] 48)) = x1 at hL0 hS
 go_enter Tryz.func4, Tryz.ntmps4
 have hN0 := cells_of _ 0 [] rfl (hL0.get _ _ List.mem_cons_self)
 simp only [cellsF, and_true, Nat.zero_add, Nat.reduceAdd] at hN0
 go_wp2_with fail
 clear hN0
 with_reducible refine Calls.mono (HW.out _ (hKT.out.at (hL0.bl) kKT)) ?_
 rintro e x2 ⟨rfl, hb⟩
 replace hL0 := hL0.call hb
 replace hS := hS.call hb
 clear hb hweq
 go_wp2_with fail
 exact bodyPost_ret (v := .bool true) (by simp [results, Tryz.results4, go_sem]) rfl ⟨rfl, hL0.bl⟩
set_option maxHeartbeats 4000000 in
set_option maxRecDepth 100000 in
theorem pjoins_b1 (sx : Bool) (ax al : Option Addr) (nx cx n cl : Nat) (tn : Int) (KT : World → Prop) (hKT : Keeps KT) (HW : ∀ (w : World), KT w → Calls Tryz.prog 15 #[] w fun e w' => e = .returned (.bool true) ∧ Below w.heap.size w w') (l0 : decide ((8 : Int) < (nx : Int)) = false) (k0 : decide (8 < nx) = false) (l1 : decide ((6 : Int) < (n : Int)) = true) (k1 : decide (6 < n) = true) (w : World) (kKT : KT w) :
  Calls Tryz.prog 4 #[.agg #[.bool sx, .slice ax nx cx], .slice al n cl, .int .i64 tn] w fun e w' => e = .returned (.bool true) ∧ Below w.heap.size w w' := by
 replace hKT := Lib.hid hKT
 replace HW := Lib.hid HW
 have hL0 : GL w w [] := GL.start w
 have hS : SS w [] := SS.nil w
 replace hS := (hS.new (.cells #[.bool sx, .slice ax nx cx] 48))
 replace hL0 := (hL0.new rfl [.bool sx, .slice ax nx cx] 48)
 generalize hweq : (w.alloc (.cells #[.bool sx, .slice ax nx cx] 48)) = x1 at hL0 hS
 go_enter Tryz.func4, Tryz.ntmps4
 have hN0 := cells_of _ 0 [] rfl (hL0.get _ _ List.mem_cons_self)
 simp only [cellsF, and_true, Nat.zero_add, Nat.reduceAdd] at hN0
 go_wp2_with fail
 clear hN0
 with_reducible refine Calls.mono (HW.out _ (hKT.out.at (hL0.bl) kKT)) ?_
 rintro e x2 ⟨rfl, hb⟩
 replace hL0 := hL0.call hb
 replace hS := hS.call hb
 clear hb hweq
 go_wp2_with fail
 exact bodyPost_ret (v := .bool true) (by simp [results, Tryz.results4, go_sem]) rfl ⟨rfl, hL0.bl⟩
set_option maxHeartbeats 16000000 in
set_option maxRecDepth 100000 in
theorem pjoins_zero (sx : Bool) (ax al : Option Addr) (nx cx cl : Nat) (tn ia fm qm : Int) (KX : World → Prop) (hKX : Keeps KX) (HZ : ∀ (w : World), KX w → Calls Tryz.prog 16 #[.agg #[.bool sx, .slice ax nx cx]] w fun e w' => e = .returned (intV ia) ∧ Below w.heap.size w w') (HC : ∀ w, Calls Tryz.prog 20 #[.slice none 0 0] w fun xe w' => xe = .returned (.tuple #[.agg #[.int .u64 0, .string ⟨#[]⟩, .bool false, .int .u64 ((lo 1 : Nat) : Int), .string (hs 1)], .int .i64 0]) ∧ Below w.heap.size w w') (HO : ∀ w, Calls Tryz.prog 17 #[.int .u64 1] w fun xe w' => xe = .returned (natV 1) ∧ Below w.heap.size w w') (HFM : ∀ w, Calls Tryz.prog 19 #[.bool false, natV 1] w fun xe w' => xe = .returned (intV fm) ∧ Below w.heap.size w w') (HDM : ∀ w, Calls Tryz.prog 21 #[intV ia, intV fm] w fun xe w' => xe = .returned (.tuple #[intV qm, .agg #[.int .u64 0, .string ⟨#[]⟩, .bool false], .bool true]) ∧ Below w.heap.size w w') (KT : World → Prop) (hKT : Keeps KT) (HW : ∀ (w : World), KT w → Calls Tryz.prog 15 #[] w fun e w' => e = .returned (.bool true) ∧ Below w.heap.size w w') (l0 : decide ((8 : Int) < (nx : Int)) = false) (k0 : decide (8 < nx) = false) (w : World) (kKX : KX w) (kKT : KT w) :
  Calls Tryz.prog 4 #[.agg #[.bool sx, .slice ax nx cx], .slice al 0 cl, .int .i64 tn] w fun e w' => e = .returned (.bool true) ∧ Below w.heap.size w w' := by
 replace hKX := Lib.hid hKX
 replace HZ := Lib.hid HZ
 replace HC := Lib.hid HC
 replace HO := Lib.hid HO
 replace HFM := Lib.hid HFM
 replace HDM := Lib.hid HDM
 replace hKT := Lib.hid hKT
 replace HW := Lib.hid HW
 have hL0 : GL w w [] := GL.start w
 have hS : SS w [] := SS.nil w
 replace hS := (hS.new (.cells #[.bool sx, .slice ax nx cx] 48))
 replace hL0 := (hL0.new rfl [.bool sx, .slice ax nx cx] 48)
 generalize hweq : (w.alloc (.cells #[.bool sx, .slice ax nx cx] 48)) = x1 at hL0 hS
 go_enter Tryz.func4, Tryz.ntmps4
 have hN0 := cells_of _ 0 [] rfl (hL0.get _ _ List.mem_cons_self)
 simp only [cellsF, and_true, Nat.zero_add, Nat.reduceAdd] at hN0
 go_wp2_with fail
 clear hN0
 with_reducible refine Calls.mono (HZ.out _ (hKX.out.at (hL0.bl) kKX)) ?_
 rintro e x2 ⟨rfl, hb⟩
 replace hL0 := hL0.call hb
 replace hS := hS.call hb
 clear hb hweq
 replace hS := (hS.new (.cells #[.int .u64 ((zl ia : Nat) : Int), .string (zh ia), .bool (zs ia)] 32))
 replace hL0 := (hL0.new rfl [.int .u64 ((zl ia : Nat) : Int), .string (zh ia), .bool (zs ia)] 32)
 generalize hweq : (x2.alloc (.cells #[.int .u64 ((zl ia : Nat) : Int), .string (zh ia), .bool (zs ia)] 32)) = x3 at hL0 hS
 go_wp2_with fail
 clear hweq
 go_loopg [8, 10] 0 (fun gk v z wr => v = .slice none 0 0 ∧ z = .int .i64 0 ∧ GL w wr [(x2.heap.size, [.int .u64 ((zl ia : Nat) : Int), .string (zh ia), .bool (zs ia)]), (w.heap.size, [.bool sx, .slice ax nx cx])])
 case atStart => exact ⟨by first | rfl | go_num, by first | rfl | go_num, hL0⟩
 case round =>
  clear hL0 hS
  obtain ⟨rfl, rfl, hL0⟩ := hrel
  have hS : SS wr [] := SS.nil wr
  go_wp2_with fail
  with_reducible refine Calls.mono (HC.out _) ?_
  rintro e x4 ⟨rfl, hb⟩
  replace hL0 := hL0.call hb
  replace hS := hS.call hb
  clear hb
  replace hS := (hS.new (.cells #[.int .u64 0, .string ⟨#[]⟩, .bool false, .int .u64 ((lo 1 : Nat) : Int), .string (hs 1)] 55))
  replace hL0 := (hL0.new rfl [.int .u64 0, .string ⟨#[]⟩, .bool false, .int .u64 ((lo 1 : Nat) : Int), .string (hs 1)] 55)
  generalize hweq : (x4.alloc (.cells #[.int .u64 0, .string ⟨#[]⟩, .bool false, .int .u64 ((lo 1 : Nat) : Int), .string (hs 1)] 55)) = x5 at hL0 hS
  go_wp2_with fail
  with_reducible refine Calls.mono (HC.out _) ?_
  rintro e x6 ⟨rfl, hb⟩
  replace hL0 := hL0.call hb
  replace hS := hS.call hb
  clear hb hweq
  replace hS := (hS.new (.cells #[.int .u64 0, .string ⟨#[]⟩, .bool false, .int .u64 ((lo 1 : Nat) : Int), .string (hs 1)] 55))
  replace hL0 := (hL0.new rfl [.int .u64 0, .string ⟨#[]⟩, .bool false, .int .u64 ((lo 1 : Nat) : Int), .string (hs 1)] 55)
  generalize hweq : (x6.alloc (.cells #[.int .u64 0, .string ⟨#[]⟩, .bool false, .int .u64 ((lo 1 : Nat) : Int), .string (hs 1)] 55)) = x7 at hL0 hS
  go_wp2_with fail
  with_reducible refine Calls.mono (HO.out _) ?_
  rintro e x8 ⟨rfl, hb⟩
  replace hL0 := hL0.call hb
  replace hS := hS.call hb
  clear hb hweq
  replace hS := (hS.new (.cells #[.int .u64 0, .string ⟨#[]⟩, .bool false, .int .u64 ((lo 1 : Nat) : Int), .string (hs 1)] 55))
  replace hL0 := (hL0.new rfl [.int .u64 0, .string ⟨#[]⟩, .bool false, .int .u64 ((lo 1 : Nat) : Int), .string (hs 1)] 55)
  generalize hweq : (x8.alloc (.cells #[.int .u64 0, .string ⟨#[]⟩, .bool false, .int .u64 ((lo 1 : Nat) : Int), .string (hs 1)] 55)) = x9 at hL0 hS
  go_wp2_with fail
  clear hweq
  go_loopg [18] 0 (fun gk z wr => z = .int .i64 0 ∧ GL w wr [(x8.heap.size, [.int .u64 0, .string ⟨#[]⟩, .bool false, .int .u64 ((lo 1 : Nat) : Int), .string (hs 1)]), (x6.heap.size, [.int .u64 0, .string ⟨#[]⟩, .bool false, .int .u64 ((lo 1 : Nat) : Int), .string (hs 1)]), (x4.heap.size, [.int .u64 0, .string ⟨#[]⟩, .bool false, .int .u64 ((lo 1 : Nat) : Int), .string (hs 1)]), (x2.heap.size, [.int .u64 ((zl ia : Nat) : Int), .string (zh ia), .bool (zs ia)]), (w.heap.size, [.bool sx, .slice ax nx cx])])
  case atStart => exact ⟨by first | rfl | go_num, hL0⟩
  case round =>
   clear hL0 hS
   obtain ⟨rfl, hL0⟩ := hrel
   have hS : SS wr [] := SS.nil wr
   go_upto_region 22 with fail
   refine region_gh (by kernel_rfl) (by kernel_rfl) ?_
   refine lex_seg (gl := []) 9 (by kernel_rfl) ?_
   intro α iα F hF1 hF2
   have hq := GL.seg hF1 hL0
   simp only [fcC, cellsC, and_true, Nat.zero_add, Nat.reduceAdd] at hq
   simp only [List.take_succ_cons, List.take_zero, List.drop_succ_cons, List.drop_zero, List.take_nil, List.drop_nil]
   repeat (go_big_quiet_step (first | fail | (go_at_call 19; with_reducible exact seg_call hF2 HFM.out _) | (go_at_call 21; with_reducible exact seg_call hF2 HDM.out _)))
   refine wpQuiet_nil ?_
   clear hq hF1 hF2 iα F α
   refine lex_new [.int .u64 0, .string ⟨#[]⟩, .bool false] 19 32 32 rfl rfl (of_decide_eq_true (by kernel_rfl)) (by kernel_rfl) rfl new_int ?_
   simp only [Act.put, List.setIfInBounds_toArray, List.set_cons_succ, List.set_cons_zero]
   refine lex_new [.int .u64 0, .string ⟨#[]⟩, .bool false] 20 32 32 rfl rfl (of_decide_eq_true (by kernel_rfl)) (by kernel_rfl) rfl new_int ?_
   simp only [Act.put, List.setIfInBounds_toArray, List.set_cons_succ, List.set_cons_zero]
   refine lex_put [.int .u64 ((zl qm : Nat) : Int), .string (zh qm), .bool (zs qm)] [.int .u64 0, .string ⟨#[]⟩, .bool false] 19 32 (.tmp 120) rfl (by kernel_rfl) (by simp [toG, upd]) rfl (fun w k h => put_int _ _ _ _ _ _ w k h) ?_
   simp only [Act.put]
   refine lex_put [.int .u64 0, .string ⟨#[]⟩, .bool false] [.int .u64 0, .string ⟨#[]⟩, .bool false] 20 32 (.tmp 121) rfl (by kernel_rfl) (by simp [toG, upd]) rfl (fun w k h => put_int _ _ _ _ _ _ w k h) ?_
   simp only [Act.put]
   refine lex_seg (gl := [(20, [.int .u64 0, .string ⟨#[]⟩, .bool false], true), (19, [.int .u64 ((zl qm : Nat) : Int), .string (zh qm), .bool (zs qm)], true), (20, [.int .u64 0, .string ⟨#[]⟩, .bool false], false), (19, [.int .u64 0, .string ⟨#[]⟩, .bool false], false)]) 1 (by kernel_rfl) ?_
   intro α iα F hF1 hF2
   have hq := GL.seg hF1 hL0
   simp only [fcC, cellsC, and_true, Nat.zero_add, Nat.reduceAdd] at hq
   simp only [List.take_succ_cons, List.take_zero, List.drop_succ_cons, List.drop_zero, List.take_nil, List.drop_nil]
   repeat (go_big_quiet_step (first | fail | (go_at_call 19; with_reducible exact seg_call hF2 HFM.out _) | (go_at_call 21; with_reducible exact seg_call hF2 HDM.out _)))
   refine wpQuiet_nil ?_
   clear hq hF1 hF2 iα F α
   refine lexG_nil ?_
   intro κ x10 hS
   replace hL0 := hL0.ghs hS [(20, [.int .u64 0, .string ⟨#[]⟩, .bool false]), (19, [.int .u64 ((zl qm : Nat) : Int), .string (zh qm), .bool (zs qm)])] (by simp) (by intro p hp; simp only [List.mem_cons, List.not_mem_nil, or_false] at hp; rcases hp with rfl | rfl <;> exact ⟨_, by simp only [toG, upd]; rfl⟩)
   simp only [List.map_cons, List.map_nil, List.cons_append, List.nil_append] at hL0
   simp only [over_toG, over_nil, Act.put, List.setIfInBounds_toArray, List.set_cons_succ, List.set_cons_zero]
   clear hS
   generalize κ 20 = k10_20 at *
   generalize κ 19 = k10_19 at *
   have hN0 := cells_of _ 0 [] rfl (hL0.get _ _ List.mem_cons_self)
   simp only [cellsF, and_true, Nat.zero_add, Nat.reduceAdd] at hN0
   have hN1 := cells_of _ 0 [] rfl (hL0.get _ _ (List.mem_cons_of_mem _ (List.mem_cons_of_mem _ List.mem_cons_self)))
   simp only [cellsF, and_true, Nat.zero_add, Nat.reduceAdd] at hN1
   have hN2 := cells_of _ 0 [] rfl (hL0.get _ _ (List.mem_cons_of_mem _ (List.mem_cons_of_mem _ (List.mem_cons_of_mem _ List.mem_cons_self))))
   simp only [cellsF, and_true, Nat.zero_add, Nat.reduceAdd] at hN2
   have hN3 := cells_of _ 0 [] rfl (hL0.get _ _ (List.mem_cons_of_mem _ (List.mem_cons_of_mem _ (List.mem_cons_of_mem _ (List.mem_cons_of_mem _ List.mem_cons_self)))))
   simp only [cellsF, and_true, Nat.zero_add, Nat.reduceAdd] at hN3
   go_wp2_with fail
   clear hN0 hN1 hN2 hN3
   go_loopg [22] 0 (fun gk z wr => z = .int .i64 0 ∧ GL w wr [(k10_20, [.int .u64 0, .string ⟨#[]⟩, .bool false]), (k10_19, [.int .u64 ((zl qm : Nat) : Int), .string (zh qm), .bool (zs qm)]), (x8.heap.size, [.int .u64 0, .string ⟨#[]⟩, .bool false, .int .u64 ((lo 1 : Nat) : Int), .string (hs 1)]), (x6.heap.size, [.int .u64 0, .string ⟨#[]⟩, .bool false, .int .u64 ((lo 1 : Nat) : Int), .string (hs 1)]), (x4.heap.size, [.int .u64 0, .string ⟨#[]⟩, .bool false, .int .u64 ((lo 1 : Nat) : Int), .string (hs 1)]), (x2.heap.size, [.int .u64 ((zl ia : Nat) : Int), .string (zh ia), .bool (zs ia)]), (w.heap.size, [.bool sx, .slice ax nx cx])])
   case atStart => exact ⟨by first | rfl | go_num, hL0⟩
   case round =>
    clear hL0 hS
    obtain ⟨rfl, hL0⟩ := hrel
    have hS : SS wr [] := SS.nil wr
    go_wp2_with fail
    with_reducible refine Calls.mono (HW.out _ (hKT.out.at (hL0.bl) kKT)) ?_
    rintro e x11 ⟨rfl, hb⟩
    replace hL0 := hL0.call hb
    replace hS := hS.call hb
    clear hb
    go_wp2_with fail
    exact bodyPost_ret (v := .bool true) (by simp [results, Tryz.results4, go_sem]) rfl ⟨rfl, hL0.bl⟩
end Go.Proofs.YtaimebjkidegiaaGreatDoor
namespace Go.Proofs.YtaimebjkidegiaaGreatDoor
open Go.RowKit
attribute [local irreducible] lo hs sm s64 c64 d64 b64 mh ml pd pc qd qc val hiB str cmpI srD lz nb isq zl zh zs
/-- The congruences of a modulo the numbers of l. -/
def jcs (a : Int) (l : List Nat) : List (Int × Nat) := l.mapIdx fun i u => (if i % 2 = 0 then a + -((max u 1 : Nat) : Int) else a + ((max u 1 : Nat) : Int), max u 1)
theorem jcs_len (a : Int) (l : List Nat) : (jcs a l).length = l.length := List.length_mapIdx
theorem jcs_get (a : Int) (l : List Nat) (i : Nat) (h : i < l.length) (h' : i < (jcs a l).length) : (jcs a l)[i]'h' = (if i % 2 = 0 then a + -((max (l[i]'h) 1 : Nat) : Int) else a + ((max (l[i]'h) 1 : Nat) : Int), max (l[i]'h) 1) := List.getElem_mapIdx
theorem jcs_pos {a : Int} {l : List Nat} : ∀ c ∈ jcs a l, 0 < c.2 := fun c hc => by
 obtain ⟨i, hi, rfl⟩ := List.getElem_of_mem hc
 rw [jcs_get a l i (by rw [← jcs_len a l]; exact hi) hi]
 show 0 < max _ 1
 omega
theorem jcs_holds (a : Int) (l : List Nat) : Holds (jcs a l) a := fun c hc => by
 obtain ⟨i, hi, rfl⟩ := List.getElem_of_mem hc
 rw [jcs_get a l i (by rw [← jcs_len a l]; exact hi) hi]
 split
 ·exact ⟨1, by simp only; omega⟩
 ·exact ⟨-1, by simp only; omega⟩
theorem jcs_sz {a : Int} {l : List Nat} {k : Nat} (ha : dI a ≤ k) (hk : 1 ≤ k) (hl : ∀ x ∈ l, x < 4294967296) : ∀ c ∈ jcs a l, dI c.1 ≤ k + 1 ∧ (digs c.2).length ≤ 1 := fun c hc => by
 obtain ⟨i, hi, rfl⟩ := List.getElem_of_mem hc
 have hi' : i < l.length := by rw [← jcs_len a l]; exact hi
 rw [jcs_get a l i hi' hi]
 have hm : max l[i] 1 < 4294967296 := by have := hl _ (List.getElem_mem hi'); omega
 refine ⟨?_, digs_length_iff.2 (by rw [Nat.pow_one]; unfold Bs; show max _ 1 < _; omega)⟩
 have hd : dI ((max l[i] 1 : Nat) : Int) ≤ k := Nat.le_trans (dI_lit (by omega)) hk
 show dI (if _ then _ else _) ≤ _
 split
 ·exact dI_add ha (by rw [dI_neg]; exact hd)
 ·exact dI_add ha hd
theorem chin_at {L : List (Int × Nat)} {a : Int} (hp : ∀ c ∈ L, 0 < c.2) (hh : Holds L a) (hl : L.length ≤ 10) (hs : ∀ c ∈ L, dI c.1 ≤ 20 ∧ (digs c.2).length ≤ 20) (v : Value) (w : World) (hv : SlR w v L) :
  Calls Tryz.prog 20 #[v] w fun xe w' => xe = .returned (.tuple #[frV (a % (lcmL L : Int)) (lcmL L), .int .i64 0]) ∧ Below w.heap.size w w' := by
 have h := chinP L 20 (by decide) (by omega) hs v w hv
 obtain ⟨e1, e2⟩ := ch_holds hp hh
 rw [e1, e2] at h
 exact h
theorem lcm_sz {L : List (Int × Nat)} {a : Int} (hp : ∀ c ∈ L, 0 < c.2) (hh : Holds L a) (hl : L.length ≤ 6) (hs : ∀ c ∈ L, (digs c.2).length ≤ 1) : dI (a % (lcmL L : Int)) ≤ 7 ∧ (digs (lcmL L)).length ≤ 7 := by
 have h := chV_sz L 1 (by decide) hs
 rw [(ch_holds hp hh).1] at h
 exact ⟨Nat.le_trans h.1 (by omega), Nat.le_trans h.2 (by omega)⟩
theorem crt_bad {d x R a c : Int} (h1 : d ∣ x - R) (h2 : d ∣ a - R) (h3 : d ∣ a - c) (h4 : d ∣ x - (c + 1)) : d ∣ 1 := by
 have := Int.dvd_sub (Int.dvd_add (Int.dvd_sub h1 h2) h3) h4
 rwa [show x - R - (a - R) + (a - c) - (x - (c + 1)) = 1 by omega] at this
theorem natV_00 : natV 0 = .agg #[.int .u64 0, .string ⟨#[]⟩] := by unfold natV; rw [show lo 0 = 0 from lo_small Bs_pos, show hs 0 = ⟨#[]⟩ from hs_small Bs_pos]; rfl
theorem intV_00 : intV 0 = .agg #[.int .u64 0, .string ⟨#[]⟩, .bool false] := by unfold intV; rw [z0.1, z0.2.1, z0.2.2]; rfl
theorem frV_01 : frV 0 1 = .agg #[.int .u64 0, .string ⟨#[]⟩, .bool false, .int .u64 ((lo 1 : Nat) : Int), .string (hs 1)] := by unfold frV; rw [z0.1, z0.2.1, z0.2.2]; rfl
set_option maxHeartbeats 4000000 in
theorem pjoins_any (sx : Bool) (ax al : Option Addr) (nx cx n cl : Nat) (tn : Int) (lx ll : List Nat) (w : World) (hT : Tab w) (hx : Ws w (.slice ax nx cx) lx) (hw : Ws w (.slice al n cl) ll) :
  Calls Tryz.prog 4 #[.agg #[.bool sx, .slice ax nx cx], .slice al n cl, .int .i64 tn] w fun xe w' => xe = .returned (.bool true) ∧ Below w.heap.size w w' := by
 have hlx := hx.len
 have hlen := hw.len
 by_cases h8 : 8 < nx
 ·exact pjoins_b0 sx ax al nx cx n cl tn Tab Keeps.tab pworks_any (decide_eq_true (by omega)) (decide_eq_true h8) w hT
 have q1 : decide ((8 : Int) < (nx : Int)) = false := decide_eq_false (by omega)
 have q2 : decide (8 < nx) = false := decide_eq_false h8
 by_cases h6 : 6 < n
 ·exact pjoins_b1 sx ax al nx cx n cl tn Tab Keeps.tab pworks_any q1 q2 (decide_eq_true (by omega)) (decide_eq_true h6) w hT
 have HZ : ∀ w, Ws w (.slice ax nx cx) lx → _ := fun w h => zof_any sx ax nx cx lx (by omega) w h
 have hKZ : Keeps fun w => Ws w (.slice ax nx cx) lx := fun _ _ hb h => h.below hb
 have sa : dI (zmade sx lx) ≤ 8 := Nat.le_trans (zmade_dI hx.lt) (by omega)
 have hlt := hw.lt
 generalize zmade sx lx = a at *
 rcases Nat.eq_zero_or_pos n with h0 | h0
 ·subst h0
  have HC := fun w => chinP [] 1 (by decide) (by decide) (fun c hc => by cases hc) (.slice none 0 0) w (slr_nil w)
  rw [(ch_holds (l := []) (x := 0) (fun c hc => by cases hc) (holds_nil 0)).1, (ch_holds (l := []) (x := 0) (fun c hc => by cases hc) (holds_nil 0)).2, show ((0 : Int) % ((lcmL [] : Nat) : Int), lcmL []) = (0, 1) from rfl] at HC
  simp only [frV_01] at HC
  have HD := fun w => divI a 1 (by decide) (by omega) (Nat.le_trans (dI_lit (by decide)) (by omega)) w
  rw [Int.emod_one, intV_00] at HD
  exact pjoins_zero sx ax al nx cx cl tn a 1 (a / 1) _ hKZ HZ HC one_o (fun w => fromI false 1 1 (by simp) w) HD Tab Keeps.tab pworks_any q1 q2 w hx hT
 have hq : 0 < n → ∃ a, al = some a ∧ Wd w a ll := fun h => by
  rcases hw with ⟨a2, c2, h1, h2⟩ | ⟨a, c2, h1, h2⟩
  ·simp only [Value.slice.injEq] at h1; omega
  ·simp only [Value.slice.injEq] at h1; exact ⟨a, h1.1, h2⟩
 obtain ⟨cs, hcs⟩ : ∃ cs, cs = jcs a ll := ⟨_, rfl⟩
 have hcl : cs.length = n := by rw [hcs, jcs_len, hlen]
 have hpos : ∀ c ∈ cs, 0 < c.2 := by rw [hcs]; exact jcs_pos
 have hhold : Holds cs a := by rw [hcs]; exact jcs_holds a ll
 have hsz : ∀ c ∈ cs, dI c.1 ≤ 9 ∧ (digs c.2).length ≤ 1 := by rw [hcs]; exact jcs_sz sa (by decide) hlt
 have hget : ∀ i (h : i < ll.length) (h' : i < cs.length), cs[i]'h' = (if i % 2 = 0 then a + -((max (ll[i]'h) 1 : Nat) : Int) else a + ((max (ll[i]'h) 1 : Nat) : Int), max (ll[i]'h) 1) := fun i h h' => by subst hcs; exact jcs_get a ll i h h'
 have hs20 : ∀ c ∈ cs, dI c.1 ≤ 20 ∧ (digs c.2).length ≤ 20 := fun c hc => ⟨Nat.le_trans (hsz c hc).1 (by decide), Nat.le_trans (hsz c hc).2 (by decide)⟩
 have hLs := lcm_sz hpos hhold (by omega) (fun c hc => (hsz c hc).2)
 have hLp := lcmL_pos hpos
 have htsz : ∀ j, dI (a % (lcmL (cs.take j) : Int)) ≤ 7 ∧ (digs (lcmL (cs.take j))).length ≤ 7 := fun j =>
  lcm_sz (fun c hc => hpos c (List.mem_of_mem_take hc)) (fun c hc => hhold c (List.mem_of_mem_take hc)) (by rw [List.length_take]; omega) (fun c hc => (hsz c (List.mem_of_mem_take hc)).2)
 have hself : ∀ M : Nat, 0 < M → (M : Int) ∣ a - a % (M : Int) := fun M hM => (res_mod hM a).2.2
 have hu0 : 0 ≤ IntKind.u64.wrap tn := by simp [IntKind.wrap, IntKind.signed, IntKind.bits]; omega
 obtain ⟨tu, htu⟩ : ∃ tu, IntKind.u64.wrap tn = tu := ⟨_, rfl⟩
 rw [htu] at hu0
 have hk1 : 0 ≤ tu.tmod (n : Int) := Int.tmod_nonneg _ hu0
 have hk2 : tu.tmod (n : Int) < (n : Int) := Int.tmod_lt_of_pos _ (by omega)
 refine pjoins_w sx ax al nx cx n cl tn tu a (lcmL cs) (a / (lcmL cs : Int)) ll cs (tu.tmod (n : Int)).toNat (a % (lcmL cs : Int)) (lcmL cs) (fun i z m => z = a % (lcmL (cs.take i) : Int) ∧ m = lcmL (cs.take i))
  hlen hcl h0 (by omega) q1 q2 htu (by omega) (by omega) ?_ ?_ _ hKZ HZ (chin_at hpos hhold (by omega) hs20) ?_ one_o (fun w => fromI false _ _ (by simp) w) ?_ ?_ ?_ ?_ ?_ ?_ (fun w => ofI 1 (by decide) (by decide) w) Tab Keeps.tab pworks_any w hx hT hq
 ·intro i h h'
  rw [hget i h h']
  have := hlt _ (List.getElem_mem h)
  refine ⟨by show max _ (1 : Int) = ((max _ 1 : Nat) : Int); omega, by show ((max _ 1 : Nat) : Int) % _ = _; omega⟩
 ·intro i h
  have hi : i < ll.length := by omega
  rw [hget i hi h]
  have hm := hlt _ (List.getElem_mem hi)
  refine ⟨_, _, rfl, rfl, (if i % 2 = 0 then -((max (ll[i]'hi) 1 : Nat) : Int) else ((max (ll[i]'hi) 1 : Nat) : Int)), fun w => fromI _ _ _ ?_ w, fun w => ?_, fun w => of_val _ _ rfl (by unfold Bs; show max _ 1 < _; omega) w⟩
  ·rw [Int.tmod_eq_emod_of_nonneg (by omega)]
   by_cases he : i % 2 = 0
   ·rw [if_pos he, show (((i : Int) % 2) == 0) = true from beq_iff_eq.2 (by omega)]; rfl
   ·rw [if_neg he, show (((i : Int) % 2) == 0) = false from beq_eq_false_iff_ne.2 (by omega)]; rfl
  ·have hd : dI ((max (ll[i]'hi) 1 : Nat) : Int) ≤ 1000000000 := Nat.le_trans (dI_lit (by omega)) (by decide)
   by_cases he : i % 2 = 0
   ·simp only [if_pos he]
    exact addI a _ (by omega) (by rw [dI_neg]; exact hd) w
   ·simp only [if_neg he]
    exact addI a _ (by omega) hd w
 ·have e : lcmL (cs.drop (tu.tmod (n : Int)).toNat ++ cs.take (tu.tmod (n : Int)).toNat) = lcmL cs := by rw [lcmL_turn, List.take_append_drop]
  have hm : ∀ c ∈ cs.drop (tu.tmod (n : Int)).toNat ++ cs.take (tu.tmod (n : Int)).toNat, c ∈ cs := fun c hc => by
   rcases List.mem_append.1 hc with h | h
   ·exact List.mem_of_mem_drop h
   ·exact List.mem_of_mem_take h
  have h := fun v w hv => chin_at (a := a) (fun c hc => hpos c (hm c hc)) (fun c hc => hhold c (hm c hc)) (by rw [List.length_append, List.length_drop, List.length_take]; omega) (fun c hc => hs20 c (hm c hc)) v w hv
  rw [e] at h
  exact h
 ·intro w
  exact divI a _ (by omega) (by omega) (Nat.le_trans (Nat.le_of_eq (dI_nat _)) (by omega)) w
 ·rintro j z m h ⟨rfl, rfl⟩
  have hp2 : ∀ c ∈ [(a % (lcmL (cs.take j) : Int), lcmL (cs.take j)), cs[j]'h], 0 < c.2 := fun c hc => by
   simp only [List.mem_cons, List.not_mem_nil, or_false] at hc
   rcases hc with rfl | rfl
   ·exact lcmL_pos fun c hc => hpos c (List.mem_of_mem_take hc)
   ·exact hpos _ (List.getElem_mem h)
  have hh2 : Holds [(a % (lcmL (cs.take j) : Int), lcmL (cs.take j)), cs[j]'h] a := fun c hc => by
   have hc0 := hp2 c hc
   simp only [List.mem_cons, List.not_mem_nil, or_false] at hc
   rcases hc with rfl | rfl
   ·exact hself _ hc0
   ·exact hhold _ (List.getElem_mem h)
  have e : lcmL [(a % (lcmL (cs.take j) : Int), lcmL (cs.take j)), cs[j]'h] = lcmL (cs.take (j + 1)) := by
   rw [List.take_succ_eq_append_getElem h, lcmL_snoc]
   show Nat.lcm _ (Nat.lcm _ 1) = _
   rw [Nat.lcm_one_right]
  have hC := fun v w hv => chin_at hp2 hh2 (by simp) (fun c hc => by
   simp only [List.mem_cons, List.not_mem_nil, or_false] at hc
   rcases hc with rfl | rfl
   ·exact ⟨Nat.le_trans (htsz j).1 (by decide), Nat.le_trans (htsz j).2 (by decide)⟩
   ·exact hs20 _ (List.getElem_mem h)) v w hv
  rw [e] at hC
  exact ⟨_, _, ⟨rfl, rfl⟩, hC⟩
 ·exact ⟨by rw [List.take_zero]; show (0 : Int) = a % ((1 : Nat) : Int); omega, by rw [List.take_zero]; rfl⟩
 ·rintro z m ⟨rfl, rfl⟩
  rw [List.take_of_length_le (by omega)]
  exact ⟨rfl, rfl⟩
 ·intro i h
  have hd : cs[i].2 ∣ lcmL cs := lcmL_dvd.1 (Nat.dvd_refl _) _ (List.getElem_mem h)
  refine ⟨lcmL cs / cs[i].2, fun w => ?_⟩
  have hD := div_pos (lcmL cs) (cs[i].2) (hpos _ (List.getElem_mem h)) (Nat.le_trans hLs.2 (by decide)) w
  rw [Nat.mod_eq_zero_of_dvd hd, natV_00] at hD
  exact hD
 ·intro i h
  have hci := List.getElem_mem h
  have hp := hpos _ hci
  have hd : ((cs[i].2 : Nat) : Int) ∣ ((lcmL cs : Nat) : Int) := Int.natCast_dvd_natCast.2 (lcmL_dvd.1 (Nat.dvd_refl _) _ hci)
  have hh := hhold _ hci
  have hs := hsz _ hci
  have hpL : ∀ c ∈ [(a % (lcmL cs : Int), lcmL cs), (cs[i].1 + 1, cs[i].2)], 0 < c.2 := fun c hc => by
   simp only [List.mem_cons, List.not_mem_nil, or_false] at hc
   rcases hc with rfl | rfl
   ·exact hLp
   ·exact hp
  refine ⟨cs[i].1 + 1, _, _, _, fun w => addI _ 1 (by omega) (Nat.le_trans (dI_lit (by decide)) (by decide)) w, fun v w hv => chinP _ 20 (by decide) (by simp) (fun c hc => ?_) v w hv, fun e => ?_, fun e => ?_⟩
  ·simp only [List.mem_cons, List.not_mem_nil, or_false] at hc
   rcases hc with rfl | rfl
   ·exact ⟨Nat.le_trans hLs.1 (by decide), Nat.le_trans hLs.2 (by decide)⟩
   ·exact ⟨Nat.le_trans (dI_add (k := 9) hs.1 (Nat.le_trans (dI_lit (by decide)) (by decide))) (by decide), Nat.le_trans hs.2 (by decide)⟩
  ·refine (ch_holds (x := a) hpL fun c hc => ?_).2
   simp only [List.mem_cons, List.not_mem_nil, or_false] at hc
   rcases hc with rfl | rfl
   ·exact hself _ hLp
   ·show ((cs[i].2 : Nat) : Int) ∣ _
    rw [e]; exact ⟨_, (Int.one_mul _).symm⟩
  ·refine (ch_no hpL fun x hx => e ?_).2
   have g1 : ((lcmL cs : Nat) : Int) ∣ x - a % (lcmL cs : Int) := hx (a % (lcmL cs : Int), lcmL cs) (by simp)
   have g2 : ((cs[i].2 : Nat) : Int) ∣ x - (cs[i].1 + 1) := hx (cs[i].1 + 1, cs[i].2) (by simp)
   have g3 := Int.dvd_trans hd g1
   have g4 := Int.dvd_trans hd (hself _ hLp)
   have g5 := crt_bad g3 g4 hh g2
   have := Int.le_of_dvd (by decide) g5
   omega
end Go.Proofs.YtaimebjkidegiaaGreatDoor
namespace Go.Proofs.YtaimebjkidegiaaGreatDoor
open Go.ChangeShapes Go.WideShapes Go.ChangeAt Go.RowKit
theorem own : ownKnob Tryz.prog.godebug = none := by kernel_rfl
theorem laidOut : laidOutB Tryz.prog = true := by kernel_rfl
theorem cells62 : Tryz.prog.cellsOf 22 = 1 := by kernel_rfl
theorem cells24 : Tryz.prog.cellsOf 28 = 1 := by kernel_rfl
/-- The variables that every row of this layer lists. -/
def laidAll : List (String × DataW Unit) := [("math/bits.deBruijn32tab", Rows.laid_math_bits_deBruijn32tab), ("math/bits.deBruijn64tab", Rows.laid_math_bits_deBruijn64tab), ("internal/strconv.uint64pow10", Rows.laid_internal_strconv_uint64pow10)]
theorem gPow : Tryz.prog.globalNamed "internal/strconv.uint64pow10" = some 3 := by kernel_rfl
theorem gPowType : (Tryz.prog.globals[3]?).map (·.type) = some 344 := by kernel_rfl
theorem cells20 : Tryz.prog.cellsOf 344 = 20 := by kernel_rfl
theorem tab_of {W : World} (h : laidMetH Tryz.prog laidAll W) : Tab W := by
 have h1 := laidMetH.filter (fun x => x.1 == "internal/strconv.uint64pow10") h
 have e : laidAll.filter (fun x => x.1 == "internal/strconv.uint64pow10") = [("internal/strconv.uint64pow10", Rows.laid_internal_strconv_uint64pow10)] := by kernel_rfl
 rw [e, MakeChecks.laidMetH_plain _ _ _ (by kernel_rfl)] at h1
 exact Lib.tabIs_of_head (rest := []) gPow gPowType Tryz.underlying344 Tryz.underlying28 cells24 cells20 (show laidMet Tryz.prog (("internal/strconv.uint64pow10", Lib.tabData .u64 Lib.pow10Tab) :: []) W from h1)
theorem wide_u32 {n : Int} (h : (Lit.int .u32 n).wf = true) : 0 ≤ n ∧ n ≤ 4294967295 := bounds_u32 h
theorem ws_of {H : Type} {enc : TypeId × Value → H} {W : World} {v : Value} {d : DataW H} {p : List MemPlace} (h : DataW.Trod enc Tryz.prog W 0 (fun _ => true) true 46 v d p) (hv : ∃ a n c, v = .slice a n c) : ∃ l, Ws W v l := by
 obtain ⟨a0, len, cap, rfl⟩ := hv
 obtain ⟨fuel, hf⟩ := h
 rcases open_ints Tryz.underlying46 Tryz.underlying22 cells62 hf with ⟨hcs, hx⟩ | ⟨a, len', cap', zs, hcs, _, hl, hm, hz, hx, hcell, hwz⟩
 ·simp [Value.cells] at hcs
  obtain ⟨rfl, rfl, rfl⟩ := hcs
  exact ⟨[], .inl ⟨_, _, rfl, rfl⟩⟩
 ·simp [Value.cells] at hcs
  obtain ⟨rfl, rfl, rfl⟩ := hcs
  simp only [if_true] at hz
  by_cases h0 : len = 0
  ·subst h0
   exact ⟨[], .inl ⟨_, _, rfl, rfl⟩⟩
  ·have hll : ((zs.take len).map Int.toNat).length = len := by simp; omega
   refine ⟨(zs.take len).map Int.toNat, .inr ⟨a, cap, by rw [hll], ?_, ?_, ?_⟩⟩
   ·intro x hx
    obtain ⟨z, hz1, rfl⟩ := List.mem_map.1 hx
    have := wide_u32 (hwz z (List.mem_of_mem_take hz1))
    omega
   ·intro i hi
    rw [hll] at hi
    have hi2 : i < zs.length := by omega
    have e := hcell i hi2
    rw [show zs.getD i 0 = zs[i] by simp [List.getD, hi2]] at e
    have hw := wide_u32 (hwz zs[i] (List.getElem_mem hi2))
    rw [e]
    simp only [List.getElem_map, List.getElem_take]
    rw [Int.toNat_of_nonneg hw.1]
   ·have e := hcell 0 (by omega)
    have := World.block_lt_of_cell? W _ e
    rw [show (a.add 0).block = a.block from by unfold Addr.add; split <;> rfl] at this
    exact this
end Go.Proofs.YtaimebjkidegiaaGreatDoor
namespace Go.Proofs.YtaimebjkidegiaaGreatDoor
open Go.ChangeShapes Go.WideShapes Go.ChangeAt Go.RowKit Go.Joins
theorem cellsZ : Tryz.prog.cellsOf 48 = 2 := by kernel_rfl
theorem ws_of_trod {H : Type} {enc : TypeId × Value → H} {W : World} {v : Value} {y : DataW H × List MemPlace} {fuel : Nat} (hf : DataW.trod enc Tryz.prog W 0 (fun _ => true) true fuel 46 [v] = some y) : ∃ a n c l, v = .slice a n c ∧ Ws W v l := by
 rcases open_ints Tryz.underlying46 Tryz.underlying22 cells62 hf with ⟨hcs, hx⟩ | ⟨a, len', cap', zs, hcs, _, hl, hm, hz, hx, hcell, hwz⟩
 ·simp only [List.cons.injEq, and_true] at hcs
  subst hcs
  exact ⟨none, 0, 0, [], rfl, .inl ⟨_, _, rfl, rfl⟩⟩
 ·simp only [List.cons.injEq, and_true] at hcs
  subst hcs
  simp only [if_true] at hz
  refine ⟨some a, len', cap', ?_⟩
  by_cases h0 : len' = 0
  ·subst h0
   exact ⟨[], rfl, .inl ⟨_, _, rfl, rfl⟩⟩
  ·have hll : ((zs.take len').map Int.toNat).length = len' := by simp; omega
   refine ⟨(zs.take len').map Int.toNat, rfl, .inr ⟨a, cap', by rw [hll], ?_, ?_, ?_⟩⟩
   ·intro x hx
    obtain ⟨z, hz1, rfl⟩ := List.mem_map.1 hx
    have := wide_u32 (hwz z (List.mem_of_mem_take hz1))
    omega
   ·intro i hi
    rw [hll] at hi
    have hi2 : i < zs.length := by omega
    have e := hcell i hi2
    rw [show zs.getD i 0 = zs[i] by simp [List.getD, hi2]] at e
    have hw := wide_u32 (hwz zs[i] (List.getElem_mem hi2))
    rw [e]
    simp only [List.getElem_map, List.getElem_take]
    rw [Int.toNat_of_nonneg hw.1]
   ·have e := hcell 0 (by omega)
    have := World.block_lt_of_cell? W _ e
    rw [show (a.add 0).block = a.block from by unfold Addr.add; split <;> rfl] at this
    exact this
set_option maxRecDepth 100000 in
theorem z_of {H : Type} {enc : TypeId × Value → H} {W : World} {base : Nat} {v : Value} {d : DataW H} {p : List MemPlace} (hv : Value.okWide Tryz.prog W .any base 48 v)
  (h : DataW.Trod enc Tryz.prog W 0 (fun _ => true) true 48 v d p) : ∃ s a n c l, v = .agg #[.bool s, .slice a n c] ∧ Ws W (.slice a n c) l := by
 obtain ⟨v0, v1, y0, y1, m, rfl, rfl, rfl, h0, h1⟩ := open_agg2 Tryz.underlying48 (by kernel_rfl) cellsZ hv h
 obtain ⟨s, e0, -⟩ := DataW.trod_bool Tryz.underlying4 h0
 obtain ⟨a, n, c, l, rfl, hw⟩ := ws_of_trod h1
 simp only [List.cons.injEq, and_true] at e0
 subst e0
 exact ⟨s, a, n, c, l, rfl, hw⟩
end Go.Proofs.YtaimebjkidegiaaGreatDoor
