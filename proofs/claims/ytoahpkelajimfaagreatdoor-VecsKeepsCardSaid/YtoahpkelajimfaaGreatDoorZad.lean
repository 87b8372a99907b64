/-
  The law answers true at every input, and leaves its arguments as they were: a part of the proof. CONDITIONS: the package-level tables start as the program's text lays them (the card ties them).
-/
import Derived.Test.YtoahpkelajimfaaGreatDoorZac
set_option linter.unusedVariables false
set_option linter.unusedSimpArgs false
namespace Go.Proofs.YtoahpkelajimfaaGreatDoor
open Go.RowKit
attribute [local irreducible] lo hs sm s64 c64 d64 b64 mh ml pd pc qd qc val hiB str cmpI srD lz nb zl zh zs fe rowV tabV gv bsV mxV
/-- The plain fractions that a slice holds. -/
structure QSl (w : World) (a : Addr) (ql : List (Int × Int)) : Prop where
 c0 : ∀ (i : Nat) (h : i < ql.length), w.cell? (a.add (i * 2)) = some (.int .i64 ql[i].1)
 c1 : ∀ (i : Nat) (h : i < ql.length), w.cell? ((a.add (i * 2)).add 1) = some (.int .u32 ql[i].2)
 rg : ∀ p ∈ ql, (-9223372036854775808 ≤ p.1 ∧ p.1 < 9223372036854775808) ∧ 0 ≤ p.2 ∧ p.2 < 4294967296
 blk : a.block < w.heap.size
theorem add_blk (a : Addr) (i : Nat) : (a.add i).block = a.block := by unfold Addr.add; split <;> rfl
theorem add_one (a : Addr) : a.add 1 = ⟨a.block, a.off + 1, none⟩ := by unfold Addr.add; simp
theorem QSl.below {w w' : World} {a : Addr} {ql : List (Int × Int)} (h : QSl w a ql) (hb : Below w.heap.size w w') : QSl w' a ql :=
 ⟨fun i hi => (hb.cell (p := a.add (i * 2)) (by rw [add_blk]; exact h.blk)).trans (h.c0 i hi), fun i hi => (hb.cell (p := (a.add (i * 2)).add 1) (by rw [add_blk, add_blk]; exact h.blk)).trans (h.c1 i hi), h.rg, Nat.lt_of_lt_of_le h.blk hb.size⟩
/-- A slice of plain fractions. -/
def QV (w : World) (v : Value) (ql : List (Int × Int)) : Prop := ∃ ao c, v = .slice ao ql.length c ∧ ql.length ≤ c ∧ (ao = none → c = 0) ∧ (0 < ql.length → ∃ a, ao = some a ∧ QSl w a ql)
theorem QV.below {w w' : World} {v : Value} {ql : List (Int × Int)} (h : QV w v ql) (hb : Below w.heap.size w w') : QV w' v ql := by
 obtain ⟨ao, c, h1, h2, h3, h4⟩ := h
 refine ⟨ao, c, h1, h2, h3, fun h => ?_⟩
 obtain ⟨a, e, h5⟩ := h4 h
 exact ⟨a, e, h5.below hb⟩
theorem QV.keeps (v : Value) (ql : List (Int × Int)) : Keeps fun w => QV w v ql := fun _ _ hb h => h.below hb
theorem QSl.take {w : World} {a : Addr} {ql : List (Int × Int)} (h : QSl w a ql) (k : Nat) : QSl w a (ql.take k) := by
 refine ⟨fun i hi => ?_, fun i hi => ?_, fun p hp => h.rg p (List.mem_of_mem_take hp), h.blk⟩
 ·rw [List.getElem_take]; exact h.c0 i (by rw [List.length_take] at hi; omega)
 ·rw [List.getElem_take]; exact h.c1 i (by rw [List.length_take] at hi; omega)
theorem QV.take {w : World} {ao : Option Addr} {n c : Nat} {ql : List (Int × Int)} (h : QV w (.slice ao n c) ql) (k : Nat) (hk : k ≤ n) : QV w (.slice ao k c) (ql.take k) := by
 obtain ⟨a2, c2, h1, h2, h3, h4⟩ := h
 obtain ⟨rfl, rfl, rfl⟩ : ao = a2 ∧ n = ql.length ∧ c = c2 := by simpa using h1
 have e : (ql.take k).length = k := by rw [List.length_take]; omega
 refine ⟨ao, c, by rw [e], by omega, h3, fun h => ?_⟩
 obtain ⟨a, h5, h6⟩ := h4 (by omega)
 exact ⟨a, h5, h6.take k⟩
theorem QV.form {w : World} {v : Value} {ql : List (Int × Int)} (h : QV w v ql) : ∃ ao c, v = .slice ao ql.length c := by
 obtain ⟨ao, c, h1, _⟩ := h
 exact ⟨ao, c, h1⟩
theorem slice_qn (ao : Option Addr) (n c k : Nat) (hk : k ≤ n) (hc : n ≤ c) (h0 : ao = none → c = 0) (W : World) : (Instr.slice 25 (.slice ao n c) none (some (.int .i64 (k : Int))) none).run Tryz.prog W = .ok (.slice ao k c) W := by
 cases ao with
 | none =>
  obtain rfl := h0 rfl
  obtain rfl : n = 0 := by omega
  obtain rfl : k = 0 := by omega
  simp [Instr.slice, Instr.sliceBounds, run_underlying Tryz.underlying25, run_sliceBound, go_sem] <;> rfl
 | some a =>
  have h1 : (0 : Int) ≤ (k : Int) := by omega
  have h2 : (k : Int) ≤ (c : Int) := by omega
  simp [Instr.slice, Instr.sliceBounds, run_underlying Tryz.underlying25, run_sliceBound, h1, h2, go_sem] <;> rfl
def qm (p : Int × Int) : Rat := qmade p.1 p.2.toNat
/-- A row of fractions of one's own. -/
abbrev OwnF (w : World) (B : Nat) (v : Value) (n : Nat) (l : List Rat) : Prop := w.ownsRow B 38 5 v n (frCs l)
theorem wp_appendF {w : World} {ops : Array Oper} {rest : List Oper} {o : Oper} {a : Act} {Q : Exit → Act → World → Prop} (hgd : o.guard = none) (s x : Operand)
  (ho : o.op = .call { callee := .builtin .append, args := #[s, x], argTypes := #[30, 30] }) (B : Nat) (v : Value) (n : Nat) (L : List Rat) (hs : a.eval s = v) (hown : OwnF w B v n L) (g : Nat) (t : Rat) (hx : a.eval x = .slice (some ⟨g, 0, none⟩) 1 1) (hH : Hd w g (frC t))
  (hn : n ≤ 100000) (hbase : B ≤ w.heap.size)
  (h : ∀ v' w', OwnF w' B v' (n + 1) (L ++ [t]) → w.grownBy w' v.ownBlock → (v'.ownBlock = v.ownBlock ∨ v'.ownBlock = some w.heap.size) → wpList Tryz.prog ops Q rest (a.put o.dst v') w') : wpList Tryz.prog ops Q (o :: rest) a w := by
 obtain ⟨i0, hi, hz1, hz2, hz3⟩ := info_parts infoFr
 refine wpList_append_own_at w hgd s x 30 ho B 38 i0 _ 5 56 Tryz.underlying30 hi hz1 hz2 hz3 rfl (by decide) v n (frCs L) hs hown ⟨g, 0, none⟩ 1 1 (frC t) hx rfl (hd_newsH hH) (frC_one t) (by unfold maxLen; omega) (by omega) hbase ?_
 intro v' w' h1 h2 _ h4
 refine h v' w' ?_ h2 h4
 unfold OwnF
 rw [frCs_snoc]; exact h1
set_option maxHeartbeats 4000000 in
set_option maxRecDepth 100000 in
theorem vV_w (ql : List (Int × Int)) (n : Nat) (hl : ql.length = n) (hn : n ≤ 10000) (v : Value) (w : World) (hv : QV w v ql) :
  Calls Tryz.prog 14 #[v] w fun xe w' => ∃ u, xe = .returned u ∧ SlQ w' u (ql.map qm) ∧ Below w.heap.size w w' := by
 obtain ⟨ao, c, rfl, hc, hc0, hq⟩ := hv
 rw [hl] at hc hq ⊢
 obtain ⟨qs, hqs⟩ : ∃ qs, qs = ql.map qm := ⟨_, rfl⟩
 have hlq : qs.length = n := by rw [hqs, List.length_map, hl]
 have hti : ∀ i (hi : i < ql.length), qs.take (i + 1) = qs.take i ++ [qm ql[i]] := fun i hi => by
  rw [hqs, List.take_succ_eq_append_getElem (by rw [List.length_map]; exact hi), List.getElem_map]
 rw [← hqs]
 replace hti := Lib.hid hti
 replace hlq := Lib.hid hlq
 replace hq := Lib.hid hq
 replace hn := Lib.hid hn
 replace hl := Lib.hid hl
 clear hqs hc hc0
 go_enter Tryz.func14, Tryz.ntmps14
 go_wp2_with fail
 go_loopg [3, 4] n (fun gk sv iv wr => ∃ (k : Nat) (zi : Int) (vs : Value), k + gk = n ∧ vs = sv ∧ iv = .int .i64 zi ∧ zi = (k : Int) ∧ OwnF wr w.heap.size vs k (qs.take k) ∧ Below w.heap.size w wr)
 case atStart => exact ⟨0, 0, _, Nat.zero_add n, rfl, by first | rfl | go_num, rfl, World.ownsRow_nil _ _ _ _, Below.refl _ _⟩
 case round =>
  obtain ⟨k, zi, vs, hik, rfl, rfl, hzi, hown, hB⟩ := hrel
  replace hown := Lib.hid hown
  have hnn := hn.out
  rcases Nat.lt_or_ge k n with hin | hin
  ·subst hzi
   have k1 : (k : Int) < (n : Int) := by omega
   have k0 : (0 : Int) ≤ (k : Int) := Int.natCast_nonneg _
   have kb : (k : Int) ≤ 10000 := by omega
   obtain ⟨a, rfl, hsl⟩ := hq.out (by omega)
   have hki : k < ql.length := by rw [hl.out]; exact hin
   have e0 := (hsl.below hB).c0 k hki
   have e1 := (hsl.below hB).c1 k hki
   obtain ⟨⟨b1, b2⟩, b3, b4⟩ := hsl.rg ql[k] (List.getElem_mem hki)
   have HQ := qof_any ql[k].1 ql[k].2 b1 b2 b3 b4
   have hti1 := hti.out k hki
   obtain ⟨q, hqq⟩ : ∃ q, q = qm ql[k] := ⟨_, rfl⟩
   rw [show qmade ql[k].1 ql[k].2.toNat = qm ql[k] from rfl, ← hqq] at HQ
   rw [← hqq] at hti1
   generalize ql[k].1 = zn at *
   generalize ql[k].2 = zd at *
   replace HQ := Lib.hid HQ
   replace hti1 := Lib.hid hti1
   rw [add_one] at e1
   clear hqq hsl b1 b2 b3 b4
   go_wp2_with fail
   with_reducible refine Calls.mono (HQ.out _) ?_
   rintro e y3 ⟨rfl, hb3⟩
   have hown3 := Lib.hid (own_below hown.out hb3)
   have hB3 := Lib.hid (hB.trans (hb3.mono hB.size))
   clear hb3 e0 e1 hB hown
   have hL1 : GL y3 y3 [] := GL.start y3
   replace hL1 := hL1.new rfl [.int .u64 ((zl q.num : Nat) : Int), .string (zh q.num), .bool (zs q.num), .int .u64 ((lo (fe q) : Nat) : Int), .string (hs (fe q))] 38
   generalize hweq : y3.alloc (.cells #[.int .u64 ((zl q.num : Nat) : Int), .string (zh q.num), .bool (zs q.num), .int .u64 ((lo (fe q) : Nat) : Int), .string (hs (fe q))] 38) = y4 at hL1
   have hown4 := Lib.hid (own_below hown3.out hL1.bl)
   have hB4 := Lib.hid (hB3.out.trans (hL1.bl.mono hB3.out.size))
   have hH := Lib.hid (hL1.get _ _ List.mem_cons_self)
   go_wp2_with (at_builtin; refine wp_appendF rfl _ _ rfl _ _ _ _ rfl hown4.out _ q rfl hH.out (by omega) hB4.out.size ?_)
   intro v' w5 hown5 hgrow _
   have hB5 := hB4.out.grown hgrow hB4.out.size (fun j hj => (hown4.out.lt j hj).1)
   rw [← hti1.out] at hown5
   replace hown5 := Lib.hid hown5
   clear hgrow hown4 hB4 hown3 hB3 hH hweq
   go_wp2_with fail
   go_roundg (gk - 1)
   case measure => omega
   case rel => exact ⟨k + 1, _, _, by omega, rfl, by first | rfl | go_num, by omega, hown5.out, hB5⟩
  ·obtain rfl : k = n := by omega
   subst hzi
   have k1 : ¬ (k : Int) < (k : Int) := by omega
   rw [List.take_of_length_le (Nat.le_of_eq hlq.out)] at hown
   have hsl := Lib.hid (own_slq hown.out hlq.out.symm)
   go_wp2_with fail
   exact bodyPost_ret (v := vs) (by simp [results, Tryz.results14, go_sem]) rfl ⟨_, rfl, hsl.out, hB⟩
set_option maxHeartbeats 4000000 in
set_option maxRecDepth 100000 in
theorem ladd_w (aa ab : Option Addr) (na nb ca cb : Nat) (r : List Rat) (w : World) (HA : Calls Tryz.prog 18 #[.slice aa na ca, .slice ab nb cb] w fun xe w' => ∃ u, xe = .returned (.tuple #[u, .int .i64 0]) ∧ SlQ w' u r ∧ Below w.heap.size w w') :
  Calls Tryz.prog 41 #[.slice aa na ca, .slice ab nb cb] w fun xe w' => ∃ u, xe = .returned u ∧ SlQ w' u r ∧ Below w.heap.size w w' := by
 replace HA := Lib.hid HA
 go_enter Tryz.func41, Tryz.ntmps41
 go_wp2_with fail
 with_reducible refine Calls.mono HA.out ?_
 rintro e y1 ⟨u, rfl, hnv, hb⟩
 obtain ⟨au, cu, rfl⟩ := slq_form' hnv
 replace hnv := Lib.hid hnv
 replace hb := Lib.hid hb
 go_wp2_with fail
 exact bodyPost_ret (v := .slice au _ cu) (by simp [results, Tryz.results41, go_sem]) rfl ⟨_, rfl, hnv.out, hb.out⟩
set_option maxHeartbeats 4000000 in
set_option maxRecDepth 100000 in
theorem ltimes_w (c : Rat) (ab : Option Addr) (nb cb : Nat) (r y0 : List Rat) (w : World) (hq : SlQ w (.slice ab nb cb) y0) (HA : ∀ w, SlQ w (.slice ab nb cb) y0 → Calls Tryz.prog 20 #[fracV c, .slice ab nb cb] w fun xe w' => ∃ u, xe = .returned (.tuple #[u, .int .i64 0]) ∧ SlQ w' u r ∧ Below w.heap.size w w') :
  Calls Tryz.prog 42 #[fracV c, .slice ab nb cb] w fun xe w' => ∃ u, xe = .returned u ∧ SlQ w' u r ∧ Below w.heap.size w w' := by
 replace HA := Lib.hid HA
 have hL0 : GL w w [] := GL.start w
 replace hL0 := (hL0.new rfl [.int .u64 ((zl c.num : Nat) : Int), .string (zh c.num), .bool (zs c.num), .int .u64 ((lo (fe c) : Nat) : Int), .string (hs (fe c))] 38)
 generalize hweq : (w.alloc (.cells #[.int .u64 ((zl c.num : Nat) : Int), .string (zh c.num), .bool (zs c.num), .int .u64 ((lo (fe c) : Nat) : Int), .string (hs (fe c))] 38)) = x1 at hL0
 have hq1 := Lib.hid (hq.below hL0.bl)
 have hN0 := cells_of _ 0 [] rfl (hL0.get _ _ List.mem_cons_self)
 simp only [cellsF, and_true, Nat.zero_add, Nat.reduceAdd] at hN0
 clear hq
 go_enter Tryz.func42, Tryz.ntmps42
 go_wp2_with fail
 with_reducible refine Calls.mono (HA.out _ hq1.out) ?_
 rintro e y1 ⟨u, rfl, hnv, hb⟩
 obtain ⟨au, cu, rfl⟩ := slq_form' hnv
 replace hnv := Lib.hid hnv
 replace hb := Lib.hid (hL0.bl.trans (hb.mono hL0.bl.size))
 clear hN0 hweq hL0
 go_wp2_with fail
 exact bodyPost_ret (v := .slice au _ cu) (by simp [results, Tryz.results42, go_sem]) rfl ⟨_, rfl, hnv.out, hb.out⟩
set_option maxHeartbeats 4000000 in
set_option maxRecDepth 100000 in
theorem ldot_w (aa ab : Option Addr) (na nb ca cb : Nat) (r : Rat) (KD : World → Prop) (hKD : Keeps KD) (w : World) (hk : KD w) (HA : ∀ w, KD w → Calls Tryz.prog 26 #[.slice aa na ca, .slice ab nb cb] w fun xe w' => xe = .returned (.tuple #[fracV r, .int .i64 0]) ∧ Below w.heap.size w w') :
  Calls Tryz.prog 43 #[.slice aa na ca, .slice ab nb cb] w fun xe w' => xe = .returned (fracV r) ∧ Below w.heap.size w w' := by
 replace HA := Lib.hid HA
 have hL0 : GL w w [] := GL.start w
 replace hL0 := (hL0.new rfl [.int .u64 0, .string ⟨#[]⟩, .bool false, .int .u64 0, .string ⟨#[]⟩] 38)
 generalize hweq : (w.alloc (.cells #[.int .u64 0, .string ⟨#[]⟩, .bool false, .int .u64 0, .string ⟨#[]⟩] 38)) = x1 at hL0
 have hk1 := Lib.hid (hKD _ _ hL0.bl hk)
 clear hk hKD
 go_enter Tryz.func43, Tryz.ntmps43
 go_wp2_with fail
 with_reducible refine Calls.mono (HA.out _ hk1.out) ?_
 rintro e y1 ⟨rfl, hb⟩
 replace hL0 := hL0.call hb
 clear hb hweq hk1
 replace hL0 := (hL0.new rfl [.int .u64 ((zl r.num : Nat) : Int), .string (zh r.num), .bool (zs r.num), .int .u64 ((lo (fe r) : Nat) : Int), .string (hs (fe r))] 38)
 generalize hweq : (y1.alloc (.cells #[.int .u64 ((zl r.num : Nat) : Int), .string (zh r.num), .bool (zs r.num), .int .u64 ((lo (fe r) : Nat) : Int), .string (hs (fe r))] 38)) = y2 at hL0
 have hN0 := cells_of _ 0 [] rfl (hL0.get _ _ List.mem_cons_self)
 simp only [cellsF, and_true, Nat.zero_add, Nat.reduceAdd] at hN0
 have hA := hL0.fc
 simp only [fcG, cellsF, neK, and_true, ne_eq, Nat.zero_add, Nat.reduceAdd] at hA
 have hPt := hL0.put 1 (w.heap.size) _ rfl [.int .u64 ((zl r.num : Nat) : Int), .string (zh r.num), .bool (zs r.num), .int .u64 ((lo (fe r) : Nat) : Int), .string (hs (fe r))] rfl
 simp only [setAll, List.set_cons_zero, List.set_cons_succ] at hPt
 generalize hput1 : (((((y2.setCell ⟨w.heap.size, 0, none⟩ (.int .u64 ((zl r.num : Nat) : Int))).setCell ⟨w.heap.size, 1, none⟩ (.string (zh r.num))).setCell ⟨w.heap.size, 2, none⟩ (.bool (zs r.num))).setCell ⟨w.heap.size, 3, none⟩ (.int .u64 ((lo (fe r) : Nat) : Int))).setCell ⟨w.heap.size, 4, none⟩ (.string (hs (fe r)))) = y3 at hPt
 have hB1 := hPt.fc
 simp only [fcG, cellsF, neK, and_true, ne_eq, Nat.zero_add, Nat.reduceAdd] at hB1
 clear hN0
 go_wp2_with fail
 exact bodyPost_ret (v := fracV r) (by simp [results, Tryz.results43, go_sem, hB1]) rfl ⟨rfl, hPt.bl⟩
end Go.Proofs.YtoahpkelajimfaaGreatDoor
namespace Go.Proofs.YtoahpkelajimfaaGreatDoor
open Go.RowKit
attribute [local irreducible] lo hs sm s64 c64 d64 b64 mh ml pd pc qd qc val hiB str cmpI srD lz nb zl zh zs fe rowV tabV gv bsV mxV
abbrev PT (w : World) (v : Value) (l : List Rat) : Prop := SlQ w v l
theorem PT.below {w w' : World} {v : Value} {l : List Rat} (h : PT w v l) (hb : Below w.heap.size w w') : PT w' v l := SlQ.below h hb
abbrev PP (l : List Rat) : Value → World → Prop := fun v w => PT w v l
def PTs (W : World) (S : List (Value × List Rat)) : Prop := ∀ p ∈ S, PT W p.1 p.2
theorem PTs.nil (w : World) : PTs w [] := fun p hp => by cases hp
theorem PTs.call {W W' : World} {S : List (Value × List Rat)} (h : PTs W S) (hb : Below W.heap.size W W') : PTs W' S := fun p hp => (h p hp).below hb
theorem PTs.new {W : World} {S : List (Value × List Rat)} (h : PTs W S) (o : Obj) : PTs (W.alloc o) S := h.call ((Below.refl _ _).alloc (Nat.le_refl _) o)
theorem PTs.drew {W : World} {S : List (Value × List Rat)} (h : PTs W S) : PTs W.drew S := h.call (Below.refl _ _).drew
theorem PTs.cons {W : World} {S : List (Value × List Rat)} {v : Value} {l : List Rat} (h : PTs W S) (q : PT W v l) : PTs W ((v, l) :: S) := fun p hp => by
 rcases List.mem_cons.1 hp with rfl | hp
 ·exact q
 ·exact h p hp
theorem PTs.get {W : World} {S : List (Value × List Rat)} {v : Value} {l : List Rat} (h : PTs W S) (hm : (v, l) ∈ S) : PT W v l := h _ hm
end Go.Proofs.YtoahpkelajimfaaGreatDoor
namespace Go.Proofs.YtoahpkelajimfaaGreatDoor
open Go.RowKit
attribute [local irreducible] lo hs sm s64 c64 d64 b64 mh ml pd pc qd qc val hiB str cmpI srD lz nb zl zh zs fe
theorem nv_two {f : FuncId} {args : Array Value} {w : World} {B : Nat} {l : List Rat} (h : Calls Tryz.prog f args w fun xe w' => ∃ u, xe = .returned (.tuple #[u, .int .i64 0]) ∧ NV B l u w' ∧ Below w.heap.size w w') :
  Calls Tryz.prog f args w fun xe w' => ∃ u, xe = .returned (.tuple #[u, .int .i64 0]) ∧ SlQ w' u l ∧ Below w.heap.size w w' := h.mono fun _ _ ⟨u, h1, h2, h3⟩ => ⟨u, h1, h2.slq, h3⟩
end Go.Proofs.YtoahpkelajimfaaGreatDoor
namespace Go.Proofs.YtoahpkelajimfaaGreatDoor
open Go.RowKit
attribute [local irreducible] lo hs sm s64 c64 d64 b64 mh ml pd pc qd qc val hiB str cmpI srD lz nb zl zh zs fe qmade
structure GV (x : List Rat) (n K : Nat) : Prop where
 len : x.length = n
 sz : ∀ q ∈ x, Sz q K
theorem GV.at {x : List Rat} {n K : Nat} (h : GV x n K) (i : Nat) (hi : i < n) : Sz (gv x i) K := qsk x h.sz i (by rw [h.len]; exact hi)
theorem GV.mono {x : List Rat} {n K M : Nat} (h : GV x n K) (hm : K ≤ M) : GV x n M := ⟨h.len, fun q hq => (h.sz q hq).mono hm⟩
theorem GV.tab {n K : Nat} {f : Nat → Rat} (h : ∀ i, i < n → Sz (f i) K) : GV (tabV n f) n K := ⟨tabV_len _ _, tab_all h⟩
def sumL (n : Nat) (x y : List Rat) : List Rat := tabV n fun i => gv x i + gv y i
def difL (n : Nat) (x y : List Rat) : List Rat := tabV n fun i => gv x i - gv y i
def mulL (n : Nat) (c : Rat) (x : List Rat) : List Rat := tabV n fun i => c * gv x i
def nulL (n : Nat) : List Rat := tabV n fun _ => 0
def dotL (n : Nat) (x y : List Rat) : Rat := bsV n fun i => gv x i * gv y i
theorem gv_sum {n i : Nat} {x y : List Rat} (h : i < n) : gv (sumL n x y) i = gv x i + gv y i := gv_tab h
theorem gv_mul {n i : Nat} {c : Rat} {x : List Rat} (h : i < n) : gv (mulL n c x) i = c * gv x i := gv_tab h
theorem gv_nul {n i : Nat} (h : i < n) : gv (nulL n) i = 0 := gv_tab h
theorem gv_ext {n : Nat} {x : List Rat} {f : Nat → Rat} (hx : x.length = n) (h : ∀ i, i < n → gv x i = f i) : x = tabV n f := by
 rw [← tab_gv' hx]; exact tab_ext h
theorem GV.sum {x y : List Rat} {n k m : Nat} (hx : GV x n k) (hy : GV y n m) : GV (sumL n x y) n (k + m + 1) := GV.tab fun i hi => (hx.at i hi).add (hy.at i hi)
theorem GV.dif {x y : List Rat} {n k m : Nat} (hx : GV x n k) (hy : GV y n m) : GV (difL n x y) n (k + m + 1) := GV.tab fun i hi => (hx.at i hi).sub (hy.at i hi)
theorem GV.mul {x : List Rat} {c : Rat} {n k m : Nat} (hc : Sz c k) (hx : GV x n m) : GV (mulL n c x) n (k + m) := GV.tab fun i hi => hc.mul (hx.at i hi)
theorem GV.nul (n : Nat) : GV (nulL n) n 1 := GV.tab fun i hi => szc 0 (by decide) (by decide)
theorem GV.dot {x y : List Rat} {n k m : Nat} (hx : GV x n k) (hy : GV y n m) : Sz (dotL n x y) (n * (k + m + 1) + 1) := bs_sz fun i hi => (hx.at i hi).mul (hy.at i hi)
section
variable {x y : List Rat} {n k m : Nat}
theorem addG (hx : GV x n k) (hy : GV y n m) (hn : n ≤ 2048) (hk : k ≤ 1000) (hm : m ≤ 1000) (p q : Value) (w : World) (hp : SlQ w p x) (hq : SlQ w q y) :
  Calls Tryz.prog 18 #[p, q] w fun xe w' => ∃ u, xe = .returned (.tuple #[u, .int .i64 0]) ∧ SlQ w' u (sumL n x y) ∧ Below w.heap.size w w' :=
 nv_two (vaddV x y n (max k m) hx.len hy.len hn (by omega) (hx.mono (by omega)).sz (hy.mono (by omega)).sz p q w hp hq)
theorem subG (hx : GV x n k) (hy : GV y n m) (hn : n ≤ 2048) (hk : k ≤ 1000) (hm : m ≤ 1000) (p q : Value) (w : World) (hp : SlQ w p x) (hq : SlQ w q y) :
  Calls Tryz.prog 19 #[p, q] w fun xe w' => ∃ u, xe = .returned (.tuple #[u, .int .i64 0]) ∧ SlQ w' u (difL n x y) ∧ Below w.heap.size w w' :=
 nv_two (vsubV x y n (max k m) hx.len hy.len hn (by omega) (hx.mono (by omega)).sz (hy.mono (by omega)).sz p q w hp hq)
theorem scaleG {c : Rat} (hc : Sz c k) (hx : GV x n m) (hn : n ≤ 2048) (hk : k ≤ 1000) (hm : m ≤ 1000) (p : Value) (w : World) (hp : SlQ w p x) :
  Calls Tryz.prog 20 #[fracV c, p] w fun xe w' => ∃ u, xe = .returned (.tuple #[u, .int .i64 0]) ∧ SlQ w' u (mulL n c x) ∧ Below w.heap.size w w' :=
 nv_two (vscaleV c x n (max k m) hx.len hn (by omega) (hc.mono (by omega)) (hx.mono (by omega)).sz p w hp)
theorem zeroG (hn : n ≤ 2048) (w : World) : Calls Tryz.prog 40 #[.int .i64 (n : Int)] w fun xe w' => ∃ u, xe = .returned (.tuple #[u, .int .i64 0]) ∧ SlQ w' u (nulL n) ∧ Below w.heap.size w w' := nv_two (vzero_ok n hn w)
theorem sameG (hx : GV x n k) (hn : n ≤ 2048) (p q : Value) (w : World) (hp : SlQ w p x) (hq : SlQ w q y) :
  Calls Tryz.prog 32 #[p, q] w fun xe w' => xe = .returned (.bool (decide (x = y))) ∧ Below w.heap.size w w' := vsameV x y (by rw [hx.len]; omega) p q w hp hq
theorem sameT (hx : GV x n k) (hn : n ≤ 2048) (p q : Value) (w : World) (hp : SlQ w p x) (hq : SlQ w q x) :
  Calls Tryz.prog 32 #[p, q] w fun xe w' => xe = .returned (.bool true) ∧ Below w.heap.size w w' := by
 have := sameG (y := x) hx hn p q w hp hq
 rwa [decide_eq_true rfl] at this
theorem laddG (hx : GV x n k) (hy : GV y n m) (hn : n ≤ 2048) (hk : k ≤ 1000) (hm : m ≤ 1000) {r : List Rat} (hr : sumL n x y = r) (p q : Value) (w : World) (hp : SlQ w p x) (hq : SlQ w q y) :
  Calls Tryz.prog 41 #[p, q] w fun xe w' => ∃ u, xe = .returned u ∧ SlQ w' u r ∧ Below w.heap.size w w' := by
 subst hr
 have h := addG hx hy hn hk hm p q w hp hq
 obtain ⟨aa, ca, rfl⟩ := slq_form' hp
 obtain ⟨ab, cb, rfl⟩ := slq_form' hq
 exact ladd_w aa ab _ _ ca cb _ w h
theorem ltimesG {c : Rat} (hc : Sz c k) (hx : GV x n m) (hn : n ≤ 2048) (hk : k ≤ 1000) (hm : m ≤ 1000) {r : List Rat} (hr : mulL n c x = r) (p : Value) (w : World) (hp : SlQ w p x) :
  Calls Tryz.prog 42 #[fracV c, p] w fun xe w' => ∃ u, xe = .returned u ∧ SlQ w' u r ∧ Below w.heap.size w w' := by
 subst hr
 obtain ⟨ab, cb, rfl⟩ := slq_form' hp
 exact ltimes_w c ab _ cb _ x w hp (fun w hp => scaleG hc hx hn hk hm _ w hp)
theorem DotG (hx : GV x n k) (hy : GV y n m) (hn : n ≤ 1000) (hk : k ≤ 5) (hm : m ≤ 5) (p q : Value) (w : World) (hp : SlQ w p x) (hq : SlQ w q y) :
  Calls Tryz.prog 26 #[p, q] w fun xe w' => xe = .returned (.tuple #[fracV (dotL n x y), .int .i64 0]) ∧ Below w.heap.size w w' :=
 vDotV x y n (max k m) hx.len hy.len hn (by omega) (hx.mono (by omega)).sz (hy.mono (by omega)).sz p q w hp hq
theorem ldotG (hx : GV x n k) (hy : GV y n m) (hn : n ≤ 1000) (hk : k ≤ 5) (hm : m ≤ 5) {r : Rat} (hr : dotL n x y = r) (p q : Value) (w : World) (hp : SlQ w p x) (hq : SlQ w q y) :
  Calls Tryz.prog 43 #[p, q] w fun xe w' => xe = .returned (fracV r) ∧ Below w.heap.size w w' := by
 subst hr
 obtain ⟨aa, ca, rfl⟩ := slq_form' hp
 obtain ⟨ab, cb, rfl⟩ := slq_form' hq
 exact ldot_w aa ab _ _ ca cb _ (fun w => SlQ w (.slice aa x.length ca) x ∧ SlQ w (.slice ab y.length cb) y) (Keeps.and (SlQ.keeps _ _) (SlQ.keeps _ _)) w ⟨hp, hq⟩ (fun w h => DotG hx hy hn hk hm _ _ w h.1 h.2)
end
/-- Plain fractions as Go holds them. -/
def QR (p : Int × Int) : Prop := (-9223372036854775808 ≤ p.1 ∧ p.1 < 9223372036854775808) ∧ 0 ≤ p.2 ∧ p.2 < 4294967296
theorem qm_sz {p : Int × Int} (h : QR p) : Sz (qm p) 1 := by
 obtain ⟨⟨h1, h2⟩, h3, h4⟩ := h
 exact qmade_sz p.1 p.2.toNat h1 h2 (by omega)
theorem qmof {p : Int × Int} (h : QR p) (w : World) : Calls Tryz.prog 15 #[.agg #[.int .i64 p.1, .int .u32 p.2]] w fun xe w' => xe = .returned (fracV (qm p)) ∧ Below w.heap.size w w' := by
 obtain ⟨⟨h1, h2⟩, h3, h4⟩ := h
 exact qof_any p.1 p.2 h1 h2 h3 h4 w
theorem qv_rg {w : World} {v : Value} {ql : List (Int × Int)} (h : QV w v ql) : ∀ p ∈ ql, QR p := by
 intro p hp
 obtain ⟨ao, c, h1, h2, h3, h4⟩ := h
 obtain ⟨a, e, h5⟩ := h4 (List.length_pos_of_mem hp)
 exact h5.rg p hp
theorem gv_of {ql : List (Int × Int)} {n : Nat} (hl : ql.length = n) (h : ∀ p ∈ ql, QR p) : GV (ql.map qm) n 1 := ⟨by rw [List.length_map, hl], fun q hq => by
 obtain ⟨p, hp, rfl⟩ := List.mem_map.1 hq
 exact qm_sz (h p hp)⟩
theorem vVG (ql : List (Int × Int)) (hn : ql.length ≤ 10000) (v : Value) (w : World) (hv : QV w v ql) :
  Calls Tryz.prog 14 #[v] w fun xe w' => ∃ u, xe = .returned u ∧ SlQ w' u (ql.map qm) ∧ Below w.heap.size w w' := vV_w ql ql.length rfl hn v w hv
theorem qv_slice {w : World} {ao : Option Addr} {n c : Nat} {ql : List (Int × Int)} (h : QV w (.slice ao n c) ql) (k : Nat) (hk : k ≤ n) (W : World) : (Instr.slice 25 (.slice ao n c) none (some (.int .i64 (k : Int))) none).run Tryz.prog W = .ok (.slice ao k c) W := by
 obtain ⟨a2, c2, h1, h2, h3, h4⟩ := h
 obtain ⟨rfl, rfl, rfl⟩ : ao = a2 ∧ n = ql.length ∧ c = c2 := by simpa using h1
 exact slice_qn ao _ c k hk h2 h3 W
theorem qv_len {w : World} {ao : Option Addr} {n c : Nat} {ql : List (Int × Int)} (h : QV w (.slice ao n c) ql) : ql.length = n := by
 obtain ⟨a2, c2, h1, h2, h3, h4⟩ := h
 obtain ⟨rfl, rfl, rfl⟩ : ao = a2 ∧ n = ql.length ∧ c = c2 := by simpa using h1
 rfl
theorem take_len {ql : List (Int × Int)} {m n : Nat} (hl : ql.length = m) (hn : n ≤ m) : (ql.take n).length = n := by rw [List.length_take]; omega
theorem take_rg {ql : List (Int × Int)} (h : ∀ p ∈ ql, QR p) (n : Nat) : ∀ p ∈ ql.take n, QR p := fun p hp => h p (List.mem_of_mem_take hp)
end Go.Proofs.YtoahpkelajimfaaGreatDoor
