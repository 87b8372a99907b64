/-
  Layer 1, walks I: Add, Sub, Mul.
-/
import Derived.Test.YthehcjfmokabfaaGreatDoorYd
import Derived.Deep.RegionHeld3
import Derived.Deep.RegionWith
import Derived.Deep.DeepMust
import Derived.Laws.CopyOwn
import Derived.BigRegion
set_option linter.unusedVariables false
set_option linter.unusedSimpArgs false
namespace Go.Proofs.YthehcjfmokabfaaGreatDoor
open Go.RowKit
attribute [local irreducible] lo hs sm s64 c64 d64 b64 mh ml pd pc qd qc val hiB str

/-- The world behind copy: digits X over the first places of D. -/
def cpW (w : World) (g : Nat) (l : List Nat) : World := w.setRow g (l.map u64V).toArray
theorem copy64 (w : World) (g c gs os cs : Nat) (A D C X : List Nat) (hx : X.length ≤ D.length) (hg : DB w g (A ++ D ++ C)) (hr : Rd w gs os X) (ty : TypeId) :
    (Builtin.copy_ #[114, 114] ty #[.slice (some ⟨g, A.length, none⟩) D.length c, .slice (some ⟨gs, os, none⟩) X.length cs]).run Tryz.prog w =
      .ok (goInt X.length) (cpW w g (A ++ (X ++ D.drop X.length) ++ C)) := by
  have h := run_copy_row (P := Tryz.prog) w 114 114 ty 30 g A.length D.length c ⟨gs, os, none⟩ X.length cs _ 30 (X.map u64V) Tryz.underlying114 (by kernel_rfl) hg
    (by simp [Nat.min_def]; omega) (fun j v hj => by
      rw [List.getElem?_map] at hj
      rcases Nat.lt_or_ge j X.length with hl | hl
      · rw [List.getElem?_eq_getElem hl] at hj
        have hadd : (⟨gs, os, none⟩ : Addr).add j = ⟨gs, os + j, none⟩ := by unfold Addr.add; split <;> simp_all
        rw [hadd, hr j hl]; simpa [u64V] using hj
      · rw [List.getElem?_eq_none hl] at hj; cases hj) (by simp; omega) (fun v hv => by
      obtain ⟨d, _, rfl⟩ := List.mem_map.1 hv
      rfl)
  rw [h, List.length_map]
  refine congrArg (fun r => Result.ok (goInt X.length) (w.setRow g r)) ?_
  have e : (List.map u64V (A ++ D ++ C)).toArray.toList = List.map u64V A ++ (List.map u64V D ++ List.map u64V C) := by simp
  rw [e, List.take_left' (by simp), ← List.drop_drop, List.drop_left' (by simp), List.drop_append_of_le_length (by simpa using hx)]
  simp
theorem DB.cp {w : World} {g : Nat} {l : List Nat} (h : DB w g l) (l' : List Nat) : DB (cpW w g l') g l' := setRow_heap w g _ _ _ _ h
theorem cp_grown (w : World) (g : Nat) (l : List Nat) : w.grownBy (cpW w g l) (some g) :=
  ⟨rfl, rfl, rfl, by unfold cpW; simp, fun k _ hne => setRow_other w g k _ (fun h => hne (by rw [h]))⟩
/-- The cells of a small struct of two. -/
def Bx (w : World) (B : Nat) (x y : Value) : Prop := w.cell? ⟨B, 0, none⟩ = some x ∧ w.cell? ⟨B, 1, none⟩ = some y ∧ ∀ j, w.frozen? ⟨B, j, none⟩ = false
theorem Bx.below {w w' : World} {B : Nat} {x y : Value} {k : Nat} (h : Bx w B x y) (hb : Below k w w') (hB : B < k) : Bx w' B x y :=
  ⟨(hb.cell (p := ⟨B, 0, none⟩) hB).trans h.1, (hb.cell (p := ⟨B, 1, none⟩) hB).trans h.2.1, fun j => (hb.frozen (p := ⟨B, j, none⟩) hB).trans (h.2.2 j)⟩
theorem Bx.of (w : World) (B : Nat) (x y : Value) (t : TypeId) (h : w.heap[B]? = some (.cells #[x, y] t (0, 0))) : Bx w B x y :=
  ⟨by rw [cell_of_row w B 0 _ _ _ h]; rfl, by rw [cell_of_row w B 1 _ _ _ h]; rfl, fun j => frozen_of_row w B j _ _ h⟩
theorem al1 (w : World) (A : Obj) : (w.alloc A).heap[w.heap.size]? = some A := heap_alloc_new w A
theorem al2 (w : World) (A B : Obj) : ((w.alloc A).alloc B).heap[w.heap.size + 1]? = some B := by
  have := heap_alloc_new (w.alloc A) B
  simpa using this
theorem al3 (w : World) (A B C : Obj) : (((w.alloc A).alloc B).alloc C).heap[w.heap.size + 2]? = some C := by
  have := heap_alloc_new ((w.alloc A).alloc B) C
  simpa using this
theorem al2_1 (w : World) (A B : Obj) : ((w.alloc A).alloc B).heap[w.heap.size]? = some A := (Below.heap_alloc _ _ _ (by simp)).trans (al1 w A)
theorem al3_1 (w : World) (A B C : Obj) : (((w.alloc A).alloc B).alloc C).heap[w.heap.size]? = some A := (Below.heap_alloc _ _ _ (by simp <;> omega)).trans (al2_1 w A B)
theorem al3_2 (w : World) (A B C : Obj) : (((w.alloc A).alloc B).alloc C).heap[w.heap.size + 1]? = some B := (Below.heap_alloc _ _ _ (by simp)).trans (al2 w A B)
theorem below1 (w : World) (A : Obj) : Below w.heap.size w (w.alloc A) := (Below.refl _ w).alloc (Nat.le_refl _) _
theorem below2 (w : World) (A B : Obj) : Below w.heap.size w ((w.alloc A).alloc B) := (below1 w A).alloc (by simp) _
theorem below3 (w : World) (A B C : Obj) : Below w.heap.size w (((w.alloc A).alloc B).alloc C) := (below2 w A B).alloc (by simp <;> omega) _

theorem c64_lt (a b : Nat) (ha : a < Bs) (hb : b < Bs) : c64 a b 0 < Bs := by have := c64_le (c := 0) ha hb (by omega); have := Bs_gt; omega
set_option maxHeartbeats 1000000 in
theorem add_small (a b : Nat) (ha : a < Bs) (hb : b < Bs) (w : World) :
    Calls Tryz.prog 53 #[natV a, natV b] w fun e w' => e = .returned (natV (a + b)) ∧ Below w.heap.size w w' := by
  have sa := sm_true.2 ha
  have sb := sm_true.2 hb
  have hadd := add64c (lo a) (lo b)
  have hv : s64 (lo a) (lo b) 0 + Bs * c64 (lo a) (lo b) 0 = a + b := by rw [s64_spec, lo_small ha, lo_small hb]; rfl
  have HT := Lib.hid (twoDigits_any (c64 (lo a) (lo b) 0) (s64 (lo a) (lo b) 0) (c64_lt _ _ (lo_lt a) (lo_lt b)) (s64_lt _ _ _))
  rw [hv] at HT
  clear hv
  go_enter Tryz.func53, Tryz.ntmps53
  go_wp2_with fail
  refine (small_any a _).mono ?_
  rintro e w1 ⟨rfl, hb1⟩
  obtain ⟨hc1, hf1⟩ := bcell hb1
  go_wp2_with fail
  refine (small_any b _).mono ?_
  rintro e w2 ⟨rfl, hb2⟩
  have hb12 := hb1.trans (hb2.mono hb1.size)
  obtain ⟨hc2, hf2⟩ := bcell hb12
  clear hc1 hf1
  go_wp2_with fail
  refine (HT.out _).mono ?_
  rintro e w3 ⟨rfl, hb3⟩
  have hb13 := hb12.trans (hb3.mono hb12.size)
  clear hc2 hf2
  have q : Bx w3 (w.heap.size + 2) (.int .u64 0) (.string ⟨#[]⟩) := Bx.below (Bx.of _ _ _ _ _ (al3 w _ _ _)) hb13 (by simp)
  obtain ⟨q0, q1, qf⟩ := q
  go_wp2
  exact bodyPost_ret (v := natV (a + b)) (by simp [results, Tryz.results53, go_sem, q0, q1]) rfl ⟨rfl, (((below3 w _ _ _).trans (hb13.mono (by simp <;> omega))).setCell (by simp <;> omega) _).setCell (by simp <;> omega) _⟩

theorem DB.rdl {w : World} {g : Nat} {l z : List Nat} (h : DB w g (l ++ z)) : Rd w g 0 l := by
  have := h.rd 0 l.length
  rwa [List.drop_zero, List.take_left'] at this
  rfl
theorem drop_zeros (n : Nat) : (List.replicate (n + 1) 0).drop n = [(0 : Nat)] := by rw [List.drop_replicate]; simp
theorem sum_lt (a b : Nat) (h : (digs b).length ≤ (digs a).length) : a + b < Bs ^ ((digs a).length + 1) := by
  have h1 := lt_pow_digs a
  have h2 := Nat.lt_of_lt_of_le (lt_pow_digs b) (Nat.pow_le_pow_right Bs_pos h)
  have h3 := Bs_gt
  rw [Nat.pow_succ]
  have : Bs ^ (digs a).length * 2 ≤ Bs ^ (digs a).length * Bs := Nat.mul_le_mul_left _ h3
  omega
set_option maxHeartbeats 4000000 in
set_option maxRecDepth 100000 in
theorem add_bigA (a b : Nat) (ha : Bs ≤ a) (hla : (digs a).length ≤ 1099511627000) (hlb : (digs b).length ≤ 1099511627000) (w : World) :
    Calls Tryz.prog 53 #[natV a, natV b] w fun e w' => e = .returned (natV (a + b)) ∧ Below w.heap.size w w' := by
  have sa := sm_false.2 ha
  have hla' : (digs a).length ≤ 1099511627776 := by omega
  have hlb' : (digs b).length ≤ 1099511627776 := by omega
  go_enter Tryz.func53, Tryz.ntmps53
  go_wp2_with fail
  refine (small_any a _).mono ?_
  rintro e w1 ⟨rfl, hb1⟩
  obtain ⟨a0, a1, af⟩ := (Bx.of _ _ _ _ _ (al3_1 w _ _ _)).below hb1 (by simp <;> omega)
  obtain ⟨b0, b1, bf⟩ := (Bx.of _ _ _ _ _ (al3_2 w _ _ _)).below hb1 (by simp <;> omega)
  obtain ⟨r0, r1, rf⟩ := (Bx.of _ _ _ _ _ (al3 w _ _ _)).below hb1 (by simp)
  have hbw := (below3 w _ _ _).trans (hb1.mono (by simp <;> omega))
  have hs1 : w.heap.size + 3 ≤ w1.heap.size := by have := hb1.size; simp at this; omega
  clear hb1
  go_wp2_with fail
  have hlt : 1 ≤ 1 := Nat.le_refl _
  go_region_held3 (fun w' => w'.cell? ⟨w.heap.size, 0, none⟩ = some (.int .u64 ((lo a : Nat) : Int)) ∧ w'.cell? ⟨w.heap.size, 1, none⟩ = some (.string (hs a)) ∧ w'.cell? ⟨w.heap.size + 1, 0, none⟩ = some (.int .u64 ((lo b : Nat) : Int)) ∧ w'.cell? ⟨w.heap.size + 1, 1, none⟩ = some (.string (hs b)))
    (first | exact ⟨a0, a1, b0, b1⟩ | exact ⟨a0', a1', b0', b1'⟩ | exact ⟨a0'', a1'', b0'', b1''⟩)
    (first
      | (go_at_call 84; ((with_reducible refine Calls.mono (digits_any a hla' _) ?_); rintro e w2 ⟨gx, cx, zx, rfl, hcx, hgx, hdx, hb2⟩; obtain ⟨a0', a1', af'⟩ := Bx.below (w := w1.drew) ⟨a0, a1, af⟩ hb2 (by simp <;> omega); obtain ⟨b0', b1', bf'⟩ := Bx.below (w := w1.drew) ⟨b0, b1, bf⟩ hb2 (by simp <;> omega)))
      | (go_at_call 84; ((with_reducible refine Calls.mono (digits_any b hlb' _) ?_); rintro e w3 ⟨gy, cy, zy, rfl, hcy, hgy, hdy, hb3⟩; obtain ⟨a0'', a1'', af''⟩ := Bx.below (w := w2) ⟨a0', a1', af'⟩ hb3 (by have := hb2.size; simp at this; omega); obtain ⟨b0'', b1'', bf''⟩ := Bx.below (w := w2) ⟨b0', b1', bf'⟩ hb3 (by have := hb2.size; simp at this; omega))))
  have dx3 : DB w3 gx (digs a ++ List.replicate zx 0) := hdx.below hb3 hdx.lt
  have hB3 : Below w1.heap.size w1 w3 := (((Below.refl w1.heap.size w1).drew).trans hb2).trans (hb3.mono hb2.size)
  have dy3 := hdy
  have hz3 := hB3.size
  clear a0' a1' af' b0' b1' bf' a0'' a1'' af'' b0'' b1'' bf'' a0 a1 af b0 b1 bf hdx hdy hb2 hb3 hgx hgy
  by_cases hxy : (digs a).length < (digs b).length
  · have HAB := Lib.hid (Nat.add_comm b a)
    have hmk : ∀ w, (Instr.makeSlice 114 (.int .i64 (((digs b).length : Int) + 1)) (.int .i64 (((digs b).length : Int) + 1))).run Tryz.prog w = .ok (.slice (some ⟨w.heap.size, 0, none⟩) ((digs b).length + 1) ((digs b).length + 1)) (w.alloc (zobj ((digs b).length + 1))) :=
      fun w => make64 w _ ((digs b).length + 1) (by omega) (by omega)
    have hrx : Rd (w3.alloc (zobj ((digs b).length + 1))) gy 0 (digs b) := (dy3.alloc _).rdl
    have hcp := fun ty => copy64 (w3.alloc (zobj ((digs b).length + 1))) w3.heap.size ((digs b).length + 1) gy 0 cy [] (List.replicate ((digs b).length + 1) 0) [] (digs b) (by simp) (by simpa using DB.zeros w3 ((digs b).length + 1)) hrx ty
    rw [drop_zeros] at hcp
    simp only [List.length_nil, List.length_replicate, List.nil_append, List.append_nil] at hcp
    have hA := addTo_any w3.heap.size gx 0 ((digs b).length + 1) cx [] (digs b ++ [0]) [] (digs a) ((digs_dig b).app (Dig.cons Bs_pos Dig.nil)) (digs_dig a) (by rw [List.length_append, List.length_singleton]; omega) (by rw [List.length_append, List.length_singleton]; omega) (by have := dx3.lt; omega)
      (cpW (w3.alloc (zobj ((digs b).length + 1))) w3.heap.size (digs b ++ [0])) (by simpa using (DB.zeros w3 ((digs b).length + 1)).cp (digs b ++ [0])) (by have := dx3.lt; unfold cpW; simp; omega) (((dx3.alloc (zobj ((digs b).length + 1))).keep (setRow_other _ _ _ _ (by have := dx3.lt; omega))).rdl)
    simp only [List.length_nil, List.length_append, List.length_singleton, List.nil_append, List.append_nil, val_snoc, val_digs, Nat.mul_zero, Nat.add_zero] at hA
    rw [Nat.mod_eq_of_lt (sum_lt b a (by omega))] at hA
    have HA := Lib.hid hA
    clear hA
    go_wp2_with fail
    refine HA.out.mono ?_
    rintro e w5 ⟨rfl, D', ⟨hDl, hDd, hDv⟩, hdb5, hg5⟩
    have hB5 : Below w1.heap.size w1 w5 := ((hB3.alloc hB3.size _).trans (grown_below (cp_grown _ w3.heap.size _) hB3.size (by simp; have := hB3.size; omega))).trans (grown_below hg5 hB3.size (by unfold cpW; simp; have := hB3.size; omega))
    have hP := pack_any w3.heap.size 0 ((digs b).length + 1) D' hDd (by omega) (by omega) w5 hdb5.lt hdb5.rd0
    rw [hDl, hDv] at hP
    have HP := Lib.hid hP
    clear hP hDl hDv
    go_wp2_with fail
    refine HP.out.mono ?_
    rintro e w6 ⟨rfl, hb6⟩
    have hB6 := hB5.trans (hb6.mono hB5.size)
    obtain ⟨r0', r1', rf'⟩ := Bx.below ⟨r0, r1, rf⟩ hB6 (by omega)
    go_wp2
    exact bodyPost_ret (v := natV (b + a)) (by simp [results, Tryz.results53, go_sem, r0', r1']) rfl ⟨congrArg (fun n => Ending.returned (natV n)) HAB.out, ((hbw.trans (hB6.mono (by omega))).setCell (by simp <;> omega) _).setCell (by simp <;> omega) _⟩
  · skip
    have hmk : ∀ w, (Instr.makeSlice 114 (.int .i64 (((digs a).length : Int) + 1)) (.int .i64 (((digs a).length : Int) + 1))).run Tryz.prog w = .ok (.slice (some ⟨w.heap.size, 0, none⟩) ((digs a).length + 1) ((digs a).length + 1)) (w.alloc (zobj ((digs a).length + 1))) :=
      fun w => make64 w _ ((digs a).length + 1) (by omega) (by omega)
    have hrx : Rd (w3.alloc (zobj ((digs a).length + 1))) gx 0 (digs a) := (dx3.alloc _).rdl
    have hcp := fun ty => copy64 (w3.alloc (zobj ((digs a).length + 1))) w3.heap.size ((digs a).length + 1) gx 0 cx [] (List.replicate ((digs a).length + 1) 0) [] (digs a) (by simp) (by simpa using DB.zeros w3 ((digs a).length + 1)) hrx ty
    rw [drop_zeros] at hcp
    simp only [List.length_nil, List.length_replicate, List.nil_append, List.append_nil] at hcp
    have hA := addTo_any w3.heap.size gy 0 ((digs a).length + 1) cy [] (digs a ++ [0]) [] (digs b) ((digs_dig a).app (Dig.cons Bs_pos Dig.nil)) (digs_dig b) (by rw [List.length_append, List.length_singleton]; omega) (by rw [List.length_append, List.length_singleton]; omega) (by have := dy3.lt; omega)
      (cpW (w3.alloc (zobj ((digs a).length + 1))) w3.heap.size (digs a ++ [0])) (by simpa using (DB.zeros w3 ((digs a).length + 1)).cp (digs a ++ [0])) (by have := dy3.lt; unfold cpW; simp; omega) (((dy3.alloc (zobj ((digs a).length + 1))).keep (setRow_other _ _ _ _ (by have := dy3.lt; omega))).rdl)
    simp only [List.length_nil, List.length_append, List.length_singleton, List.nil_append, List.append_nil, val_snoc, val_digs, Nat.mul_zero, Nat.add_zero] at hA
    rw [Nat.mod_eq_of_lt (sum_lt a b (by omega))] at hA
    have HA := Lib.hid hA
    clear hA
    go_wp2_with fail
    refine HA.out.mono ?_
    rintro e w5 ⟨rfl, D', ⟨hDl, hDd, hDv⟩, hdb5, hg5⟩
    have hB5 : Below w1.heap.size w1 w5 := ((hB3.alloc hB3.size _).trans (grown_below (cp_grown _ w3.heap.size _) hB3.size (by simp; have := hB3.size; omega))).trans (grown_below hg5 hB3.size (by unfold cpW; simp; have := hB3.size; omega))
    have hP := pack_any w3.heap.size 0 ((digs a).length + 1) D' hDd (by omega) (by omega) w5 hdb5.lt hdb5.rd0
    rw [hDl, hDv] at hP
    have HP := Lib.hid hP
    clear hP hDl hDv
    go_wp2_with fail
    refine HP.out.mono ?_
    rintro e w6 ⟨rfl, hb6⟩
    have hB6 := hB5.trans (hb6.mono hB5.size)
    obtain ⟨r0', r1', rf'⟩ := Bx.below ⟨r0, r1, rf⟩ hB6 (by omega)
    go_wp2
    exact bodyPost_ret (v := natV (a + b)) (by simp [results, Tryz.results53, go_sem, r0', r1']) rfl ⟨rfl, ((hbw.trans (hB6.mono (by omega))).setCell (by simp <;> omega) _).setCell (by simp <;> omega) _⟩
set_option maxHeartbeats 4000000 in
set_option maxRecDepth 100000 in
theorem add_bigB (a b : Nat) (ha : a < Bs) (hb : Bs ≤ b) (hla : (digs a).length ≤ 1099511627000) (hlb : (digs b).length ≤ 1099511627000) (w : World) :
    Calls Tryz.prog 53 #[natV a, natV b] w fun e w' => e = .returned (natV (a + b)) ∧ Below w.heap.size w w' := by
  have sa := sm_true.2 ha
  have sb := sm_false.2 hb
  have hla' : (digs a).length ≤ 1099511627776 := by omega
  have hlb' : (digs b).length ≤ 1099511627776 := by omega
  go_enter Tryz.func53, Tryz.ntmps53
  go_wp2_with fail
  refine (small_any a _).mono ?_
  rintro e w0 ⟨rfl, hb0⟩
  obtain ⟨hc0, hf0⟩ := bcell hb0
  go_wp2_with fail
  refine (small_any b _).mono ?_
  rintro e w1 ⟨rfl, hb01⟩
  have hb1 := hb0.trans (hb01.mono hb0.size)
  obtain ⟨a0, a1, af⟩ := (Bx.of _ _ _ _ _ (al3_1 w _ _ _)).below hb1 (by simp <;> omega)
  obtain ⟨b0, b1, bf⟩ := (Bx.of _ _ _ _ _ (al3_2 w _ _ _)).below hb1 (by simp <;> omega)
  obtain ⟨r0, r1, rf⟩ := (Bx.of _ _ _ _ _ (al3 w _ _ _)).below hb1 (by simp)
  have hbw := (below3 w _ _ _).trans (hb1.mono (by simp <;> omega))
  have hs1 : w.heap.size + 3 ≤ w1.heap.size := by have := hb1.size; simp at this; omega
  clear hb1 hb0 hb01 hc0 hf0
  go_wp2_with fail
  have hlt : 1 ≤ 1 := Nat.le_refl _
  go_region_held3 (fun w' => w'.cell? ⟨w.heap.size, 0, none⟩ = some (.int .u64 ((lo a : Nat) : Int)) ∧ w'.cell? ⟨w.heap.size, 1, none⟩ = some (.string (hs a)) ∧ w'.cell? ⟨w.heap.size + 1, 0, none⟩ = some (.int .u64 ((lo b : Nat) : Int)) ∧ w'.cell? ⟨w.heap.size + 1, 1, none⟩ = some (.string (hs b)))
    (first | exact ⟨a0, a1, b0, b1⟩ | exact ⟨a0', a1', b0', b1'⟩ | exact ⟨a0'', a1'', b0'', b1''⟩)
    (first
      | (go_at_call 84; ((with_reducible refine Calls.mono (digits_any a hla' _) ?_); rintro e w2 ⟨gx, cx, zx, rfl, hcx, hgx, hdx, hb2⟩; obtain ⟨a0', a1', af'⟩ := Bx.below (w := w1.drew) ⟨a0, a1, af⟩ hb2 (by simp <;> omega); obtain ⟨b0', b1', bf'⟩ := Bx.below (w := w1.drew) ⟨b0, b1, bf⟩ hb2 (by simp <;> omega)))
      | (go_at_call 84; ((with_reducible refine Calls.mono (digits_any b hlb' _) ?_); rintro e w3 ⟨gy, cy, zy, rfl, hcy, hgy, hdy, hb3⟩; obtain ⟨a0'', a1'', af''⟩ := Bx.below (w := w2) ⟨a0', a1', af'⟩ hb3 (by have := hb2.size; simp at this; omega); obtain ⟨b0'', b1'', bf''⟩ := Bx.below (w := w2) ⟨b0', b1', bf'⟩ hb3 (by have := hb2.size; simp at this; omega))))
  have dx3 : DB w3 gx (digs a ++ List.replicate zx 0) := hdx.below hb3 hdx.lt
  have hB3 : Below w1.heap.size w1 w3 := (((Below.refl w1.heap.size w1).drew).trans hb2).trans (hb3.mono hb2.size)
  have dy3 := hdy
  have hz3 := hB3.size
  clear a0' a1' af' b0' b1' bf' a0'' a1'' af'' b0'' b1'' bf'' a0 a1 af b0 b1 bf hdx hdy hb2 hb3 hgx hgy
  by_cases hxy : (digs a).length < (digs b).length
  · have HAB := Lib.hid (Nat.add_comm b a)
    have hmk : ∀ w, (Instr.makeSlice 114 (.int .i64 (((digs b).length : Int) + 1)) (.int .i64 (((digs b).length : Int) + 1))).run Tryz.prog w = .ok (.slice (some ⟨w.heap.size, 0, none⟩) ((digs b).length + 1) ((digs b).length + 1)) (w.alloc (zobj ((digs b).length + 1))) :=
      fun w => make64 w _ ((digs b).length + 1) (by omega) (by omega)
    have hrx : Rd (w3.alloc (zobj ((digs b).length + 1))) gy 0 (digs b) := (dy3.alloc _).rdl
    have hcp := fun ty => copy64 (w3.alloc (zobj ((digs b).length + 1))) w3.heap.size ((digs b).length + 1) gy 0 cy [] (List.replicate ((digs b).length + 1) 0) [] (digs b) (by simp) (by simpa using DB.zeros w3 ((digs b).length + 1)) hrx ty
    rw [drop_zeros] at hcp
    simp only [List.length_nil, List.length_replicate, List.nil_append, List.append_nil] at hcp
    have hA := addTo_any w3.heap.size gx 0 ((digs b).length + 1) cx [] (digs b ++ [0]) [] (digs a) ((digs_dig b).app (Dig.cons Bs_pos Dig.nil)) (digs_dig a) (by rw [List.length_append, List.length_singleton]; omega) (by rw [List.length_append, List.length_singleton]; omega) (by have := dx3.lt; omega)
      (cpW (w3.alloc (zobj ((digs b).length + 1))) w3.heap.size (digs b ++ [0])) (by simpa using (DB.zeros w3 ((digs b).length + 1)).cp (digs b ++ [0])) (by have := dx3.lt; unfold cpW; simp; omega) (((dx3.alloc (zobj ((digs b).length + 1))).keep (setRow_other _ _ _ _ (by have := dx3.lt; omega))).rdl)
    simp only [List.length_nil, List.length_append, List.length_singleton, List.nil_append, List.append_nil, val_snoc, val_digs, Nat.mul_zero, Nat.add_zero] at hA
    rw [Nat.mod_eq_of_lt (sum_lt b a (by omega))] at hA
    have HA := Lib.hid hA
    clear hA
    go_wp2_with fail
    refine HA.out.mono ?_
    rintro e w5 ⟨rfl, D', ⟨hDl, hDd, hDv⟩, hdb5, hg5⟩
    have hB5 : Below w1.heap.size w1 w5 := ((hB3.alloc hB3.size _).trans (grown_below (cp_grown _ w3.heap.size _) hB3.size (by simp; have := hB3.size; omega))).trans (grown_below hg5 hB3.size (by unfold cpW; simp; have := hB3.size; omega))
    have hP := pack_any w3.heap.size 0 ((digs b).length + 1) D' hDd (by omega) (by omega) w5 hdb5.lt hdb5.rd0
    rw [hDl, hDv] at hP
    have HP := Lib.hid hP
    clear hP hDl hDv
    go_wp2_with fail
    refine HP.out.mono ?_
    rintro e w6 ⟨rfl, hb6⟩
    have hB6 := hB5.trans (hb6.mono hB5.size)
    obtain ⟨r0', r1', rf'⟩ := Bx.below ⟨r0, r1, rf⟩ hB6 (by omega)
    go_wp2
    exact bodyPost_ret (v := natV (b + a)) (by simp [results, Tryz.results53, go_sem, r0', r1']) rfl ⟨congrArg (fun n => Ending.returned (natV n)) HAB.out, ((hbw.trans (hB6.mono (by omega))).setCell (by simp <;> omega) _).setCell (by simp <;> omega) _⟩
  · skip
    have hmk : ∀ w, (Instr.makeSlice 114 (.int .i64 (((digs a).length : Int) + 1)) (.int .i64 (((digs a).length : Int) + 1))).run Tryz.prog w = .ok (.slice (some ⟨w.heap.size, 0, none⟩) ((digs a).length + 1) ((digs a).length + 1)) (w.alloc (zobj ((digs a).length + 1))) :=
      fun w => make64 w _ ((digs a).length + 1) (by omega) (by omega)
    have hrx : Rd (w3.alloc (zobj ((digs a).length + 1))) gx 0 (digs a) := (dx3.alloc _).rdl
    have hcp := fun ty => copy64 (w3.alloc (zobj ((digs a).length + 1))) w3.heap.size ((digs a).length + 1) gx 0 cx [] (List.replicate ((digs a).length + 1) 0) [] (digs a) (by simp) (by simpa using DB.zeros w3 ((digs a).length + 1)) hrx ty
    rw [drop_zeros] at hcp
    simp only [List.length_nil, List.length_replicate, List.nil_append, List.append_nil] at hcp
    have hA := addTo_any w3.heap.size gy 0 ((digs a).length + 1) cy [] (digs a ++ [0]) [] (digs b) ((digs_dig a).app (Dig.cons Bs_pos Dig.nil)) (digs_dig b) (by rw [List.length_append, List.length_singleton]; omega) (by rw [List.length_append, List.length_singleton]; omega) (by have := dy3.lt; omega)
      (cpW (w3.alloc (zobj ((digs a).length + 1))) w3.heap.size (digs a ++ [0])) (by simpa using (DB.zeros w3 ((digs a).length + 1)).cp (digs a ++ [0])) (by have := dy3.lt; unfold cpW; simp; omega) (((dy3.alloc (zobj ((digs a).length + 1))).keep (setRow_other _ _ _ _ (by have := dy3.lt; omega))).rdl)
    simp only [List.length_nil, List.length_append, List.length_singleton, List.nil_append, List.append_nil, val_snoc, val_digs, Nat.mul_zero, Nat.add_zero] at hA
    rw [Nat.mod_eq_of_lt (sum_lt a b (by omega))] at hA
    have HA := Lib.hid hA
    clear hA
    go_wp2_with fail
    refine HA.out.mono ?_
    rintro e w5 ⟨rfl, D', ⟨hDl, hDd, hDv⟩, hdb5, hg5⟩
    have hB5 : Below w1.heap.size w1 w5 := ((hB3.alloc hB3.size _).trans (grown_below (cp_grown _ w3.heap.size _) hB3.size (by simp; have := hB3.size; omega))).trans (grown_below hg5 hB3.size (by unfold cpW; simp; have := hB3.size; omega))
    have hP := pack_any w3.heap.size 0 ((digs a).length + 1) D' hDd (by omega) (by omega) w5 hdb5.lt hdb5.rd0
    rw [hDl, hDv] at hP
    have HP := Lib.hid hP
    clear hP hDl hDv
    go_wp2_with fail
    refine HP.out.mono ?_
    rintro e w6 ⟨rfl, hb6⟩
    have hB6 := hB5.trans (hb6.mono hB5.size)
    obtain ⟨r0', r1', rf'⟩ := Bx.below ⟨r0, r1, rf⟩ hB6 (by omega)
    go_wp2
    exact bodyPost_ret (v := natV (a + b)) (by simp [results, Tryz.results53, go_sem, r0', r1']) rfl ⟨rfl, ((hbw.trans (hB6.mono (by omega))).setCell (by simp <;> omega) _).setCell (by simp <;> omega) _⟩

theorem add_any (a b : Nat) (hla : (digs a).length ≤ 1099511627000) (hlb : (digs b).length ≤ 1099511627000) (w : World) :
    Calls Tryz.prog 53 #[natV a, natV b] w fun e w' => e = .returned (natV (a + b)) ∧ Below w.heap.size w w' := by
  rcases Nat.lt_or_ge a Bs with ha | ha
  · rcases Nat.lt_or_ge b Bs with hb | hb
    · exact add_small a b ha hb w
    · exact add_bigB a b ha hb hla hlb w
  · exact add_bigA a b ha hla hlb w

theorem sub_lt (a b : Nat) (h : a < b) (w : World) :
    Calls Tryz.prog 51 #[natV a, natV b] w fun e w' => e = .returned (.tuple #[natV 0, .bool false]) ∧ Below w.heap.size w w' := by
  have hc := cmpI_lt h
  rw [natV_zero]
  go_enter Tryz.func51, Tryz.ntmps51
  go_wp2_with fail
  refine (cmp_any a b _).mono ?_
  rintro e w1 ⟨rfl, hb1⟩
  obtain ⟨r0, r1, rf⟩ := (Bx.of _ _ _ _ _ (al3 w _ _ _)).below hb1 (by simp)
  have hbw := (below3 w _ _ _).trans (hb1.mono (by simp <;> omega))
  have hs1 : w.heap.size + 3 ≤ w1.heap.size := by have := hb1.size; simp at this; omega
  clear hb1
  go_wp2
  exact bodyPost_ret (v := .tuple #[.agg #[.int .u64 0, .string ⟨#[]⟩], .bool false]) (by simp [results, Tryz.results51, go_sem, r0, r1]) rfl ⟨rfl, (hbw.setCell (by simp <;> omega) _).setCell (by simp <;> omega) _⟩

set_option maxHeartbeats 1000000 in
set_option maxRecDepth 100000 in
theorem sub_ge (a b : Nat) (h : b ≤ a) (hla : (digs a).length ≤ 1099511627776) (w : World) :
    Calls Tryz.prog 51 #[natV a, natV b] w fun e w' => e = .returned (.tuple #[natV (a - b), .bool true]) ∧ Below w.heap.size w w' := by
  have hc : 0 ≤ cmpI a b := by unfold cmpI; rw [if_neg (by omega)]; split <;> omega
  have hdl : (digs b).length ≤ (digs a).length := Nat.le_of_not_lt fun hh => by have := lt_of_digs hh; omega
  have hlb : (digs b).length ≤ 1099511627776 := by omega
  rcases Nat.lt_or_ge a Bs with ha | ha
  · have sa := sm_true.2 ha
    have hlo : lo b ≤ lo a := by rw [lo_small ha, lo_small (by omega)]; exact h
    have hbd := lo_bd a
    have hO : ∀ w, Calls Tryz.prog 65 #[.int .u64 (((lo a : Nat) : Int) - ((lo b : Nat) : Int))] w fun e w' => e = .returned (natV (a - b)) ∧ Below w.heap.size w w' := fun w => by
      have e : ((lo a : Nat) : Int) - ((lo b : Nat) : Int) = ((a - b : Nat) : Int) := by rw [lo_small ha, lo_small (by omega)]; omega
      rw [e]; exact of_any (a - b) (by omega) w
    have HO := Lib.hid hO
    clear hO h hdl
    go_enter Tryz.func51, Tryz.ntmps51
    go_wp2_with fail
    refine (cmp_any a b _).mono ?_
    rintro e w0 ⟨rfl, hb0⟩
    obtain ⟨hc0, hf0⟩ := bcell hb0
    go_wp2_with fail
    refine (small_any a _).mono ?_
    rintro e w1 ⟨rfl, hb01⟩
    have hb1 := hb0.trans (hb01.mono hb0.size)
    obtain ⟨a0, a1, af⟩ := (Bx.of _ _ _ _ _ (al3_1 w _ _ _)).below hb1 (by simp <;> omega)
    obtain ⟨b0, b1, bf⟩ := (Bx.of _ _ _ _ _ (al3_2 w _ _ _)).below hb1 (by simp <;> omega)
    clear hc0 hf0 hb0 hb01
    go_wp2_with fail
    refine (HO.out _).mono ?_
    rintro e w2 ⟨rfl, hb12⟩
    have hb2 := hb1.trans (hb12.mono hb1.size)
    obtain ⟨r0, r1, rf⟩ := (Bx.of _ _ _ _ _ (al3 w _ _ _)).below hb2 (by simp)
    have hbw := (below3 w _ _ _).trans (hb2.mono (by simp <;> omega))
    clear hb1 hb12 hb2
    go_wp2
    exact bodyPost_ret (v := .tuple #[natV (a - b), .bool true]) (by simp [results, Tryz.results51, go_sem, r0, r1]) rfl ⟨rfl, (hbw.setCell (by simp <;> omega) _).setCell (by simp <;> omega) _⟩
  · have sa := sm_false.2 ha
    go_enter Tryz.func51, Tryz.ntmps51
    go_wp2_with fail
    refine (cmp_any a b _).mono ?_
    rintro e w0 ⟨rfl, hb0⟩
    obtain ⟨hc0, hf0⟩ := bcell hb0
    go_wp2_with fail
    refine (small_any a _).mono ?_
    rintro e w1 ⟨rfl, hb01⟩
    have hb1 := hb0.trans (hb01.mono hb0.size)
    obtain ⟨a0, a1, af⟩ := (Bx.of _ _ _ _ _ (al3_1 w _ _ _)).below hb1 (by simp <;> omega)
    obtain ⟨b0, b1, bf⟩ := (Bx.of _ _ _ _ _ (al3_2 w _ _ _)).below hb1 (by simp <;> omega)
    obtain ⟨r0, r1, rf⟩ := (Bx.of _ _ _ _ _ (al3 w _ _ _)).below hb1 (by simp)
    have hbw := (below3 w _ _ _).trans (hb1.mono (by simp <;> omega))
    have hs1 : w.heap.size + 3 ≤ w1.heap.size := by have := hb1.size; simp at this; omega
    clear hc0 hf0 hb0 hb01 hb1
    go_wp2_with fail
    refine (digits_any a hla _).mono ?_
    rintro e w2 ⟨gx, cx, zx, rfl, hcx, hgx, hdx, hb2⟩
    obtain ⟨b0', b1', bf'⟩ := Bx.below ⟨b0, b1, bf⟩ hb2 (by omega)
    clear b0 b1 bf
    go_wp2_with fail
    refine (digits_any b hlb _).mono ?_
    rintro e w3 ⟨gy, cy, zy, rfl, hcy, hgy, hdy, hb3⟩
    have hB3 := hb2.trans (hb3.mono hb2.size)
    have dx3 : DB w3 gx (digs a ++ List.replicate zx 0) := hdx.below hb3 hdx.lt
    have hxl := hdx.lt
    have hT := takeFrom_any gx gy 0 cx cy [] (digs a) (List.replicate zx 0) (digs b) (digs_dig a) (digs_dig b) hdl (by omega) (by omega) w3 dx3 hdy.lt hdy.rdl (by rw [val_digs, val_digs]; exact h)
    simp only [List.length_nil, List.nil_append, val_digs] at hT
    have HT := Lib.hid hT
    clear hT hdx b0' b1' bf' a0 a1 af hb2
    go_wp2_with fail
    refine HT.out.mono ?_
    rintro e w4 ⟨rfl, D', ⟨hDl, hDd, hDv⟩, hdb4, hg4⟩
    have hB4 : Below w1.heap.size w1 w4 := hB3.trans (grown_below hg4 (by omega) hB3.size)
    have hDv' : val D' = a - b := by omega
    have hP := pack_any gx 0 cx D' hDd (by omega) (by omega) w4 hdb4.lt hdb4.rdl
    rw [hDl, hDv'] at hP
    have HP := Lib.hid hP
    clear hP hDl hDv hDv'
    go_wp2_with fail
    refine HP.out.mono ?_
    rintro e w5 ⟨rfl, hb5⟩
    have hB5 := hB4.trans (hb5.mono hB4.size)
    obtain ⟨r0', r1', rf'⟩ := Bx.below ⟨r0, r1, rf⟩ hB5 (by omega)
    go_wp2
    exact bodyPost_ret (v := .tuple #[natV (a - b), .bool true]) (by simp [results, Tryz.results51, go_sem, r0', r1']) rfl ⟨rfl, ((hbw.trans (hB5.mono (by omega))).setCell (by simp <;> omega) _).setCell (by simp <;> omega) _⟩
end Go.Proofs.YthehcjfmokabfaaGreatDoor

/-
  Layer 1, walks L: divideByDigit, shiftLeft, shiftRight.
-/
namespace Go.Proofs.YthehcjfmokabfaaGreatDoor
open Go.RowKit
attribute [local irreducible] lo hs sm s64 c64 d64 b64 mh ml pd pc qd qc val hiB str

theorem div64_zero (l y : Nat) (h : 0 < y) (hl : l < Bs) (w : World) :
    Calls Tryz.prog 119 #[.int .u64 0, .int .u64 (l : Int), .int .u64 (y : Int)] w fun e w' =>
      e = .returned (.tuple #[.int .u64 ((l / y : Nat) : Int), .int .u64 ((l % y : Nat) : Int)]) ∧ ∃ n, w' = w.drewN n := by
  have t0 : ((y : Int) == 0) = false := by simp; omega
  have e1 : ((l / y : Nat) : Int) = (l : Int) / (y : Int) := by omega
  have e2 : ((l % y : Nat) : Int) = (l : Int) % (y : Int) := by omega
  rw [e1, e2]
  have HW := Lib.hid (wrapN (l / y) (by have := Nat.div_le_self l y; unfold Bs at hl; omega))
  rw [e1] at HW
  clear e1 e2
  go_enter Tryz.func119, Tryz.ntmps119
  go_wp2
  go_quiet (fail)
  go_wp2
  go_ret2
  exact ⟨ret2 HW.out rfl, nq, rfl⟩
/-- Div64, hi = 0 or not. -/
theorem div64_all (hi lo y : Nat) (hlt : hi < y) (hy : y < Bs) (hlo : lo < Bs) (w : World) :
    Calls Tryz.prog 119 #[.int .u64 (hi : Int), .int .u64 (lo : Int), .int .u64 (y : Int)] w fun e w' =>
      e = .returned (.tuple #[.int .u64 (((hi * Bs + lo) / y : Nat) : Int), .int .u64 (((hi * Bs + lo) % y : Nat) : Int)]) ∧ ∃ n, w' = w.drewN n := by
  by_cases h0 : hi = 0
  · subst h0
    rw [Nat.zero_mul, Nat.zero_add]
    exact div64_zero lo y hlt hlo w
  · exact (div64_any hi lo y h0 hlt hy hlo w).mono fun e w' ⟨he, hw⟩ => ⟨he, 0, hw.symm⟩

/-- After i places from the high end: the quotient's digits so far, and the rest. -/
structure DvI (l : List Nat) (y i rest : Nat) (Q : List Nat) : Prop where
  len : Q.length = i
  dig : Dig Q
  lt : rest < y
  eq : val (l.drop (l.length - i)) = val Q * y + rest
theorem DvI.start (l : List Nat) (y : Nat) (hy : 0 < y) : DvI l y 0 0 [] := ⟨rfl, Dig.nil, hy, by simp [val]⟩
theorem DvI.step {l Q : List Nat} {y i rest : Nat} (h : DvI l y i rest Q) (hl : Dig l) (hy : y < Bs) (hi : i < l.length) :
    DvI l y (i + 1) ((rest * Bs + l[l.length - 1 - i]'(by omega)) % y) ((rest * Bs + l[l.length - 1 - i]'(by omega)) / y :: Q) := by
  have hd := hl.get (l.length - 1 - i) (by omega)
  have hlt := h.lt
  refine ⟨by rw [List.length_cons, h.len], Dig.cons ?_ h.dig, Nat.mod_lt _ (by omega), ?_⟩
  · refine (Nat.div_lt_iff_lt_mul (by omega)).2 ?_
    have : rest * Bs + Bs ≤ y * Bs := by rw [← Nat.succ_mul]; exact Nat.mul_le_mul_right _ hlt
    rw [Nat.mul_comm Bs y]; omega
  · have e : l.drop (l.length - (i + 1)) = l[l.length - 1 - i]'(by omega) :: l.drop (l.length - i) := by
      have e1 : l.length - (i + 1) = l.length - 1 - i := by omega
      have e2 : l.length - i = l.length - 1 - i + 1 := by omega
      rw [e1, e2]; exact List.drop_eq_getElem_cons (by omega)
    generalize hx : l[l.length - 1 - i]'(by omega) = x at *
    rw [e, val_cons, val_cons, h.eq]
    have hq := Nat.div_add_mod' (rest * Bs + x) y
    rw [Nat.add_mul, Nat.mul_add, ← Nat.mul_assoc, Nat.mul_comm Bs rest]; omega
theorem DvI.done {l Q : List Nat} {y rest : Nat} (h : DvI l y l.length rest Q) : val Q = val l / y ∧ rest = val l % y := by
  have e := h.eq
  rw [Nat.sub_self, List.drop_zero] at e
  have hlt := h.lt
  constructor
  · rw [e, Nat.mul_comm, Nat.mul_add_div (by omega), Nat.div_eq_of_lt hlt, Nat.add_zero]
  · rw [e, Nat.mul_comm, Nat.mul_add_mod, Nat.mod_eq_of_lt hlt]

set_option maxHeartbeats 1000000 in
set_option maxRecDepth 100000 in
theorem divideByDigit_any (g c y : Nat) (l C : List Nat) (hd : Dig l) (hy0 : 0 < y) (hy : y < Bs) (hl : l.length ≤ 1099511627776) (w : World) (hdb : DB w g (l ++ C)) :
    Calls Tryz.prog 86 #[.slice (some ⟨g, 0, none⟩) l.length c, .int .u64 (y : Int)] w fun e w' =>
      e = .returned (.int .u64 ((val l % y : Nat) : Int)) ∧ ∃ Q : List Nat, (Q.length = l.length ∧ Dig Q ∧ val Q = val l / y) ∧ DB w' g (Q ++ C) ∧ w.grownBy w' (some g) := by
  go_enter Tryz.func86, Tryz.ntmps86
  go_wp2
  go_loopw [5, 10] (fun x z wr => ∃ (i rest : Nat) (Q : List Nat), i ≤ l.length ∧ x = .int .u64 rest ∧ z = .int .i64 i ∧ DvI l y i rest Q ∧ DB wr g (l.take (l.length - i) ++ (Q ++ C)) ∧ w.grownBy wr (some g)) (fun _ z _ => l.length - (intOf z).toNat)
  case atStart => exact ⟨0, 0, [], Nat.zero_le _, rfl, rfl, DvI.start l y hy0, by simpa using hdb, grown_refl w _⟩
  case round =>
    obtain ⟨i, rest, Q, hi, rfl, rfl, hI, hdb1, hg1⟩ := hrel
    by_cases hil : i < l.length
    · have hlt := hI.lt
      have hstep := hI.step hd hy hil
      have hdx := hd.get (l.length - 1 - i) (by omega)
      have hlen : l.length - 1 - i < (l.take (l.length - i) ++ (Q ++ C)).length := by rw [List.length_append, List.length_take]; omega
      have hcell := hdb1.cell _ hlen
      have hget : (l.take (l.length - i) ++ (Q ++ C))[l.length - 1 - i]'hlen = l[l.length - 1 - i]'(by omega) := by
        rw [List.getElem_append_left (by rw [List.length_take]; omega), List.getElem_take]
      rw [hget] at hcell
      have hfz := hdb1.frozen (l.length - 1 - i)
      have hset : (l.take (l.length - i) ++ (Q ++ C)).set (l.length - 1 - i) ((rest * Bs + l[l.length - 1 - i]'(by omega)) / y) = l.take (l.length - (i + 1)) ++ (((rest * Bs + l[l.length - 1 - i]'(by omega)) / y :: Q) ++ C) := by
        have e1 : l.length - i = (l.length - 1 - i) + 1 := by omega
        have e2 : l.length - (i + 1) = l.length - 1 - i := by omega
        rw [e1, e2, List.take_succ_eq_append_getElem (by omega), List.append_assoc, List.set_append_right _ _ (by rw [List.length_take]; omega), List.length_take]
        rw [show l.length - 1 - i - min (l.length - 1 - i) l.length = 0 by omega]
        simp
      have hnext := hdb1.set _ hlen ((rest * Bs + l[l.length - 1 - i]'(by omega)) / y)
      rw [hset] at hnext
      have hD := div64_all rest (l[l.length - 1 - i]'(by omega)) y hlt hy hdx
      generalize l[l.length - 1 - i]'(by omega) = x at *
      have hbound : l.length - 1 - i < l.length := by omega
      have HD := Lib.hid hD
      have HN := Lib.hid hnext
      have HS := Lib.hid hstep
      clear hD hnext hstep hlen hI hget hset hdx hlt
      have HDB := Lib.hid hdb1
      clear hdb1
      go_wp2_with fail
      refine (HD.out _).mono ?_
      rintro e w1 ⟨rfl, nq, rfl⟩
      go_wp2
      go_roundw
      case rel =>
        refine ⟨i + 1, _, _, by omega, rfl, by go_num, HS.out, ?_, grown_trans (grown_trans hg1 ?_) (grown_set _ _ _ _)⟩
        · exact HN.out
        · exact ⟨rfl, rfl, rfl, Nat.le_refl _, fun _ _ _ => rfl⟩
      case measure => simp [intOf]; omega
    · have hik : i = l.length := by omega
      subst hik
      obtain ⟨hv, hrest⟩ := hI.done
      have HV := Lib.hid hv
      have HR := Lib.hid hrest
      rw [Nat.sub_self, List.take_zero, List.nil_append] at hdb1
      clear hv hrest
      go_wp2
      go_ret
      exact ⟨congrArg (fun k : Nat => Ending.returned (.int .u64 (k : Int))) HR.out, Q, ⟨hI.len, hI.dig, HV.out⟩, hdb1, hg1⟩
end Go.Proofs.YthehcjfmokabfaaGreatDoor

/-
  Layer 1, walks M: shiftLeft, shiftRight.
-/
namespace Go.Proofs.YthehcjfmokabfaaGreatDoor
open Go.RowKit
attribute [local irreducible] lo hs sm s64 c64 d64 b64 mh ml pd pc qd qc val hiB str

theorem Bs_split {n : Nat} (h : n ≤ 64) : Bs = 2 ^ (64 - n) * 2 ^ n := by rw [Bs_pow, ← Nat.pow_add]; congr 1; omega
/-- the digit that a shift to the left leaves: of x, and of z below it -/
def slD (n x z : Nat) : Nat := x * 2 ^ n % Bs + z / 2 ^ (64 - n)
theorem slD_lt {n x z : Nat} (h : n ≤ 64) (hz : z < Bs) : slD n x z < Bs := by
  have hp : 0 < 2 ^ n := Nat.pow_pos (by omega)
  have hq : 0 < 2 ^ (64 - n) := Nat.pow_pos (by omega)
  unfold slD
  have e : x * 2 ^ n % Bs = (x % 2 ^ (64 - n)) * 2 ^ n := by rw [Bs_split h, Nat.mul_mod_mul_right]
  have h1 : x % 2 ^ (64 - n) + 1 ≤ 2 ^ (64 - n) := Nat.mod_lt _ hq
  have h2 := Nat.mul_le_mul_right (2 ^ n) h1
  rw [← Bs_split h, Nat.add_mul, Nat.one_mul] at h2
  have h3 : z / 2 ^ (64 - n) < 2 ^ n := (Nat.div_lt_iff_lt_mul hq).2 (by rw [Nat.mul_comm, ← Bs_split h]; exact hz)
  omega
theorem slD_or {n x z : Nat} (h : n ≤ 64) (hz : z < Bs) : bits .or .u64 (IntKind.u64.wrap ((x : Int) * 2 ^ n)) ((z : Int) / 2 ^ (64 - n)) = ((slD n x z : Nat) : Int) := by
  have hq : 0 < 2 ^ (64 - n) := Nat.pow_pos (by omega)
  have e1 : (x : Int) * 2 ^ n = ((x * 2 ^ n : Nat) : Int) := by rw [Int.natCast_mul, Int.natCast_pow]; rfl
  have e2 : (z : Int) / 2 ^ (64 - n) = ((z / 2 ^ (64 - n) : Nat) : Int) := by rw [Int.natCast_ediv, Int.natCast_pow]; rfl
  have e3 : x * 2 ^ n % 18446744073709551616 = 2 ^ n * (x % 2 ^ (64 - n)) := by
    have : x * 2 ^ n % Bs = (x % 2 ^ (64 - n)) * 2 ^ n := by rw [Bs_split h, Nat.mul_mod_mul_right]
    rw [Nat.mul_comm (2 ^ n)]; exact this
  have h3 : z / 2 ^ (64 - n) < 2 ^ n := (Nat.div_lt_iff_lt_mul hq).2 (by rw [Nat.mul_comm, ← Bs_split h]; exact hz)
  have h4 := slD_lt (x := x) h hz
  unfold slD at h4 ⊢
  rw [e1, e2, wrapM, e3]
  have e4 : x * 2 ^ n % Bs = 2 ^ n * (x % 2 ^ (64 - n)) := e3
  rw [e4] at h4 ⊢
  exact or_add n _ _ h3 h4

theorem sh_wrap (x n : Nat) : IntKind.u64.wrap ((x : Int) * 2 ^ n) = ((x * 2 ^ n % Bs : Nat) : Int) := by
  have e1 : (x : Int) * 2 ^ n = ((x * 2 ^ n : Nat) : Int) := by rw [Int.natCast_mul, Int.natCast_pow]; rfl
  rw [e1, wrapM]; rfl
/-- After i places from the high end. -/
structure SlI (D : List Nat) (n i : Nat) (F : List Nat) : Prop where
  len : F.length = i
  dig : Dig F
  eq : val F = val (D.drop (D.length - i)) * 2 ^ n / Bs
theorem SlI.start (D : List Nat) (n : Nat) : SlI D n 0 [] := ⟨rfl, Dig.nil, by simp [val]⟩
theorem drop_at (D : List Nat) (i : Nat) (hi : i < D.length) : D.drop (D.length - (i + 1)) = D[D.length - i - 1]'(by omega) :: D.drop (D.length - i) := by
  have e1 : D.length - (i + 1) = D.length - i - 1 := by omega
  have e2 : D.length - i = D.length - i - 1 + 1 := by omega
  rw [e1, List.drop_eq_getElem_cons (by omega), ← e2]
theorem low_digit (D : List Nat) (j : Nat) (hD : Dig D) (hj : j < (D ++ [0]).length) : (D ++ [0])[j] = val (D.drop j) % Bs := by
  rcases Nat.lt_or_ge j D.length with h | h
  · rw [List.getElem_append_left h, List.drop_eq_getElem_cons h, val_cons, Nat.add_mul_mod_self_left, Nat.mod_eq_of_lt (hD.get j h)]
  · rw [List.drop_eq_nil_of_le h, val_nil]
    simp at hj
    have : j = D.length := by omega
    subst this
    simp
theorem SlI.step {D F : List Nat} {n i : Nat} (h : SlI D n i F) (hD : Dig D) (hn : n ≤ 64) (hi : i < D.length) :
    SlI D n (i + 1) (slD n ((D ++ [0])[D.length - i]'(by simp; omega)) (D[D.length - i - 1]'(by omega)) :: F) := by
  have hz := hD.get (D.length - i - 1) (by omega)
  refine ⟨by rw [List.length_cons, h.len], Dig.cons (slD_lt hn hz) h.dig, ?_⟩
  have hp : 0 < 2 ^ n := Nat.pow_pos (by omega)
  have hq : 0 < 2 ^ (64 - n) := Nat.pow_pos (by omega)
  rw [drop_at D i hi, val_cons, val_cons, h.eq, low_digit D _ hD]
  generalize hV : val (D.drop (D.length - i)) = V at *
  generalize D[D.length - i - 1]'(by omega) = z at *
  unfold slD
  have e1 : (z + Bs * V) * 2 ^ n / Bs = z / 2 ^ (64 - n) + V * 2 ^ n := by
    rw [Nat.add_mul, Nat.mul_assoc, Nat.add_mul_div_left _ _ Bs_pos]
    congr 1
    rw [Bs_split hn, Nat.mul_div_mul_right _ _ hp]
  have e2 : V % Bs * 2 ^ n % Bs = V * 2 ^ n % Bs := by rw [Nat.mod_mul_mod]
  have e3 := Nat.mod_add_div (V * 2 ^ n) Bs
  rw [e1, e2]; omega
theorem SlI.done {D F : List Nat} {n : Nat} (h : SlI D n D.length F) (hD : Dig D) (hne : 0 < D.length) :
    (D[0] * 2 ^ n % Bs :: F).length = D.length + 1 ∧ Dig (D[0] * 2 ^ n % Bs :: F) ∧ val (D[0] * 2 ^ n % Bs :: F) = val D * 2 ^ n := by
  refine ⟨by rw [List.length_cons, h.len], Dig.cons (Nat.mod_lt _ Bs_pos) h.dig, ?_⟩
  have e := h.eq
  rw [Nat.sub_self, List.drop_zero] at e
  have e0 : D[0] = val D % Bs := by
    have := low_digit D 0 hD (by simp)
    rw [List.getElem_append_left hne, List.drop_zero] at this; exact this
  rw [val_cons, e, e0]
  have e2 : val D % Bs * 2 ^ n % Bs = val D * 2 ^ n % Bs := by rw [Nat.mod_mul_mod]
  rw [e2]; exact Nat.mod_add_div _ _

set_option maxHeartbeats 4000000 in
set_option maxRecDepth 100000 in
theorem shiftLeft_any (g c n : Nat) (D : List Nat) (hD : Dig D) (hn : n < 64) (hne : 0 < D.length) (hl : D.length ≤ 1099511627776) (w : World) (hg : g < w.heap.size) (hr : Rd w g 0 D) :
    Calls Tryz.prog 131 #[.slice (some ⟨g, 0, none⟩) D.length c, .int .i64 (n : Int)] w fun e w' =>
      ∃ O : List Nat, e = .returned (.slice (some ⟨w.heap.size, 0, none⟩) (D.length + 1) (D.length + 1)) ∧ (O.length = D.length + 1 ∧ Dig O ∧ val O = val D * 2 ^ n) ∧ DB w' w.heap.size O ∧ Below w.heap.size w w' := by
  have hmk : ∀ w, (Instr.makeSlice 114 (.int .i64 ((D.length : Int) + 1)) (.int .i64 ((D.length : Int) + 1))).run Tryz.prog w = .ok (.slice (some ⟨w.heap.size, 0, none⟩) (D.length + 1) (D.length + 1)) (w.alloc (zobj (D.length + 1))) :=
    fun w => make64 w _ (D.length + 1) (by omega) (by omega)
  have hrx : Rd (w.alloc (zobj (D.length + 1))) g 0 D := hr.below (below1 w _) hg
  have hcp := fun ty => copy64 (w.alloc (zobj (D.length + 1))) w.heap.size (D.length + 1) g 0 c [] (List.replicate (D.length + 1) 0) [] D (by simp) (by simpa using DB.zeros w (D.length + 1)) hrx ty
  rw [drop_zeros] at hcp
  simp only [List.length_nil, List.length_replicate, List.nil_append, List.append_nil] at hcp
  have hdb0 : DB (cpW (w.alloc (zobj (D.length + 1))) w.heap.size (D ++ [0])) w.heap.size (D ++ [0]) := (DB.zeros w (D.length + 1)).cp (D ++ [0])
  have hb0 : Below w.heap.size w (cpW (w.alloc (zobj (D.length + 1))) w.heap.size (D ++ [0])) := (below1 w _).trans (grown_below (cp_grown _ w.heap.size _) (Nat.le_refl _) (by simp))
  have HDB := Lib.hid hdb0
  clear hdb0
  have hm64 : min n 64 = n := by omega
  go_enter Tryz.func131, Tryz.ntmps131
  go_wp2
  go_loopw [17] (fun z wr => ∃ (i : Nat) (F : List Nat), i ≤ D.length ∧ z = .int .i64 i ∧ SlI D n i F ∧ DB wr w.heap.size ((D ++ [0]).take (D.length - i + 1) ++ F) ∧ Below w.heap.size w wr) (fun z _ => D.length - (intOf z).toNat)
  case atStart => exact ⟨0, [], Nat.zero_le _, rfl, SlI.start D n, by rw [Nat.sub_zero, List.take_of_length_le (by simp), List.append_nil]; exact HDB.out, hb0⟩
  case round =>
    obtain ⟨i, F, hi, rfl, hI, hdb1, hb1⟩ := hrel
    by_cases hil : i < D.length
    · have hstep := hI.step hD (Nat.le_of_lt hn) hil
      have hz := hD.get (D.length - i - 1) (by omega)
      have hlt : ((D ++ [0]).take (D.length - i + 1)).length = D.length - i + 1 := by rw [List.length_take]; simp <;> omega
      have hlen : D.length - i < ((D ++ [0]).take (D.length - i + 1) ++ F).length := by rw [List.length_append, hlt]; omega
      have hcell := hdb1.cell _ hlen
      rw [List.getElem_append_left (by omega), List.getElem_take] at hcell
      have hcell2 := hdb1.cell (D.length - i - 1) (by omega)
      rw [List.getElem_append_left (by omega), List.getElem_take, List.getElem_append_left (by omega)] at hcell2
      have hfz := hdb1.frozen (D.length - i)
      have hor := slD_or (n := n) (x := (D ++ [0])[D.length - i]'(by simp; omega)) (Nat.le_of_lt hn) hz
      have hnext := hdb1.set _ hlen (slD n ((D ++ [0])[D.length - i]'(by simp; omega)) (D[D.length - i - 1]'(by omega)))
      rw [List.set_append_left _ _ (by omega)] at hnext
      have hset : ((D ++ [0]).take (D.length - i + 1)).set (D.length - i) (slD n ((D ++ [0])[D.length - i]'(by simp; omega)) (D[D.length - i - 1]'(by omega))) ++ F =
          (D ++ [0]).take (D.length - (i + 1) + 1) ++ (slD n ((D ++ [0])[D.length - i]'(by simp; omega)) (D[D.length - i - 1]'(by omega)) :: F) := by
        have e1 : D.length - (i + 1) + 1 = D.length - i := by omega
        rw [e1, List.take_succ_eq_append_getElem (by simp; omega), List.set_append_right _ _ (by rw [List.length_take]; simp; omega), List.length_take, Nat.min_eq_left (by simp; omega), Nat.sub_self]
        simp
      rw [hset] at hnext
      generalize (D ++ [0])[D.length - i]'(by simp; omega) = x at *
      generalize D[D.length - i - 1]'(by omega) = z at *
      have HN := Lib.hid hnext
      have HS := Lib.hid hstep
      clear hnext hstep hlen hI hset hlt hz hdb1 hcp hmk
      go_wp2
      go_region
      all_goals go_wp2
      all_goals go_roundw
      case rel => exact ⟨i + 1, _, by omega, by go_num, HS.out, HN.out, (hb1.setCell (Nat.le_refl _) _).drew⟩
      case measure => simp [intOf]; omega
    · have hik : i = D.length := by omega
      subst hik
      have hdone := hI.done hD hne
      rw [Nat.sub_self, List.take_succ_eq_append_getElem (by simp), List.take_zero, List.nil_append, List.getElem_append_left hne] at hdb1
      have hcell := hdb1.cell 0 (by simp)
      have hfz := hdb1.frozen 0
      have hnext := hdb1.set 0 (by simp) (D[0] * 2 ^ n % Bs)
      rw [show ([D[0]] ++ F).set 0 (D[0] * 2 ^ n % Bs) = D[0] * 2 ^ n % Bs :: F by simp] at hnext
      have hw := sh_wrap D[0] n
      rw [show ([D[0]] ++ F)[0]'(by simp) = D[0] by simp] at hcell
      generalize D[0] * 2 ^ n % Bs = v at *
      generalize D[0] = x at *
      have HN := Lib.hid hnext
      have HE := Lib.hid hdone
      clear hnext hdone hI hdb1
      go_wp2
      go_ret
      exact ⟨_, rfl, HE.out, HN.out, hb1.setCell (Nat.le_refl _) _⟩

/-- the digit that a shift to the right leaves: of x, and of z above it -/
def srD (n x z : Nat) : Nat := x / 2 ^ n + z * 2 ^ (64 - n) % Bs
theorem srD_sum {n x X : Nat} (h : n ≤ 64) : (x + Bs * X) / 2 ^ n = srD n x (X % Bs) + Bs * (X / 2 ^ n) := by
  have hp : 0 < 2 ^ n := Nat.pow_pos (by omega)
  unfold srD
  have e1 : (x + Bs * X) / 2 ^ n = x / 2 ^ n + 2 ^ (64 - n) * X := by
    rw [Bs_split h, Nat.mul_right_comm, Nat.add_mul_div_right _ _ hp]
  have e2 : X % Bs * 2 ^ (64 - n) % Bs = 2 ^ (64 - n) * (X % 2 ^ n) := by
    rw [Nat.mod_mul_mod]
    have : Bs = 2 ^ n * 2 ^ (64 - n) := by rw [Nat.mul_comm]; exact Bs_split h
    rw [this, Nat.mul_mod_mul_right, Nat.mul_comm]
  have e3 := Nat.mod_add_div X (2 ^ n)
  have e4 : 2 ^ (64 - n) * X = 2 ^ (64 - n) * (X % 2 ^ n) + 2 ^ (64 - n) * (2 ^ n * (X / 2 ^ n)) := by rw [← Nat.mul_add, e3]
  rw [e1, e2, e4, ← Nat.mul_assoc, ← Bs_split h]; omega
theorem srD_lt {n x z : Nat} (h : n ≤ 64) (hx : x < Bs) : srD n x z < Bs := by
  have hp : 0 < 2 ^ n := Nat.pow_pos (by omega)
  have hq : 0 < 2 ^ (64 - n) := Nat.pow_pos (by omega)
  unfold srD
  have hB : Bs = 2 ^ n * 2 ^ (64 - n) := by rw [Nat.mul_comm]; exact Bs_split h
  have e : z * 2 ^ (64 - n) % Bs = (z % 2 ^ n) * 2 ^ (64 - n) := by rw [hB, Nat.mul_mod_mul_right]
  have h1 : z % 2 ^ n + 1 ≤ 2 ^ n := Nat.mod_lt _ hp
  have h2 := Nat.mul_le_mul_right (2 ^ (64 - n)) h1
  rw [← hB, Nat.add_mul, Nat.one_mul] at h2
  have h3 : x / 2 ^ n < 2 ^ (64 - n) := (Nat.div_lt_iff_lt_mul hp).2 (by rw [← Bs_split h]; exact hx)
  omega
theorem srD_or {n x z : Nat} (h : n ≤ 64) (hx : x < Bs) : bits .or .u64 ((x : Int) / 2 ^ n) (IntKind.u64.wrap ((z : Int) * 2 ^ (64 - n))) = ((srD n x z : Nat) : Int) := by
  have hp : 0 < 2 ^ n := Nat.pow_pos (by omega)
  have e2 : (x : Int) / 2 ^ n = ((x / 2 ^ n : Nat) : Int) := by rw [Int.natCast_ediv, Int.natCast_pow]; rfl
  have hB : Bs = 2 ^ n * 2 ^ (64 - n) := by rw [Nat.mul_comm]; exact Bs_split h
  have e : z * 2 ^ (64 - n) % Bs = 2 ^ (64 - n) * (z % 2 ^ n) := by rw [hB, Nat.mul_mod_mul_right, Nat.mul_comm]
  have h3 : x / 2 ^ n < 2 ^ (64 - n) := (Nat.div_lt_iff_lt_mul hp).2 (by rw [← Bs_split h]; exact hx)
  have h4 := srD_lt (z := z) h hx
  unfold srD at h4 ⊢
  rw [sh_wrap, e2, e]
  rw [e] at h4
  rw [bits_or_u64_nat _ _ (Nat.lt_of_le_of_lt (Nat.le_add_right _ _) h4) (Nat.lt_of_le_of_lt (Nat.le_add_left _ _) h4), Nat.or_comm, ← Nat.two_pow_add_eq_or_of_lt h3, Nat.add_comm]

theorem gdrew {w w' : World} {r : Option Nat} (h : w.grownBy w' r) : w.grownBy w'.drew r := ⟨h.os, h.tape, h.output, h.size, h.block⟩
structure SrI (D : List Nat) (n i : Nat) (P : List Nat) : Prop where
  len : P.length = i
  dig : Dig P
  eq : val P + Bs ^ i * (val (D.drop i) / 2 ^ n) = val D / 2 ^ n
theorem SrI.start (D : List Nat) (n : Nat) : SrI D n 0 [] := ⟨rfl, Dig.nil, by simp [val]⟩
theorem next_digit (D : List Nat) (j : Nat) (hD : Dig D) : D.getD j 0 = val (D.drop j) % Bs := by
  rcases Nat.lt_or_ge j D.length with h | h
  · rw [List.drop_eq_getElem_cons h, val_cons, Nat.add_mul_mod_self_left, Nat.mod_eq_of_lt (hD.get j h)]; simp [h]
  · rw [List.drop_eq_nil_of_le h, val_nil]; simp [h]
theorem SrI.step {D P : List Nat} {n i : Nat} (h : SrI D n i P) (hD : Dig D) (hn : n ≤ 64) (hi : i < D.length) :
    SrI D n (i + 1) (P ++ [srD n D[i] (D.getD (i + 1) 0)]) := by
  refine ⟨by rw [List.length_append, h.len]; rfl, h.dig.app (Dig.cons (srD_lt hn (hD.get i hi)) Dig.nil), ?_⟩
  have he := h.eq
  rw [List.drop_eq_getElem_cons hi, val_cons, srD_sum hn, ← next_digit D (i + 1) hD] at he
  rw [val_snoc, h.len, Nat.pow_succ, ← he, Nat.mul_add, Nat.mul_assoc]; omega
theorem SrI.done {D P : List Nat} {n : Nat} (h : SrI D n D.length P) : P.length = D.length ∧ Dig P ∧ val P = val D / 2 ^ n := by
  have e := h.eq
  rw [List.drop_length, val_nil, Nat.zero_div, Nat.mul_zero, Nat.add_zero] at e
  exact ⟨h.len, h.dig, e⟩

set_option maxHeartbeats 4000000 in
set_option maxRecDepth 100000 in
theorem shiftRight_any (g c n : Nat) (D C : List Nat) (hD : Dig D) (hn : n < 64) (hl : D.length ≤ 1099511627776) (w : World) (hdb : DB w g (D ++ C)) :
    Calls Tryz.prog 133 #[.slice (some ⟨g, 0, none⟩) D.length c, .int .i64 (n : Int)] w fun e w' =>
      e = .returned (.tuple #[]) ∧ ∃ O : List Nat, (O.length = D.length ∧ Dig O ∧ val O = val D / 2 ^ n) ∧ DB w' g (O ++ C) ∧ w.grownBy w' (some g) := by
  have hm64 : min n 64 = n := by omega
  go_enter Tryz.func133, Tryz.ntmps133
  go_wp2
  go_loopw [7] (fun z wr => ∃ (i : Nat) (P : List Nat), i ≤ D.length ∧ z = .int .i64 i ∧ SrI D n i P ∧ DB wr g (P ++ (D.drop i ++ C)) ∧ w.grownBy wr (some g)) (fun z _ => D.length - (intOf z).toNat)
  case atStart => exact ⟨0, [], Nat.zero_le _, rfl, SrI.start D n, by simpa using hdb, grown_refl w _⟩
  case round =>
    obtain ⟨i, P, hi, rfl, hI, hdb1, hg1⟩ := hrel
    by_cases hil : i < D.length
    · have hstep := hI.step hD (Nat.le_of_lt hn) hil
      have hPl := hI.len
      have hx := hD.get i hil
      have e2 : ((D[i] : Nat) : Int) / 2 ^ n = ((D[i] / 2 ^ n : Nat) : Int) := by rw [Int.natCast_ediv, Int.natCast_pow]; rfl
      have hsplit : P ++ (D.drop i ++ C) = P ++ D[i] :: (D.drop (i + 1) ++ C) := by rw [List.drop_eq_getElem_cons hil]; rfl
      rw [hsplit] at hdb1
      have hlen : i < (P ++ D[i] :: (D.drop (i + 1) ++ C)).length := by simp; omega
      have hcell := hdb1.cell i hlen
      rw [show (P ++ D[i] :: (D.drop (i + 1) ++ C))[i]'hlen = D[i] by rw [List.getElem_append_right (by omega)]; simp [hPl]] at hcell
      have hfz := hdb1.frozen i
      have set_ : ∀ y : Nat, (P ++ D[i] :: (D.drop (i + 1) ++ C)).set i y = P ++ [y] ++ (D.drop (i + 1) ++ C) := fun y => by
        rw [List.set_append_right _ _ (by omega), hPl, Nat.sub_self]; simp
      by_cases hlast : i + 1 < D.length
      · have hor := srD_or (n := n) (z := D.getD (i + 1) 0) (Nat.le_of_lt hn) hx
        have hn1 := hdb1.set i hlen (D[i] / 2 ^ n)
        rw [set_] at hn1
        have hcell2 := hdb1.cell (i + 1) (by simp; omega)
        rw [show (P ++ D[i] :: (D.drop (i + 1) ++ C))[i + 1]'(by simp; omega) = D.getD (i + 1) 0 by
          rw [List.getElem_append_right (by omega)]
          have : i + 1 - P.length = 0 + 1 := by omega
          simp only [this, List.getElem_cons_succ]
          rw [List.getElem_append_left (by simp; omega)]
          simp [hlast]] at hcell2
        have hn2 := hn1.set i (by simp; omega) (srD n D[i] (D.getD (i + 1) 0))
        rw [show (P ++ [D[i] / 2 ^ n] ++ (D.drop (i + 1) ++ C)).set i (srD n D[i] (D.getD (i + 1) 0)) = P ++ [srD n D[i] (D.getD (i + 1) 0)] ++ (D.drop (i + 1) ++ C) by
          rw [List.append_assoc, List.set_append_right _ _ (by omega), hPl, Nat.sub_self]; simp] at hn2
        rw [e2] at hor
        have hcell3 : (wr.setCell ⟨g, i, none⟩ (.int .u64 ((D[i] / 2 ^ n : Nat) : Int))).cell? ⟨g, i + 1, none⟩ = some (.int .u64 ((D.getD (i + 1) 0 : Nat) : Int)) := (World.cell?_setCell_other _ _ _ _ (by simp)).trans hcell2
        have hcell4 : (wr.setCell ⟨g, i, none⟩ (.int .u64 ((D[i] / 2 ^ n : Nat) : Int))).cell? ⟨g, i, none⟩ = some (.int .u64 ((D[i] / 2 ^ n : Nat) : Int)) := World.cell?_setCell_same _ _ _ hcell
        generalize D.getD (i + 1) 0 = z at *
        generalize hxq : D[i] / 2 ^ n = xq at *
        generalize D[i] = x at *
        have HN := Lib.hid hn2
        have HS := Lib.hid hstep
        have HPL := Lib.hid hPl
        clear hn1 hn2 hstep hlen hI hsplit set_ hdb1 hx hPl hxq
        go_wp2
        go_region
        all_goals go_wp2
        all_goals go_roundw
        case rel =>
          exact ⟨i + 1, _, by omega, by go_num, HS.out, HN.out, grown_trans hg1 (gdrew (grown_trans (grown_set _ g i _) (grown_set _ g i _)))⟩
        case measure => simp [intOf]; omega
      · have hz : D.getD (i + 1) 0 = 0 := by simp [hlast]
        have hsr : srD n D[i] 0 = D[i] / 2 ^ n := by unfold srD; simp
        rw [hz, hsr] at hstep
        have hn1 := hdb1.set i hlen (D[i] / 2 ^ n)
        rw [set_] at hn1
        generalize hxq : D[i] / 2 ^ n = xq at *
        generalize D[i] = x at *
        have HN := Lib.hid hn1
        have HS := Lib.hid hstep
        clear hn1 hstep hlen hI hsplit set_ hdb1 hx hPl hxq hz hsr
        go_wp2
        go_roundw
        case rel => exact ⟨i + 1, _, by omega, by go_num, HS.out, HN.out, grown_trans hg1 (grown_set _ g i _)⟩
        case measure => simp [intOf]; omega
    · have hik : i = D.length := by omega
      subst hik
      have hdone := hI.done
      rw [List.drop_length, List.nil_append] at hdb1
      have HE := Lib.hid hdone
      clear hdone hI
      go_wp2
      go_end0
      exact ⟨rfl, P, HE.out, hdb1, hg1⟩
end Go.Proofs.YthehcjfmokabfaaGreatDoor
