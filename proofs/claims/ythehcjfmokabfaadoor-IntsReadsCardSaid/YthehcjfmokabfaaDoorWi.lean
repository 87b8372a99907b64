/-
  Layer 1, walks I: Add, Sub, Mul.
-/
import Derived.Test.YthehcjfmokabfaaDoorWh
import Derived.Deep.RegionHeld3
import Derived.Deep.RegionWith
import Derived.Deep.DeepMust
import Derived.Laws.CopyOwn
set_option linter.unusedVariables false
set_option linter.unusedSimpArgs false
namespace Go.Proofs.YthehcjfmokabfaaDoor
open Go.RowKit
attribute [local irreducible] lo hs sm s64 c64 d64 b64 mh ml pd pc qd qc val hiB str

/-- The world behind copy: digits X over the first places of D. -/
def cpW (w : World) (g : Nat) (l : List Nat) : World := w.setRow g (l.map u64V).toArray
theorem copy64 (w : World) (g c gs os cs : Nat) (A D C X : List Nat) (hx : X.length ≤ D.length) (hg : DB w g (A ++ D ++ C)) (hr : Rd w gs os X) (ty : TypeId) :
    (Builtin.copy_ #[81, 81] ty #[.slice (some ⟨g, A.length, none⟩) D.length c, .slice (some ⟨gs, os, none⟩) X.length cs]).run Tryd.prog w =
      .ok (goInt X.length) (cpW w g (A ++ (X ++ D.drop X.length) ++ C)) := by
  have h := run_copy_row (P := Tryd.prog) w 81 81 ty 23 g A.length D.length c ⟨gs, os, none⟩ X.length cs _ 23 (X.map u64V) Tryd.underlying81 (by kernel_rfl) hg
    (by simp [Nat.min_def]; omega) (fun j v hj => by
      rw [List.getElem?_map] at hj
      rcases Nat.lt_or_ge j X.length with hl | hl
      · rw [List.getElem?_eq_getElem hl] at hj
        have hadd : (⟨gs, os, none⟩ : Addr).add j = ⟨gs, os + j, none⟩ := by unfold Addr.add; split <;> simp_all
        rw [hadd, hr j hl]; simpa [u64V] using hj
      · rw [List.getElem?_eq_none hl] at hj; cases hj) (by simp; omega) (fun v hv => by
      obtain ⟨d, _, rfl⟩ := List.mem_map.1 hv
      rfl)
  rw [h, List.length_map]
  refine congrArg (fun r => Result.ok (goInt X.length) (w.setRow g r)) ?_
  have e : (List.map u64V (A ++ D ++ C)).toArray.toList = List.map u64V A ++ (List.map u64V D ++ List.map u64V C) := by simp
  rw [e, List.take_left' (by simp), ← List.drop_drop, List.drop_left' (by simp), List.drop_append_of_le_length (by simpa using hx)]
  simp
theorem DB.cp {w : World} {g : Nat} {l : List Nat} (h : DB w g l) (l' : List Nat) : DB (cpW w g l') g l' := setRow_heap w g _ _ _ _ h
theorem cp_grown (w : World) (g : Nat) (l : List Nat) : w.grownBy (cpW w g l) (some g) :=
  ⟨rfl, rfl, rfl, by unfold cpW; simp, fun k _ hne => setRow_other w g k _ (fun h => hne (by rw [h]))⟩
/-- The cells of a small struct of two. -/
def Bx (w : World) (B : Nat) (x y : Value) : Prop := w.cell? ⟨B, 0, none⟩ = some x ∧ w.cell? ⟨B, 1, none⟩ = some y ∧ ∀ j, w.frozen? ⟨B, j, none⟩ = false
theorem Bx.below {w w' : World} {B : Nat} {x y : Value} {k : Nat} (h : Bx w B x y) (hb : Below k w w') (hB : B < k) : Bx w' B x y :=
  ⟨(hb.cell (p := ⟨B, 0, none⟩) hB).trans h.1, (hb.cell (p := ⟨B, 1, none⟩) hB).trans h.2.1, fun j => (hb.frozen (p := ⟨B, j, none⟩) hB).trans (h.2.2 j)⟩
theorem Bx.of (w : World) (B : Nat) (x y : Value) (t : TypeId) (h : w.heap[B]? = some (.cells #[x, y] t (0, 0))) : Bx w B x y :=
  ⟨by rw [cell_of_row w B 0 _ _ _ h]; rfl, by rw [cell_of_row w B 1 _ _ _ h]; rfl, fun j => frozen_of_row w B j _ _ h⟩
theorem al1 (w : World) (A : Obj) : (w.alloc A).heap[w.heap.size]? = some A := heap_alloc_new w A
theorem al2 (w : World) (A B : Obj) : ((w.alloc A).alloc B).heap[w.heap.size + 1]? = some B := by
  have := heap_alloc_new (w.alloc A) B
  simpa using this
theorem al3 (w : World) (A B C : Obj) : (((w.alloc A).alloc B).alloc C).heap[w.heap.size + 2]? = some C := by
  have := heap_alloc_new ((w.alloc A).alloc B) C
  simpa using this
theorem al2_1 (w : World) (A B : Obj) : ((w.alloc A).alloc B).heap[w.heap.size]? = some A := (Below.heap_alloc _ _ _ (by simp)).trans (al1 w A)
theorem al3_1 (w : World) (A B C : Obj) : (((w.alloc A).alloc B).alloc C).heap[w.heap.size]? = some A := (Below.heap_alloc _ _ _ (by simp <;> omega)).trans (al2_1 w A B)
theorem al3_2 (w : World) (A B C : Obj) : (((w.alloc A).alloc B).alloc C).heap[w.heap.size + 1]? = some B := (Below.heap_alloc _ _ _ (by simp)).trans (al2 w A B)
theorem below1 (w : World) (A : Obj) : Below w.heap.size w (w.alloc A) := (Below.refl _ w).alloc (Nat.le_refl _) _
theorem below2 (w : World) (A B : Obj) : Below w.heap.size w ((w.alloc A).alloc B) := (below1 w A).alloc (by simp) _
theorem below3 (w : World) (A B C : Obj) : Below w.heap.size w (((w.alloc A).alloc B).alloc C) := (below2 w A B).alloc (by simp <;> omega) _

theorem c64_lt (a b : Nat) (ha : a < Bs) (hb : b < Bs) : c64 a b 0 < Bs := by have := c64_le (c := 0) ha hb (by omega); have := Bs_gt; omega
set_option maxHeartbeats 1000000 in
theorem add_small (a b : Nat) (ha : a < Bs) (hb : b < Bs) (w : World) :
    Calls Tryd.prog 49 #[natV a, natV b] w fun e w' => e = .returned (natV (a + b)) ∧ Below w.heap.size w w' := by
  have sa := sm_true.2 ha
  have sb := sm_true.2 hb
  have hadd := add64c (lo a) (lo b)
  have hv : s64 (lo a) (lo b) 0 + Bs * c64 (lo a) (lo b) 0 = a + b := by rw [s64_spec, lo_small ha, lo_small hb]; rfl
  have HT := Lib.hid (twoDigits_any (c64 (lo a) (lo b) 0) (s64 (lo a) (lo b) 0) (c64_lt _ _ (lo_lt a) (lo_lt b)) (s64_lt _ _ _))
  rw [hv] at HT
  clear hv
  go_enter Tryd.func49, Tryd.ntmps49
  go_wp2_with fail
  refine (small_any a _).mono ?_
  rintro e w1 ⟨rfl, hb1⟩
  obtain ⟨hc1, hf1⟩ := bcell hb1
  go_wp2_with fail
  refine (small_any b _).mono ?_
  rintro e w2 ⟨rfl, hb2⟩
  have hb12 := hb1.trans (hb2.mono hb1.size)
  obtain ⟨hc2, hf2⟩ := bcell hb12
  clear hc1 hf1
  go_wp2_with fail
  refine (HT.out _).mono ?_
  rintro e w3 ⟨rfl, hb3⟩
  have hb13 := hb12.trans (hb3.mono hb12.size)
  clear hc2 hf2
  have q : Bx w3 (w.heap.size + 2) (.int .u64 0) (.string ⟨#[]⟩) := Bx.below (Bx.of _ _ _ _ _ (al3 w _ _ _)) hb13 (by simp)
  obtain ⟨q0, q1, qf⟩ := q
  go_wp2
  exact bodyPost_ret (v := natV (a + b)) (by simp [results, Tryd.results49, go_sem, q0, q1]) rfl ⟨rfl, (((below3 w _ _ _).trans (hb13.mono (by simp <;> omega))).setCell (by simp <;> omega) _).setCell (by simp <;> omega) _⟩

theorem DB.rdl {w : World} {g : Nat} {l z : List Nat} (h : DB w g (l ++ z)) : Rd w g 0 l := by
  have := h.rd 0 l.length
  rwa [List.drop_zero, List.take_left'] at this
  rfl
theorem drop_zeros (n : Nat) : (List.replicate (n + 1) 0).drop n = [(0 : Nat)] := by rw [List.drop_replicate]; simp
theorem sum_lt (a b : Nat) (h : (digs b).length ≤ (digs a).length) : a + b < Bs ^ ((digs a).length + 1) := by
  have h1 := lt_pow_digs a
  have h2 := Nat.lt_of_lt_of_le (lt_pow_digs b) (Nat.pow_le_pow_right Bs_pos h)
  have h3 := Bs_gt
  rw [Nat.pow_succ]
  have : Bs ^ (digs a).length * 2 ≤ Bs ^ (digs a).length * Bs := Nat.mul_le_mul_left _ h3
  omega
set_option maxHeartbeats 4000000 in
set_option maxRecDepth 100000 in
theorem add_bigA (a b : Nat) (ha : Bs ≤ a) (hla : (digs a).length ≤ 1099511627000) (hlb : (digs b).length ≤ 1099511627000) (w : World) :
    Calls Tryd.prog 49 #[natV a, natV b] w fun e w' => e = .returned (natV (a + b)) ∧ Below w.heap.size w w' := by
  have sa := sm_false.2 ha
  have hla' : (digs a).length ≤ 1099511627776 := by omega
  have hlb' : (digs b).length ≤ 1099511627776 := by omega
  go_enter Tryd.func49, Tryd.ntmps49
  go_wp2_with fail
  refine (small_any a _).mono ?_
  rintro e w1 ⟨rfl, hb1⟩
  obtain ⟨a0, a1, af⟩ := (Bx.of _ _ _ _ _ (al3_1 w _ _ _)).below hb1 (by simp <;> omega)
  obtain ⟨b0, b1, bf⟩ := (Bx.of _ _ _ _ _ (al3_2 w _ _ _)).below hb1 (by simp <;> omega)
  obtain ⟨r0, r1, rf⟩ := (Bx.of _ _ _ _ _ (al3 w _ _ _)).below hb1 (by simp)
  have hbw := (below3 w _ _ _).trans (hb1.mono (by simp <;> omega))
  have hs1 : w.heap.size + 3 ≤ w1.heap.size := by have := hb1.size; simp at this; omega
  clear hb1
  go_wp2_with fail
  have hlt : 1 ≤ 1 := Nat.le_refl _
  go_region_held3 (fun w' => w'.cell? ⟨w.heap.size, 0, none⟩ = some (.int .u64 ((lo a : Nat) : Int)) ∧ w'.cell? ⟨w.heap.size, 1, none⟩ = some (.string (hs a)) ∧ w'.cell? ⟨w.heap.size + 1, 0, none⟩ = some (.int .u64 ((lo b : Nat) : Int)) ∧ w'.cell? ⟨w.heap.size + 1, 1, none⟩ = some (.string (hs b)))
    (first | exact ⟨a0, a1, b0, b1⟩ | exact ⟨a0', a1', b0', b1'⟩ | exact ⟨a0'', a1'', b0'', b1''⟩)
    (first
      | (go_at_call 44; ((with_reducible refine Calls.mono (digits_any a hla' _) ?_); rintro e w2 ⟨gx, cx, zx, rfl, hcx, hgx, hdx, hb2⟩; obtain ⟨a0', a1', af'⟩ := Bx.below (w := w1.drew) ⟨a0, a1, af⟩ hb2 (by simp <;> omega); obtain ⟨b0', b1', bf'⟩ := Bx.below (w := w1.drew) ⟨b0, b1, bf⟩ hb2 (by simp <;> omega)))
      | (go_at_call 44; ((with_reducible refine Calls.mono (digits_any b hlb' _) ?_); rintro e w3 ⟨gy, cy, zy, rfl, hcy, hgy, hdy, hb3⟩; obtain ⟨a0'', a1'', af''⟩ := Bx.below (w := w2) ⟨a0', a1', af'⟩ hb3 (by have := hb2.size; simp at this; omega); obtain ⟨b0'', b1'', bf''⟩ := Bx.below (w := w2) ⟨b0', b1', bf'⟩ hb3 (by have := hb2.size; simp at this; omega))))
  have dx3 : DB w3 gx (digs a ++ List.replicate zx 0) := hdx.below hb3 hdx.lt
  have hB3 : Below w1.heap.size w1 w3 := (((Below.refl w1.heap.size w1).drew).trans hb2).trans (hb3.mono hb2.size)
  have dy3 := hdy
  have hz3 := hB3.size
  clear a0' a1' af' b0' b1' bf' a0'' a1'' af'' b0'' b1'' bf'' a0 a1 af b0 b1 bf hdx hdy hb2 hb3 hgx hgy
  by_cases hxy : (digs a).length < (digs b).length
  · have HAB := Lib.hid (Nat.add_comm b a)
    have hmk : ∀ w, (Instr.makeSlice 81 (.int .i64 (((digs b).length : Int) + 1)) (.int .i64 (((digs b).length : Int) + 1))).run Tryd.prog w = .ok (.slice (some ⟨w.heap.size, 0, none⟩) ((digs b).length + 1) ((digs b).length + 1)) (w.alloc (zobj ((digs b).length + 1))) :=
      fun w => make64 w _ ((digs b).length + 1) (by omega) (by omega)
    have hrx : Rd (w3.alloc (zobj ((digs b).length + 1))) gy 0 (digs b) := (dy3.alloc _).rdl
    have hcp := fun ty => copy64 (w3.alloc (zobj ((digs b).length + 1))) w3.heap.size ((digs b).length + 1) gy 0 cy [] (List.replicate ((digs b).length + 1) 0) [] (digs b) (by simp) (by simpa using DB.zeros w3 ((digs b).length + 1)) hrx ty
    rw [drop_zeros] at hcp
    simp only [List.length_nil, List.length_replicate, List.nil_append, List.append_nil] at hcp
    have hA := addTo_any w3.heap.size gx 0 ((digs b).length + 1) cx [] (digs b ++ [0]) [] (digs a) ((digs_dig b).app (Dig.cons Bs_pos Dig.nil)) (digs_dig a) (by rw [List.length_append, List.length_singleton]; omega) (by rw [List.length_append, List.length_singleton]; omega) (by have := dx3.lt; omega)
      (cpW (w3.alloc (zobj ((digs b).length + 1))) w3.heap.size (digs b ++ [0])) (by simpa using (DB.zeros w3 ((digs b).length + 1)).cp (digs b ++ [0])) (by have := dx3.lt; unfold cpW; simp; omega) (((dx3.alloc (zobj ((digs b).length + 1))).keep (setRow_other _ _ _ _ (by have := dx3.lt; omega))).rdl)
    simp only [List.length_nil, List.length_append, List.length_singleton, List.nil_append, List.append_nil, val_snoc, val_digs, Nat.mul_zero, Nat.add_zero] at hA
    rw [Nat.mod_eq_of_lt (sum_lt b a (by omega))] at hA
    have HA := Lib.hid hA
    clear hA
    go_wp2_with fail
    refine HA.out.mono ?_
    rintro e w5 ⟨rfl, D', ⟨hDl, hDd, hDv⟩, hdb5, hg5⟩
    have hB5 : Below w1.heap.size w1 w5 := ((hB3.alloc hB3.size _).trans (grown_below (cp_grown _ w3.heap.size _) hB3.size (by simp; have := hB3.size; omega))).trans (grown_below hg5 hB3.size (by unfold cpW; simp; have := hB3.size; omega))
    have hP := pack_any w3.heap.size 0 ((digs b).length + 1) D' hDd (by omega) (by omega) w5 hdb5.lt hdb5.rd0
    rw [hDl, hDv] at hP
    have HP := Lib.hid hP
    clear hP hDl hDv
    go_wp2_with fail
    refine HP.out.mono ?_
    rintro e w6 ⟨rfl, hb6⟩
    have hB6 := hB5.trans (hb6.mono hB5.size)
    obtain ⟨r0', r1', rf'⟩ := Bx.below ⟨r0, r1, rf⟩ hB6 (by omega)
    go_wp2
    exact bodyPost_ret (v := natV (b + a)) (by simp [results, Tryd.results49, go_sem, r0', r1']) rfl ⟨congrArg (fun n => Ending.returned (natV n)) HAB.out, ((hbw.trans (hB6.mono (by omega))).setCell (by simp <;> omega) _).setCell (by simp <;> omega) _⟩
  · skip
    have hmk : ∀ w, (Instr.makeSlice 81 (.int .i64 (((digs a).length : Int) + 1)) (.int .i64 (((digs a).length : Int) + 1))).run Tryd.prog w = .ok (.slice (some ⟨w.heap.size, 0, none⟩) ((digs a).length + 1) ((digs a).length + 1)) (w.alloc (zobj ((digs a).length + 1))) :=
      fun w => make64 w _ ((digs a).length + 1) (by omega) (by omega)
    have hrx : Rd (w3.alloc (zobj ((digs a).length + 1))) gx 0 (digs a) := (dx3.alloc _).rdl
    have hcp := fun ty => copy64 (w3.alloc (zobj ((digs a).length + 1))) w3.heap.size ((digs a).length + 1) gx 0 cx [] (List.replicate ((digs a).length + 1) 0) [] (digs a) (by simp) (by simpa using DB.zeros w3 ((digs a).length + 1)) hrx ty
    rw [drop_zeros] at hcp
    simp only [List.length_nil, List.length_replicate, List.nil_append, List.append_nil] at hcp
    have hA := addTo_any w3.heap.size gy 0 ((digs a).length + 1) cy [] (digs a ++ [0]) [] (digs b) ((digs_dig a).app (Dig.cons Bs_pos Dig.nil)) (digs_dig b) (by rw [List.length_append, List.length_singleton]; omega) (by rw [List.length_append, List.length_singleton]; omega) (by have := dy3.lt; omega)
      (cpW (w3.alloc (zobj ((digs a).length + 1))) w3.heap.size (digs a ++ [0])) (by simpa using (DB.zeros w3 ((digs a).length + 1)).cp (digs a ++ [0])) (by have := dy3.lt; unfold cpW; simp; omega) (((dy3.alloc (zobj ((digs a).length + 1))).keep (setRow_other _ _ _ _ (by have := dy3.lt; omega))).rdl)
    simp only [List.length_nil, List.length_append, List.length_singleton, List.nil_append, List.append_nil, val_snoc, val_digs, Nat.mul_zero, Nat.add_zero] at hA
    rw [Nat.mod_eq_of_lt (sum_lt a b (by omega))] at hA
    have HA := Lib.hid hA
    clear hA
    go_wp2_with fail
    refine HA.out.mono ?_
    rintro e w5 ⟨rfl, D', ⟨hDl, hDd, hDv⟩, hdb5, hg5⟩
    have hB5 : Below w1.heap.size w1 w5 := ((hB3.alloc hB3.size _).trans (grown_below (cp_grown _ w3.heap.size _) hB3.size (by simp; have := hB3.size; omega))).trans (grown_below hg5 hB3.size (by unfold cpW; simp; have := hB3.size; omega))
    have hP := pack_any w3.heap.size 0 ((digs a).length + 1) D' hDd (by omega) (by omega) w5 hdb5.lt hdb5.rd0
    rw [hDl, hDv] at hP
    have HP := Lib.hid hP
    clear hP hDl hDv
    go_wp2_with fail
    refine HP.out.mono ?_
    rintro e w6 ⟨rfl, hb6⟩
    have hB6 := hB5.trans (hb6.mono hB5.size)
    obtain ⟨r0', r1', rf'⟩ := Bx.below ⟨r0, r1, rf⟩ hB6 (by omega)
    go_wp2
    exact bodyPost_ret (v := natV (a + b)) (by simp [results, Tryd.results49, go_sem, r0', r1']) rfl ⟨rfl, ((hbw.trans (hB6.mono (by omega))).setCell (by simp <;> omega) _).setCell (by simp <;> omega) _⟩
set_option maxHeartbeats 4000000 in
set_option maxRecDepth 100000 in
theorem add_bigB (a b : Nat) (ha : a < Bs) (hb : Bs ≤ b) (hla : (digs a).length ≤ 1099511627000) (hlb : (digs b).length ≤ 1099511627000) (w : World) :
    Calls Tryd.prog 49 #[natV a, natV b] w fun e w' => e = .returned (natV (a + b)) ∧ Below w.heap.size w w' := by
  have sa := sm_true.2 ha
  have sb := sm_false.2 hb
  have hla' : (digs a).length ≤ 1099511627776 := by omega
  have hlb' : (digs b).length ≤ 1099511627776 := by omega
  go_enter Tryd.func49, Tryd.ntmps49
  go_wp2_with fail
  refine (small_any a _).mono ?_
  rintro e w0 ⟨rfl, hb0⟩
  obtain ⟨hc0, hf0⟩ := bcell hb0
  go_wp2_with fail
  refine (small_any b _).mono ?_
  rintro e w1 ⟨rfl, hb01⟩
  have hb1 := hb0.trans (hb01.mono hb0.size)
  obtain ⟨a0, a1, af⟩ := (Bx.of _ _ _ _ _ (al3_1 w _ _ _)).below hb1 (by simp <;> omega)
  obtain ⟨b0, b1, bf⟩ := (Bx.of _ _ _ _ _ (al3_2 w _ _ _)).below hb1 (by simp <;> omega)
  obtain ⟨r0, r1, rf⟩ := (Bx.of _ _ _ _ _ (al3 w _ _ _)).below hb1 (by simp)
  have hbw := (below3 w _ _ _).trans (hb1.mono (by simp <;> omega))
  have hs1 : w.heap.size + 3 ≤ w1.heap.size := by have := hb1.size; simp at this; omega
  clear hb1 hb0 hb01 hc0 hf0
  go_wp2_with fail
  have hlt : 1 ≤ 1 := Nat.le_refl _
  go_region_held3 (fun w' => w'.cell? ⟨w.heap.size, 0, none⟩ = some (.int .u64 ((lo a : Nat) : Int)) ∧ w'.cell? ⟨w.heap.size, 1, none⟩ = some (.string (hs a)) ∧ w'.cell? ⟨w.heap.size + 1, 0, none⟩ = some (.int .u64 ((lo b : Nat) : Int)) ∧ w'.cell? ⟨w.heap.size + 1, 1, none⟩ = some (.string (hs b)))
    (first | exact ⟨a0, a1, b0, b1⟩ | exact ⟨a0', a1', b0', b1'⟩ | exact ⟨a0'', a1'', b0'', b1''⟩)
    (first
      | (go_at_call 44; ((with_reducible refine Calls.mono (digits_any a hla' _) ?_); rintro e w2 ⟨gx, cx, zx, rfl, hcx, hgx, hdx, hb2⟩; obtain ⟨a0', a1', af'⟩ := Bx.below (w := w1.drew) ⟨a0, a1, af⟩ hb2 (by simp <;> omega); obtain ⟨b0', b1', bf'⟩ := Bx.below (w := w1.drew) ⟨b0, b1, bf⟩ hb2 (by simp <;> omega)))
      | (go_at_call 44; ((with_reducible refine Calls.mono (digits_any b hlb' _) ?_); rintro e w3 ⟨gy, cy, zy, rfl, hcy, hgy, hdy, hb3⟩; obtain ⟨a0'', a1'', af''⟩ := Bx.below (w := w2) ⟨a0', a1', af'⟩ hb3 (by have := hb2.size; simp at this; omega); obtain ⟨b0'', b1'', bf''⟩ := Bx.below (w := w2) ⟨b0', b1', bf'⟩ hb3 (by have := hb2.size; simp at this; omega))))
  have dx3 : DB w3 gx (digs a ++ List.replicate zx 0) := hdx.below hb3 hdx.lt
  have hB3 : Below w1.heap.size w1 w3 := (((Below.refl w1.heap.size w1).drew).trans hb2).trans (hb3.mono hb2.size)
  have dy3 := hdy
  have hz3 := hB3.size
  clear a0' a1' af' b0' b1' bf' a0'' a1'' af'' b0'' b1'' bf'' a0 a1 af b0 b1 bf hdx hdy hb2 hb3 hgx hgy
  by_cases hxy : (digs a).length < (digs b).length
  · have HAB := Lib.hid (Nat.add_comm b a)
    have hmk : ∀ w, (Instr.makeSlice 81 (.int .i64 (((digs b).length : Int) + 1)) (.int .i64 (((digs b).length : Int) + 1))).run Tryd.prog w = .ok (.slice (some ⟨w.heap.size, 0, none⟩) ((digs b).length + 1) ((digs b).length + 1)) (w.alloc (zobj ((digs b).length + 1))) :=
      fun w => make64 w _ ((digs b).length + 1) (by omega) (by omega)
    have hrx : Rd (w3.alloc (zobj ((digs b).length + 1))) gy 0 (digs b) := (dy3.alloc _).rdl
    have hcp := fun ty => copy64 (w3.alloc (zobj ((digs b).length + 1))) w3.heap.size ((digs b).length + 1) gy 0 cy [] (List.replicate ((digs b).length + 1) 0) [] (digs b) (by simp) (by simpa using DB.zeros w3 ((digs b).length + 1)) hrx ty
    rw [drop_zeros] at hcp
    simp only [List.length_nil, List.length_replicate, List.nil_append, List.append_nil] at hcp
    have hA := addTo_any w3.heap.size gx 0 ((digs b).length + 1) cx [] (digs b ++ [0]) [] (digs a) ((digs_dig b).app (Dig.cons Bs_pos Dig.nil)) (digs_dig a) (by rw [List.length_append, List.length_singleton]; omega) (by rw [List.length_append, List.length_singleton]; omega) (by have := dx3.lt; omega)
      (cpW (w3.alloc (zobj ((digs b).length + 1))) w3.heap.size (digs b ++ [0])) (by simpa using (DB.zeros w3 ((digs b).length + 1)).cp (digs b ++ [0])) (by have := dx3.lt; unfold cpW; simp; omega) (((dx3.alloc (zobj ((digs b).length + 1))).keep (setRow_other _ _ _ _ (by have := dx3.lt; omega))).rdl)
    simp only [List.length_nil, List.length_append, List.length_singleton, List.nil_append, List.append_nil, val_snoc, val_digs, Nat.mul_zero, Nat.add_zero] at hA
    rw [Nat.mod_eq_of_lt (sum_lt b a (by omega))] at hA
    have HA := Lib.hid hA
    clear hA
    go_wp2_with fail
    refine HA.out.mono ?_
    rintro e w5 ⟨rfl, D', ⟨hDl, hDd, hDv⟩, hdb5, hg5⟩
    have hB5 : Below w1.heap.size w1 w5 := ((hB3.alloc hB3.size _).trans (grown_below (cp_grown _ w3.heap.size _) hB3.size (by simp; have := hB3.size; omega))).trans (grown_below hg5 hB3.size (by unfold cpW; simp; have := hB3.size; omega))
    have hP := pack_any w3.heap.size 0 ((digs b).length + 1) D' hDd (by omega) (by omega) w5 hdb5.lt hdb5.rd0
    rw [hDl, hDv] at hP
    have HP := Lib.hid hP
    clear hP hDl hDv
    go_wp2_with fail
    refine HP.out.mono ?_
    rintro e w6 ⟨rfl, hb6⟩
    have hB6 := hB5.trans (hb6.mono hB5.size)
    obtain ⟨r0', r1', rf'⟩ := Bx.below ⟨r0, r1, rf⟩ hB6 (by omega)
    go_wp2
    exact bodyPost_ret (v := natV (b + a)) (by simp [results, Tryd.results49, go_sem, r0', r1']) rfl ⟨congrArg (fun n => Ending.returned (natV n)) HAB.out, ((hbw.trans (hB6.mono (by omega))).setCell (by simp <;> omega) _).setCell (by simp <;> omega) _⟩
  · skip
    have hmk : ∀ w, (Instr.makeSlice 81 (.int .i64 (((digs a).length : Int) + 1)) (.int .i64 (((digs a).length : Int) + 1))).run Tryd.prog w = .ok (.slice (some ⟨w.heap.size, 0, none⟩) ((digs a).length + 1) ((digs a).length + 1)) (w.alloc (zobj ((digs a).length + 1))) :=
      fun w => make64 w _ ((digs a).length + 1) (by omega) (by omega)
    have hrx : Rd (w3.alloc (zobj ((digs a).length + 1))) gx 0 (digs a) := (dx3.alloc _).rdl
    have hcp := fun ty => copy64 (w3.alloc (zobj ((digs a).length + 1))) w3.heap.size ((digs a).length + 1) gx 0 cx [] (List.replicate ((digs a).length + 1) 0) [] (digs a) (by simp) (by simpa using DB.zeros w3 ((digs a).length + 1)) hrx ty
    rw [drop_zeros] at hcp
    simp only [List.length_nil, List.length_replicate, List.nil_append, List.append_nil] at hcp
    have hA := addTo_any w3.heap.size gy 0 ((digs a).length + 1) cy [] (digs a ++ [0]) [] (digs b) ((digs_dig a).app (Dig.cons Bs_pos Dig.nil)) (digs_dig b) (by rw [List.length_append, List.length_singleton]; omega) (by rw [List.length_append, List.length_singleton]; omega) (by have := dy3.lt; omega)
      (cpW (w3.alloc (zobj ((digs a).length + 1))) w3.heap.size (digs a ++ [0])) (by simpa using (DB.zeros w3 ((digs a).length + 1)).cp (digs a ++ [0])) (by have := dy3.lt; unfold cpW; simp; omega) (((dy3.alloc (zobj ((digs a).length + 1))).keep (setRow_other _ _ _ _ (by have := dy3.lt; omega))).rdl)
    simp only [List.length_nil, List.length_append, List.length_singleton, List.nil_append, List.append_nil, val_snoc, val_digs, Nat.mul_zero, Nat.add_zero] at hA
    rw [Nat.mod_eq_of_lt (sum_lt a b (by omega))] at hA
    have HA := Lib.hid hA
    clear hA
    go_wp2_with fail
    refine HA.out.mono ?_
    rintro e w5 ⟨rfl, D', ⟨hDl, hDd, hDv⟩, hdb5, hg5⟩
    have hB5 : Below w1.heap.size w1 w5 := ((hB3.alloc hB3.size _).trans (grown_below (cp_grown _ w3.heap.size _) hB3.size (by simp; have := hB3.size; omega))).trans (grown_below hg5 hB3.size (by unfold cpW; simp; have := hB3.size; omega))
    have hP := pack_any w3.heap.size 0 ((digs a).length + 1) D' hDd (by omega) (by omega) w5 hdb5.lt hdb5.rd0
    rw [hDl, hDv] at hP
    have HP := Lib.hid hP
    clear hP hDl hDv
    go_wp2_with fail
    refine HP.out.mono ?_
    rintro e w6 ⟨rfl, hb6⟩
    have hB6 := hB5.trans (hb6.mono hB5.size)
    obtain ⟨r0', r1', rf'⟩ := Bx.below ⟨r0, r1, rf⟩ hB6 (by omega)
    go_wp2
    exact bodyPost_ret (v := natV (a + b)) (by simp [results, Tryd.results49, go_sem, r0', r1']) rfl ⟨rfl, ((hbw.trans (hB6.mono (by omega))).setCell (by simp <;> omega) _).setCell (by simp <;> omega) _⟩

theorem add_any (a b : Nat) (hla : (digs a).length ≤ 1099511627000) (hlb : (digs b).length ≤ 1099511627000) (w : World) :
    Calls Tryd.prog 49 #[natV a, natV b] w fun e w' => e = .returned (natV (a + b)) ∧ Below w.heap.size w w' := by
  rcases Nat.lt_or_ge a Bs with ha | ha
  · rcases Nat.lt_or_ge b Bs with hb | hb
    · exact add_small a b ha hb w
    · exact add_bigB a b ha hb hla hlb w
  · exact add_bigA a b ha hla hlb w

theorem sub_lt (a b : Nat) (h : a < b) (w : World) :
    Calls Tryd.prog 50 #[natV a, natV b] w fun e w' => e = .returned (.tuple #[natV 0, .bool false]) ∧ Below w.heap.size w w' := by
  have hc := cmpI_lt h
  rw [natV_zero]
  go_enter Tryd.func50, Tryd.ntmps50
  go_wp2_with fail
  refine (cmp_any a b _).mono ?_
  rintro e w1 ⟨rfl, hb1⟩
  obtain ⟨r0, r1, rf⟩ := (Bx.of _ _ _ _ _ (al3 w _ _ _)).below hb1 (by simp)
  have hbw := (below3 w _ _ _).trans (hb1.mono (by simp <;> omega))
  have hs1 : w.heap.size + 3 ≤ w1.heap.size := by have := hb1.size; simp at this; omega
  clear hb1
  go_wp2
  exact bodyPost_ret (v := .tuple #[.agg #[.int .u64 0, .string ⟨#[]⟩], .bool false]) (by simp [results, Tryd.results50, go_sem, r0, r1]) rfl ⟨rfl, (hbw.setCell (by simp <;> omega) _).setCell (by simp <;> omega) _⟩

set_option maxHeartbeats 1000000 in
set_option maxRecDepth 100000 in
theorem sub_ge (a b : Nat) (h : b ≤ a) (hla : (digs a).length ≤ 1099511627776) (w : World) :
    Calls Tryd.prog 50 #[natV a, natV b] w fun e w' => e = .returned (.tuple #[natV (a - b), .bool true]) ∧ Below w.heap.size w w' := by
  have hc : 0 ≤ cmpI a b := by unfold cmpI; rw [if_neg (by omega)]; split <;> omega
  have hdl : (digs b).length ≤ (digs a).length := Nat.le_of_not_lt fun hh => by have := lt_of_digs hh; omega
  have hlb : (digs b).length ≤ 1099511627776 := by omega
  rcases Nat.lt_or_ge a Bs with ha | ha
  · have sa := sm_true.2 ha
    have hlo : lo b ≤ lo a := by rw [lo_small ha, lo_small (by omega)]; exact h
    have hbd := lo_bd a
    have hO : ∀ w, Calls Tryd.prog 42 #[.int .u64 (((lo a : Nat) : Int) - ((lo b : Nat) : Int))] w fun e w' => e = .returned (natV (a - b)) ∧ Below w.heap.size w w' := fun w => by
      have e : ((lo a : Nat) : Int) - ((lo b : Nat) : Int) = ((a - b : Nat) : Int) := by rw [lo_small ha, lo_small (by omega)]; omega
      rw [e]; exact of_any (a - b) (by omega) w
    have HO := Lib.hid hO
    clear hO h hdl
    go_enter Tryd.func50, Tryd.ntmps50
    go_wp2_with fail
    refine (cmp_any a b _).mono ?_
    rintro e w0 ⟨rfl, hb0⟩
    obtain ⟨hc0, hf0⟩ := bcell hb0
    go_wp2_with fail
    refine (small_any a _).mono ?_
    rintro e w1 ⟨rfl, hb01⟩
    have hb1 := hb0.trans (hb01.mono hb0.size)
    obtain ⟨a0, a1, af⟩ := (Bx.of _ _ _ _ _ (al3_1 w _ _ _)).below hb1 (by simp <;> omega)
    obtain ⟨b0, b1, bf⟩ := (Bx.of _ _ _ _ _ (al3_2 w _ _ _)).below hb1 (by simp <;> omega)
    clear hc0 hf0 hb0 hb01
    go_wp2_with fail
    refine (HO.out _).mono ?_
    rintro e w2 ⟨rfl, hb12⟩
    have hb2 := hb1.trans (hb12.mono hb1.size)
    obtain ⟨r0, r1, rf⟩ := (Bx.of _ _ _ _ _ (al3 w _ _ _)).below hb2 (by simp)
    have hbw := (below3 w _ _ _).trans (hb2.mono (by simp <;> omega))
    clear hb1 hb12 hb2
    go_wp2
    exact bodyPost_ret (v := .tuple #[natV (a - b), .bool true]) (by simp [results, Tryd.results50, go_sem, r0, r1]) rfl ⟨rfl, (hbw.setCell (by simp <;> omega) _).setCell (by simp <;> omega) _⟩
  · have sa := sm_false.2 ha
    go_enter Tryd.func50, Tryd.ntmps50
    go_wp2_with fail
    refine (cmp_any a b _).mono ?_
    rintro e w0 ⟨rfl, hb0⟩
    obtain ⟨hc0, hf0⟩ := bcell hb0
    go_wp2_with fail
    refine (small_any a _).mono ?_
    rintro e w1 ⟨rfl, hb01⟩
    have hb1 := hb0.trans (hb01.mono hb0.size)
    obtain ⟨a0, a1, af⟩ := (Bx.of _ _ _ _ _ (al3_1 w _ _ _)).below hb1 (by simp <;> omega)
    obtain ⟨b0, b1, bf⟩ := (Bx.of _ _ _ _ _ (al3_2 w _ _ _)).below hb1 (by simp <;> omega)
    obtain ⟨r0, r1, rf⟩ := (Bx.of _ _ _ _ _ (al3 w _ _ _)).below hb1 (by simp)
    have hbw := (below3 w _ _ _).trans (hb1.mono (by simp <;> omega))
    have hs1 : w.heap.size + 3 ≤ w1.heap.size := by have := hb1.size; simp at this; omega
    clear hc0 hf0 hb0 hb01 hb1
    go_wp2_with fail
    refine (digits_any a hla _).mono ?_
    rintro e w2 ⟨gx, cx, zx, rfl, hcx, hgx, hdx, hb2⟩
    obtain ⟨b0', b1', bf'⟩ := Bx.below ⟨b0, b1, bf⟩ hb2 (by omega)
    clear b0 b1 bf
    go_wp2_with fail
    refine (digits_any b hlb _).mono ?_
    rintro e w3 ⟨gy, cy, zy, rfl, hcy, hgy, hdy, hb3⟩
    have hB3 := hb2.trans (hb3.mono hb2.size)
    have dx3 : DB w3 gx (digs a ++ List.replicate zx 0) := hdx.below hb3 hdx.lt
    have hxl := hdx.lt
    have hT := takeFrom_any gx gy 0 cx cy [] (digs a) (List.replicate zx 0) (digs b) (digs_dig a) (digs_dig b) hdl (by omega) (by omega) w3 dx3 hdy.lt hdy.rdl (by rw [val_digs, val_digs]; exact h)
    simp only [List.length_nil, List.nil_append, val_digs] at hT
    have HT := Lib.hid hT
    clear hT hdx b0' b1' bf' a0 a1 af hb2
    go_wp2_with fail
    refine HT.out.mono ?_
    rintro e w4 ⟨rfl, D', ⟨hDl, hDd, hDv⟩, hdb4, hg4⟩
    have hB4 : Below w1.heap.size w1 w4 := hB3.trans (grown_below hg4 (by omega) hB3.size)
    have hDv' : val D' = a - b := by omega
    have hP := pack_any gx 0 cx D' hDd (by omega) (by omega) w4 hdb4.lt hdb4.rdl
    rw [hDl, hDv'] at hP
    have HP := Lib.hid hP
    clear hP hDl hDv hDv'
    go_wp2_with fail
    refine HP.out.mono ?_
    rintro e w5 ⟨rfl, hb5⟩
    have hB5 := hB4.trans (hb5.mono hB4.size)
    obtain ⟨r0', r1', rf'⟩ := Bx.below ⟨r0, r1, rf⟩ hB5 (by omega)
    go_wp2
    exact bodyPost_ret (v := .tuple #[natV (a - b), .bool true]) (by simp [results, Tryd.results50, go_sem, r0', r1']) rfl ⟨rfl, ((hbw.trans (hB5.mono (by omega))).setCell (by simp <;> omega) _).setCell (by simp <;> omega) _⟩
end Go.Proofs.YthehcjfmokabfaaDoor
