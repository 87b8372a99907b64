/-
  Layer 1, law A: Made.
-/
import Derived.Test.YthehcjfmokabfaaDoorWv
import Derived.Test.YthehcjfmokabfaaDoorWy
import Derived.Test.YthehcjfmokabfaaDoorWzb
set_option linter.unusedVariables false
set_option linter.unusedSimpArgs false
namespace Go.Proofs.YthehcjfmokabfaaDoor
open Go.RowKit
attribute [local irreducible] lo hs sm s64 c64 d64 b64 mh ml pd pc qd qc val hiB str cmpI srD lz nb isq decB

/-- The number with the given 32-bit words, the least first. -/
def made : List Nat → Nat
  | [] => 0
  | x :: l => x + 4294967296 * made l

theorem made_lt {l : List Nat} (h : ∀ x ∈ l, x < 4294967296) : made l < Bs ^ l.length := by
  induction l with
  | nil => exact Nat.one_pos
  | cons x l ih =>
    have h1 := ih fun y hy => h y (List.mem_cons_of_mem _ hy)
    have h2 := h x (List.mem_cons_self)
    rw [made, List.length_cons, Nat.pow_succ]
    have hB : 4294967296 * 2 ≤ Bs := by unfold Bs; omega
    have h3 : Bs ^ l.length * (4294967296 * 2) ≤ Bs ^ l.length * Bs := Nat.mul_le_mul_left _ hB
    generalize Bs ^ l.length = X at *
    generalize X * Bs = Y at *
    omega
theorem made_digs {l : List Nat} (h : ∀ x ∈ l, x < 4294967296) : (digs (made l)).length ≤ l.length := digs_length_iff.2 (made_lt h)

/-- A slice of 32-bit words. -/
structure Wd (w : World) (a : Addr) (l : List Nat) : Prop where
  lt : ∀ x ∈ l, x < 4294967296
  cell : ∀ (i : Nat) (h : i < l.length), w.cell? (a.add i) = some (.int .u32 ((l[i] : Nat) : Int))
  blk : a.block < w.heap.size
theorem Wd.below {w w' : World} {a : Addr} {l : List Nat} (h : Wd w a l) (hb : Below w.heap.size w w') : Wd w' a l :=
  ⟨h.lt, fun i hi => (hb.cell (p := a.add i) (by rw [show (a.add i).block = a.block from by unfold Addr.add; split <;> rfl]; exact h.blk)).trans (h.cell i hi), Nat.lt_of_lt_of_le h.blk hb.size⟩

theorem of_val (z : Int) (d : Nat) (hz : z = (d : Int)) (hd : d < Bs) (w : World) :
    Calls Tryd.prog 42 #[.int .u64 z] w fun e w' => e = .returned (natV d) ∧ Below w.heap.size w w' := by rw [hz]; exact of_any d hd w

/-- What Made's rounds keep. -/
structure MS (w w' : World) (a : Addr) (l : List Nat) (m : Nat) : Prop where
  O : Bx w' (w.heap.size + 1) (.int .u64 ((lo m : Nat) : Int)) (.string (hs m))
  R : Bx w' w.heap.size (.int .u64 0) (.string ⟨#[]⟩)
  W : Wd w' a l
  sz : w.heap.size + 2 ≤ w'.heap.size
  bl : Below w.heap.size w w'
theorem MS.below {w w' w'' : World} {a : Addr} {l : List Nat} {m : Nat} (h : MS w w' a l m) (hb : Below w'.heap.size w' w'') : MS w w'' a l m :=
  ⟨h.O.below hb (by have := h.sz; omega), h.R.below hb (by have := h.sz; omega), h.W.below hb, Nat.le_trans h.sz hb.size, h.bl.trans (hb.mono (by have := h.sz; omega))⟩
theorem MS.drew {w w' : World} {a : Addr} {l : List Nat} {m : Nat} (h : MS w w' a l m) : MS w w'.drew a l m := ⟨h.O, h.R, ⟨h.W.lt, h.W.cell, h.W.blk⟩, h.sz, h.bl.drew⟩
theorem MS.put {w w' : World} {a : Addr} {l : List Nat} {m : Nat} (h : MS w w' a l m) (ha : a.block < w.heap.size) (m' : Nat) :
    MS w ((w'.setCell ⟨w.heap.size + 1, 0, none⟩ (.int .u64 ((lo m' : Nat) : Int))).setCell ⟨w.heap.size + 1, 1, none⟩ (.string (hs m'))) a l m' := by
  have hb : Below (w.heap.size + 1) w' ((w'.setCell ⟨w.heap.size + 1, 0, none⟩ (.int .u64 ((lo m' : Nat) : Int))).setCell ⟨w.heap.size + 1, 1, none⟩ (.string (hs m'))) := ((Below.refl _ _).setCell (p := ⟨w.heap.size + 1, 0, none⟩) (Nat.le_refl _) _).setCell (p := ⟨w.heap.size + 1, 1, none⟩) (Nat.le_refl _) _
  refine ⟨put2 h.O _ _, h.R.below hb (by omega), ⟨h.W.lt, fun i hi => ?_, Nat.lt_of_lt_of_le h.W.blk hb.size⟩, Nat.le_trans h.sz hb.size, h.bl.trans (hb.mono (by omega))⟩
  exact (hb.cell (p := a.add i) (by rw [show (a.add i).block = a.block from by unfold Addr.add; split <;> rfl]; omega)).trans (h.W.cell i hi)
theorem MS.cells {w w' : World} {a : Addr} {l : List Nat} {m : Nat} (h : MS w w' a l m) (i x : Nat) (hi : i < l.length) (hx : x = l[i]) :
    w'.cell? ⟨w.heap.size + 1, 0, none⟩ = some (.int .u64 ((lo m : Nat) : Int)) ∧ w'.cell? ⟨w.heap.size + 1, 1, none⟩ = some (.string (hs m)) ∧ w'.cell? (a.add i) = some (.int .u32 (x : Int)) :=
  ⟨h.O.1, h.O.2.1, by rw [hx]; exact h.W.cell i hi⟩

set_option maxHeartbeats 2000000 in
set_option maxRecDepth 100000 in
theorem made_row (a : Addr) (c : Nat) (l : List Nat) (hl : l.length ≤ 1000) (w : World) (hw : Wd w a l) :
    Calls Tryd.prog 35 #[.slice (some a) l.length c] w fun e w' => e = .returned (natV (made l)) ∧ Below w.heap.size w w' := by
  obtain ⟨w0, hw0, hR, hO, hb0, hsz0⟩ := boxes2 w (.int .u64 0) (.string ⟨#[]⟩) (.int .u64 0) (.string ⟨#[]⟩) 25
  obtain ⟨n, hn⟩ : ∃ n, n = l.length := ⟨_, rfl⟩
  have hln := hl
  rw [← hn] at hl
  have hM0 : MS w w0 a l 0 := ⟨by rw [lo_small Bs_pos, hs_small Bs_pos]; exact hO, hR, hw.below hb0, hsz0, hb0⟩
  have hab := hw.blk
  have hlt := hw.lt
  clear hw hR hO hb0 hsz0
  go_enter Tryd.func35, Tryd.ntmps35
  simp only [← hn]
  have HNn := Lib.hid hn
  have hst : made (l.drop n) = 0 := by rw [List.drop_eq_nil_of_le (by omega)]; rfl
  replace hst := Lib.hid hst
  clear hn
  go_wp2_with fail
  go_loopw [4] (fun z wr => ∃ (j m : Nat), j ≤ n ∧ z = .int .i64 ((j : Int) - 1) ∧ m = made (l.drop j) ∧ MS w wr a l m) (fun z _ => (intOf z + 1).toNat)
  case atStart => exact ⟨n, 0, Nat.le_refl _, by first | rfl | go_num, hst.out.symm, hM0⟩
  case round =>
    obtain ⟨j, m, hj, rfl, hm, hS⟩ := hrel
    clear hw0 hM0
    have hn := HNn.out
    cases j with
    | zero =>
      rw [List.drop_zero] at hm
      have HM := Lib.hid hm
      obtain ⟨⟨o0, o1, of⟩, ⟨r0, r1, rf⟩, -, hsz, hB⟩ := id hS
      clear hm hS hn
      go_wp2_with fail
      exact bodyPost_ret (v := natV m) (by simp [results, Tryd.results35, go_sem, r0, r1]) rfl ⟨by rw [HM.out], (hB.setCell (by simp <;> omega) _).setCell (by simp <;> omega) _⟩
    | succ i =>
      have hi : i < l.length := by omega
      obtain ⟨x, hx⟩ : ∃ x, x = l[i] := ⟨_, rfl⟩
      have hx32 : x < 4294967296 := by rw [hx]; exact hlt _ (List.getElem_mem hi)
      have hlm : (digs m).length ≤ 1000 := by
        rw [hm]; exact Nat.le_trans (made_digs fun y hy => hlt y (List.mem_of_mem_drop hy)) (by rw [List.length_drop]; omega)
      have hmd : made (l.drop i) = m * 4294967296 + x := by
        rw [List.drop_eq_getElem_cons hi, made, ← hm, ← hx]; omega
      have hdm : ∀ k, (digs (made (l.drop k))).length ≤ 1000 := fun k => Nat.le_trans (made_digs fun y hy => hlt y (List.mem_of_mem_drop hy)) (by rw [List.length_drop]; omega)
      have hxB : x < Bs := by unfold Bs; omega
      have hlx : (digs x).length ≤ 1 := digs_length_iff.2 (by rw [Nat.pow_one]; exact hxB)
      obtain ⟨C, hC⟩ : ∃ C, C = 4294967296 := ⟨_, rfl⟩
      have hCB : C < Bs := by rw [hC]; unfold Bs; omega
      have hlC : (digs C).length ≤ 1 := digs_length_iff.2 (by rw [Nat.pow_one]; exact hCB)
      have HO1 := Lib.hid (fun w => of_val 4294967296 C (by rw [hC]; rfl) hCB w)
      have HO2 := Lib.hid (fun w => of_any x hxB w)
      have HM := Lib.hid (fun w => mul_any m C (by omega) (by omega) w)
      have hlmc : (digs (m * C)).length ≤ 1000 + 1 := digs_mul_le hlm hlC
      have HA := fun w => add_any (m * C) x (by omega) (by omega) w
      rw [show m * C + x = made (l.drop i) by rw [hmd, hC]] at HA
      obtain ⟨m2, hm2⟩ : ∃ m2, m2 = made (l.drop i) := ⟨_, rfl⟩
      rw [← hm2] at HA
      generalize m * C = mc at *
      replace HA := Lib.hid HA
      have HM2 := Lib.hid hm2
      have hS' := hS.drew
      have h0 := hS.cells i x hi hx
      have h0' := hS'.cells i x hi hx
      have HX := Lib.hid hx
      have e1 : (((i + 1 : Nat) : Int) - 1) = (i : Int) := by omega
      have hwx : IntKind.u64.wrap (x : Int) = (x : Int) := wrapN _ (by omega)
      have hin : (i : Int) < (n : Int) := by omega
      clear hn hx hm hm2 hmd hdm hlm hlmc hlx hlC hC hCB hxB hx32 hlt
      rw [e1]
      go_wp2_with fail
      obtain ⟨o0, o1, of⟩ := id hS'.O
      obtain ⟨g0, g1, g2⟩ := id h0'
      go_region_with
        (first
          | (go_at_call 42; ((with_reducible refine Calls.mono (HO1.out _) ?_); rintro e w1 ⟨rfl, hb1⟩; have hS1 : MS w w1 a l m := (by first | exact hS'.below hb1 | exact hS1.below hb1 | exact hS2.below hb1 | exact hS3.below hb1 | exact hS4.below hb1); obtain ⟨o01, o11, of1⟩ := id hS1.O; have h1 := (hS1.cells i x hi HX.out).2.2))
          | (go_at_call 42; ((with_reducible refine Calls.mono (HO2.out _) ?_); rintro e w2 ⟨rfl, hb2⟩; have hS2 : MS w w2 a l m := (by first | exact hS'.below hb2 | exact hS1.below hb2 | exact hS2.below hb2 | exact hS3.below hb2 | exact hS4.below hb2); obtain ⟨o02, o12, of2⟩ := id hS2.O; have h2 := (hS2.cells i x hi HX.out).2.2))
          | (go_at_call 39; ((with_reducible refine Calls.mono (HM.out _) ?_); rintro e w3 ⟨rfl, hb3⟩; have hS3 : MS w w3 a l m := (by first | exact hS'.below hb3 | exact hS1.below hb3 | exact hS2.below hb3 | exact hS3.below hb3 | exact hS4.below hb3); obtain ⟨o03, o13, of3⟩ := id hS3.O; have h3 := (hS3.cells i x hi HX.out).2.2))
          | (go_at_call 49; ((with_reducible refine Calls.mono (HA.out _) ?_); rintro e w4 ⟨rfl, hb4⟩; have hS4 : MS w w4 a l m := (by first | exact hS'.below hb4 | exact hS1.below hb4 | exact hS2.below hb4 | exact hS3.below hb4 | exact hS4.below hb4); obtain ⟨o04, o14, of4⟩ := id hS4.O; have h4 := (hS4.cells i x hi HX.out).2.2; have hS5 := hS4.put hab m2; have h5 := (hS5.cells i x hi HX.out).2.2)))
      all_goals (
        have HS5 := Lib.hid hS5
        clear hS5 h5 hS h0 h0' hS' o0 o1 of
        go_wp2_with fail
        go_roundw
        case rel => exact ⟨i, m2, by omega, by first | rfl | go_num, HM2.out, HS5.out⟩
        case measure => simp [intOf])

set_option maxHeartbeats 2000000 in
set_option maxRecDepth 100000 in
theorem made_nil (ao : Option Addr) (c : Nat) (w : World) :
    Calls Tryd.prog 35 #[.slice ao 0 c] w fun e w' => e = .returned (natV 0) ∧ Below w.heap.size w w' := by
  obtain ⟨w0, hw0, hR, hO, hb0, hsz0⟩ := boxes2 w (.int .u64 0) (.string ⟨#[]⟩) (.int .u64 0) (.string ⟨#[]⟩) 25
  obtain ⟨o0, o1, of⟩ := id hO
  obtain ⟨r0, r1, rf⟩ := id hR
  rw [natV_zero]
  go_enter Tryd.func35, Tryd.ntmps35
  go_wp2_with fail
  go_loopw [4] (fun z wr => z = .int .i64 (-1) ∧ wr = w0) (fun z _ => (intOf z + 1).toNat)
  case atStart => exact ⟨rfl, rfl⟩
  case round =>
    obtain ⟨rfl, rfl⟩ := hrel
    go_wp2_with fail
    exact bodyPost_ret (v := .agg #[.int .u64 0, .string ⟨#[]⟩]) (by simp [results, Tryd.results35, go_sem, r0, r1]) rfl ⟨rfl, (hb0.setCell (by simp <;> omega) _).setCell (by simp <;> omega) _⟩

/-- A slice of words, nil or not. -/
def Ws (w : World) (v : Value) (l : List Nat) : Prop := (∃ ao c, v = .slice ao 0 c ∧ l = []) ∨ ∃ a c, v = .slice (some a) l.length c ∧ Wd w a l
theorem Ws.below {w w' : World} {v : Value} {l : List Nat} (h : Ws w v l) (hb : Below w.heap.size w w') : Ws w' v l := by
  rcases h with h | ⟨a, c, h1, h2⟩
  · exact .inl h
  · exact .inr ⟨a, c, h1, h2.below hb⟩
theorem Ws.lt {w : World} {v : Value} {l : List Nat} (h : Ws w v l) : ∀ x ∈ l, x < 4294967296 := by
  rcases h with ⟨_, _, _, rfl⟩ | ⟨a, c, _, h2⟩
  · intro x hx; cases hx
  · exact h2.lt
theorem made_any (v : Value) (l : List Nat) (hl : l.length ≤ 1000) (w : World) (h : Ws w v l) :
    Calls Tryd.prog 35 #[v] w fun e w' => e = .returned (natV (made l)) ∧ Below w.heap.size w w' := by
  rcases h with ⟨ao, c, rfl, rfl⟩ | ⟨a, c, rfl, h2⟩
  · exact made_nil ao c w
  · exact made_row a c l hl w h2
end Go.Proofs.YthehcjfmokabfaaDoor
