/-
  Layer 1, law A: Made.
-/
import Derived.Test.YthehcjfmokabfaaGreatDoorZb
import Derived.BigQuiet
import Derived.Below
import Derived.Laws.Rows
import Derived.Test.YthehcjfmokabfaaGreatDoorZa
import Derived.Still
import Derived.Deep.Quiet
import Derived.Deep.RegionHeld3
set_option linter.unusedVariables false
set_option linter.unusedSimpArgs false
namespace Go.Proofs.YthehcjfmokabfaaGreatDoor
open Go.RowKit
attribute [local irreducible] lo hs sm s64 c64 d64 b64 mh ml pd pc qd qc val hiB str cmpI srD lz nb isq decB

/-- The number with the given 32-bit words, the least first. -/
def made : List Nat → Nat
  | [] => 0
  | x :: l => x + 4294967296 * made l

theorem made_lt {l : List Nat} (h : ∀ x ∈ l, x < 4294967296) : made l < Bs ^ l.length := by
  induction l with
  | nil => exact Nat.one_pos
  | cons x l ih =>
    have h1 := ih fun y hy => h y (List.mem_cons_of_mem _ hy)
    have h2 := h x (List.mem_cons_self)
    rw [made, List.length_cons, Nat.pow_succ]
    have hB : 4294967296 * 2 ≤ Bs := by unfold Bs; omega
    have h3 : Bs ^ l.length * (4294967296 * 2) ≤ Bs ^ l.length * Bs := Nat.mul_le_mul_left _ hB
    generalize Bs ^ l.length = X at *
    generalize X * Bs = Y at *
    omega
theorem made_digs {l : List Nat} (h : ∀ x ∈ l, x < 4294967296) : (digs (made l)).length ≤ l.length := digs_length_iff.2 (made_lt h)

/-- A slice of 32-bit words. -/
structure Wd (w : World) (a : Addr) (l : List Nat) : Prop where
  lt : ∀ x ∈ l, x < 4294967296
  cell : ∀ (i : Nat) (h : i < l.length), w.cell? (a.add i) = some (.int .u32 ((l[i] : Nat) : Int))
  blk : a.block < w.heap.size
theorem Wd.below {w w' : World} {a : Addr} {l : List Nat} (h : Wd w a l) (hb : Below w.heap.size w w') : Wd w' a l :=
  ⟨h.lt, fun i hi => (hb.cell (p := a.add i) (by rw [show (a.add i).block = a.block from by unfold Addr.add; split <;> rfl]; exact h.blk)).trans (h.cell i hi), Nat.lt_of_lt_of_le h.blk hb.size⟩

theorem of_val (z : Int) (d : Nat) (hz : z = (d : Int)) (hd : d < Bs) (w : World) :
    Calls Tryz.prog 65 #[.int .u64 z] w fun e w' => e = .returned (natV d) ∧ Below w.heap.size w w' := by rw [hz]; exact of_any d hd w

/-- What Made's rounds keep. -/
structure MS (w w' : World) (a : Addr) (l : List Nat) (m : Nat) : Prop where
  O : Bx w' (w.heap.size + 1) (.int .u64 ((lo m : Nat) : Int)) (.string (hs m))
  R : Bx w' w.heap.size (.int .u64 0) (.string ⟨#[]⟩)
  W : Wd w' a l
  sz : w.heap.size + 2 ≤ w'.heap.size
  bl : Below w.heap.size w w'
theorem MS.below {w w' w'' : World} {a : Addr} {l : List Nat} {m : Nat} (h : MS w w' a l m) (hb : Below w'.heap.size w' w'') : MS w w'' a l m :=
  ⟨h.O.below hb (by have := h.sz; omega), h.R.below hb (by have := h.sz; omega), h.W.below hb, Nat.le_trans h.sz hb.size, h.bl.trans (hb.mono (by have := h.sz; omega))⟩
theorem MS.drew {w w' : World} {a : Addr} {l : List Nat} {m : Nat} (h : MS w w' a l m) : MS w w'.drew a l m := ⟨h.O, h.R, ⟨h.W.lt, h.W.cell, h.W.blk⟩, h.sz, h.bl.drew⟩
theorem MS.put {w w' : World} {a : Addr} {l : List Nat} {m : Nat} (h : MS w w' a l m) (ha : a.block < w.heap.size) (m' : Nat) :
    MS w ((w'.setCell ⟨w.heap.size + 1, 0, none⟩ (.int .u64 ((lo m' : Nat) : Int))).setCell ⟨w.heap.size + 1, 1, none⟩ (.string (hs m'))) a l m' := by
  have hb : Below (w.heap.size + 1) w' ((w'.setCell ⟨w.heap.size + 1, 0, none⟩ (.int .u64 ((lo m' : Nat) : Int))).setCell ⟨w.heap.size + 1, 1, none⟩ (.string (hs m'))) := ((Below.refl _ _).setCell (p := ⟨w.heap.size + 1, 0, none⟩) (Nat.le_refl _) _).setCell (p := ⟨w.heap.size + 1, 1, none⟩) (Nat.le_refl _) _
  refine ⟨put2 h.O _ _, h.R.below hb (by omega), ⟨h.W.lt, fun i hi => ?_, Nat.lt_of_lt_of_le h.W.blk hb.size⟩, Nat.le_trans h.sz hb.size, h.bl.trans (hb.mono (by omega))⟩
  exact (hb.cell (p := a.add i) (by rw [show (a.add i).block = a.block from by unfold Addr.add; split <;> rfl]; omega)).trans (h.W.cell i hi)
theorem MS.cells {w w' : World} {a : Addr} {l : List Nat} {m : Nat} (h : MS w w' a l m) (i x : Nat) (hi : i < l.length) (hx : x = l[i]) :
    w'.cell? ⟨w.heap.size + 1, 0, none⟩ = some (.int .u64 ((lo m : Nat) : Int)) ∧ w'.cell? ⟨w.heap.size + 1, 1, none⟩ = some (.string (hs m)) ∧ w'.cell? (a.add i) = some (.int .u32 (x : Int)) :=
  ⟨h.O.1, h.O.2.1, by rw [hx]; exact h.W.cell i hi⟩

set_option maxHeartbeats 2000000 in
set_option maxRecDepth 100000 in
theorem made_row (a : Addr) (c : Nat) (l : List Nat) (hl : l.length ≤ 1000) (w : World) (hw : Wd w a l) :
    Calls Tryz.prog 48 #[.slice (some a) l.length c] w fun e w' => e = .returned (natV (made l)) ∧ Below w.heap.size w w' := by
  obtain ⟨w0, hw0, hR, hO, hb0, hsz0⟩ := boxes2 w (.int .u64 0) (.string ⟨#[]⟩) (.int .u64 0) (.string ⟨#[]⟩) 32
  obtain ⟨n, hn⟩ : ∃ n, n = l.length := ⟨_, rfl⟩
  have hln := hl
  rw [← hn] at hl
  have hM0 : MS w w0 a l 0 := ⟨by rw [lo_small Bs_pos, hs_small Bs_pos]; exact hO, hR, hw.below hb0, hsz0, hb0⟩
  have hab := hw.blk
  have hlt := hw.lt
  clear hw hR hO hb0 hsz0
  go_enter Tryz.func48, Tryz.ntmps48
  simp only [← hn]
  have HNn := Lib.hid hn
  have hst : made (l.drop n) = 0 := by rw [List.drop_eq_nil_of_le (by omega)]; rfl
  replace hst := Lib.hid hst
  clear hn
  go_wp2_with fail
  go_loopw [4] (fun z wr => ∃ (j m : Nat), j ≤ n ∧ z = .int .i64 ((j : Int) - 1) ∧ m = made (l.drop j) ∧ MS w wr a l m) (fun z _ => (intOf z + 1).toNat)
  case atStart => exact ⟨n, 0, Nat.le_refl _, by first | rfl | go_num, hst.out.symm, hM0⟩
  case round =>
    obtain ⟨j, m, hj, rfl, hm, hS⟩ := hrel
    clear hw0 hM0
    have hn := HNn.out
    cases j with
    | zero =>
      rw [List.drop_zero] at hm
      have HM := Lib.hid hm
      obtain ⟨⟨o0, o1, of⟩, ⟨r0, r1, rf⟩, -, hsz, hB⟩ := id hS
      clear hm hS hn
      go_wp2_with fail
      exact bodyPost_ret (v := natV m) (by simp [results, Tryz.results48, go_sem, r0, r1]) rfl ⟨by rw [HM.out], (hB.setCell (by simp <;> omega) _).setCell (by simp <;> omega) _⟩
    | succ i =>
      have hi : i < l.length := by omega
      obtain ⟨x, hx⟩ : ∃ x, x = l[i] := ⟨_, rfl⟩
      have hx32 : x < 4294967296 := by rw [hx]; exact hlt _ (List.getElem_mem hi)
      have hlm : (digs m).length ≤ 1000 := by
        rw [hm]; exact Nat.le_trans (made_digs fun y hy => hlt y (List.mem_of_mem_drop hy)) (by rw [List.length_drop]; omega)
      have hmd : made (l.drop i) = m * 4294967296 + x := by
        rw [List.drop_eq_getElem_cons hi, made, ← hm, ← hx]; omega
      have hdm : ∀ k, (digs (made (l.drop k))).length ≤ 1000 := fun k => Nat.le_trans (made_digs fun y hy => hlt y (List.mem_of_mem_drop hy)) (by rw [List.length_drop]; omega)
      have hxB : x < Bs := by unfold Bs; omega
      have hlx : (digs x).length ≤ 1 := digs_length_iff.2 (by rw [Nat.pow_one]; exact hxB)
      obtain ⟨C, hC⟩ : ∃ C, C = 4294967296 := ⟨_, rfl⟩
      have hCB : C < Bs := by rw [hC]; unfold Bs; omega
      have hlC : (digs C).length ≤ 1 := digs_length_iff.2 (by rw [Nat.pow_one]; exact hCB)
      have HO1 := Lib.hid (fun w => of_val 4294967296 C (by rw [hC]; rfl) hCB w)
      have HO2 := Lib.hid (fun w => of_any x hxB w)
      have HM := Lib.hid (fun w => mul_any m C (by omega) (by omega) w)
      have hlmc : (digs (m * C)).length ≤ 1000 + 1 := digs_mul_le hlm hlC
      have HA := fun w => add_any (m * C) x (by omega) (by omega) w
      rw [show m * C + x = made (l.drop i) by rw [hmd, hC]] at HA
      obtain ⟨m2, hm2⟩ : ∃ m2, m2 = made (l.drop i) := ⟨_, rfl⟩
      rw [← hm2] at HA
      generalize m * C = mc at *
      replace HA := Lib.hid HA
      have HM2 := Lib.hid hm2
      have hS' := hS.drew
      have h0 := hS.cells i x hi hx
      have h0' := hS'.cells i x hi hx
      have HX := Lib.hid hx
      have e1 : (((i + 1 : Nat) : Int) - 1) = (i : Int) := by omega
      have hwx : IntKind.u64.wrap (x : Int) = (x : Int) := wrapN _ (by omega)
      have hin : (i : Int) < (n : Int) := by omega
      clear hn hx hm hm2 hmd hdm hlm hlmc hlx hlC hC hCB hxB hx32 hlt
      rw [e1]
      go_wp2_with fail
      obtain ⟨o0, o1, of⟩ := id hS'.O
      obtain ⟨g0, g1, g2⟩ := id h0'
      go_region_with
        (first
          | (go_at_call 65; ((with_reducible refine Calls.mono (HO1.out _) ?_); rintro e w1 ⟨rfl, hb1⟩; have hS1 : MS w w1 a l m := (by first | exact hS'.below hb1 | exact hS1.below hb1 | exact hS2.below hb1 | exact hS3.below hb1 | exact hS4.below hb1); obtain ⟨o01, o11, of1⟩ := id hS1.O; have h1 := (hS1.cells i x hi HX.out).2.2))
          | (go_at_call 65; ((with_reducible refine Calls.mono (HO2.out _) ?_); rintro e w2 ⟨rfl, hb2⟩; have hS2 : MS w w2 a l m := (by first | exact hS'.below hb2 | exact hS1.below hb2 | exact hS2.below hb2 | exact hS3.below hb2 | exact hS4.below hb2); obtain ⟨o02, o12, of2⟩ := id hS2.O; have h2 := (hS2.cells i x hi HX.out).2.2))
          | (go_at_call 58; ((with_reducible refine Calls.mono (HM.out _) ?_); rintro e w3 ⟨rfl, hb3⟩; have hS3 : MS w w3 a l m := (by first | exact hS'.below hb3 | exact hS1.below hb3 | exact hS2.below hb3 | exact hS3.below hb3 | exact hS4.below hb3); obtain ⟨o03, o13, of3⟩ := id hS3.O; have h3 := (hS3.cells i x hi HX.out).2.2))
          | (go_at_call 53; ((with_reducible refine Calls.mono (HA.out _) ?_); rintro e w4 ⟨rfl, hb4⟩; have hS4 : MS w w4 a l m := (by first | exact hS'.below hb4 | exact hS1.below hb4 | exact hS2.below hb4 | exact hS3.below hb4 | exact hS4.below hb4); obtain ⟨o04, o14, of4⟩ := id hS4.O; have h4 := (hS4.cells i x hi HX.out).2.2; have hS5 := hS4.put hab m2; have h5 := (hS5.cells i x hi HX.out).2.2)))
      all_goals (
        have HS5 := Lib.hid hS5
        clear hS5 h5 hS h0 h0' hS' o0 o1 of
        go_wp2_with fail
        go_roundw
        case rel => exact ⟨i, m2, by omega, by first | rfl | go_num, HM2.out, HS5.out⟩
        case measure => simp [intOf])

set_option maxHeartbeats 2000000 in
set_option maxRecDepth 100000 in
theorem made_nil (ao : Option Addr) (c : Nat) (w : World) :
    Calls Tryz.prog 48 #[.slice ao 0 c] w fun e w' => e = .returned (natV 0) ∧ Below w.heap.size w w' := by
  obtain ⟨w0, hw0, hR, hO, hb0, hsz0⟩ := boxes2 w (.int .u64 0) (.string ⟨#[]⟩) (.int .u64 0) (.string ⟨#[]⟩) 32
  obtain ⟨o0, o1, of⟩ := id hO
  obtain ⟨r0, r1, rf⟩ := id hR
  rw [natV_zero]
  go_enter Tryz.func48, Tryz.ntmps48
  go_wp2_with fail
  go_loopw [4] (fun z wr => z = .int .i64 (-1) ∧ wr = w0) (fun z _ => (intOf z + 1).toNat)
  case atStart => exact ⟨rfl, rfl⟩
  case round =>
    obtain ⟨rfl, rfl⟩ := hrel
    go_wp2_with fail
    exact bodyPost_ret (v := .agg #[.int .u64 0, .string ⟨#[]⟩]) (by simp [results, Tryz.results48, go_sem, r0, r1]) rfl ⟨rfl, (hb0.setCell (by simp <;> omega) _).setCell (by simp <;> omega) _⟩

/-- A slice of words, nil or not. -/
def Ws (w : World) (v : Value) (l : List Nat) : Prop := (∃ ao c, v = .slice ao 0 c ∧ l = []) ∨ ∃ a c, v = .slice (some a) l.length c ∧ Wd w a l
theorem Ws.below {w w' : World} {v : Value} {l : List Nat} (h : Ws w v l) (hb : Below w.heap.size w w') : Ws w' v l := by
  rcases h with h | ⟨a, c, h1, h2⟩
  · exact .inl h
  · exact .inr ⟨a, c, h1, h2.below hb⟩
theorem Ws.lt {w : World} {v : Value} {l : List Nat} (h : Ws w v l) : ∀ x ∈ l, x < 4294967296 := by
  rcases h with ⟨_, _, _, rfl⟩ | ⟨a, c, _, h2⟩
  · intro x hx; cases hx
  · exact h2.lt
theorem made_any (v : Value) (l : List Nat) (hl : l.length ≤ 1000) (w : World) (h : Ws w v l) :
    Calls Tryz.prog 48 #[v] w fun e w' => e = .returned (natV (made l)) ∧ Below w.heap.size w w' := by
  rcases h with ⟨ao, c, rfl, rfl⟩ | ⟨a, c, rfl, h2⟩
  · exact made_nil ao c w
  · exact made_row a c l hl w h2
end Go.Proofs.YthehcjfmokabfaaGreatDoor

/-
  Layer 1, law: the boxes of a law's numbers.
-/
namespace Go.Proofs.YthehcjfmokabfaaGreatDoor
open Go.RowKit
attribute [local irreducible] lo hs sm s64 c64 d64 b64 mh ml pd pc qd qc val hiB str cmpI srD lz nb isq decB

/-- Whether bytes are a decimal form, by computation. -/
def decC (l : List UInt8) : Bool := l.all (fun c => decide (48 ≤ c.toNat) && decide (c.toNat ≤ 57)) && (l == [48] || (!l.isEmpty && l.head? != some 48))
theorem decC_iff (l : List UInt8) : decC l = true ↔ isDec l := by
  unfold decC isDec isDig
  simp only [Bool.and_eq_true, List.all_eq_true, decide_eq_true_eq, Bool.or_eq_true, beq_iff_eq, Bool.not_eq_true', bne_iff_ne, List.isEmpty_eq_false_iff]
theorem isDec_yes {l : List UInt8} (h : decC l = true) : isDec l := (decC_iff l).1 h
theorem isDec_no {l : List UInt8} (h : decC l = false) : ¬ isDec l := fun h' => by rw [(decC_iff l).2 h'] at h; cases h

/-- A box that holds a number. -/
structure NX (w : World) (k n : Nat) : Prop where
  b : Bx w k (.int .u64 ((lo n : Nat) : Int)) (.string (hs n))
  lt : k < w.heap.size
theorem NX.below {w w' : World} {k n : Nat} (h : NX w k n) (hb : Below w.heap.size w w') : NX w' k n := ⟨h.b.below hb h.lt, Nat.lt_of_lt_of_le h.lt hb.size⟩

/-- The boxes that a call has made, with what they hold. -/
structure NL (w0 W : World) (L : List (Nat × Nat)) : Prop where
  bl : Below w0.heap.size w0 W
  all : ∀ p ∈ L, w0.heap.size ≤ p.1 ∧ NX W p.1 p.2
  nd : (L.map (·.1)).Nodup

theorem NL.start (w : World) : NL w w [] := ⟨Below.refl _ _, (fun p hp => by cases hp), List.nodup_nil⟩
theorem NL.call {w0 W W' : World} {L : List (Nat × Nat)} (h : NL w0 W L) (hb : Below W.heap.size W W') : NL w0 W' L :=
  ⟨h.bl.trans (hb.mono h.bl.size), fun p hp => ⟨(h.all p hp).1, (h.all p hp).2.below hb⟩, h.nd⟩
theorem NL.drew {w0 W : World} {L : List (Nat × Nat)} (h : NL w0 W L) : NL w0 W.drew L :=
  ⟨h.bl.drew, fun p hp => ⟨(h.all p hp).1, (h.all p hp).2.b, (h.all p hp).2.lt⟩, h.nd⟩
theorem szA (W : World) (o : Obj) : (W.alloc o).heap.size = W.heap.size + 1 := World.size_alloc _ _
theorem szAD (W : World) (o : Obj) : (W.drew.alloc o).heap.size = W.heap.size + 1 := World.size_alloc _ _
theorem szD (W : World) : W.drew.heap.size = W.heap.size := rfl
theorem NL.new {w0 W : World} {L : List (Nat × Nat)} {K : Nat} (h : NL w0 W L) (hK : W.heap.size = K) (n : Nat) (t : TypeId) : NL w0 (W.alloc (.cells #[.int .u64 ((lo n : Nat) : Int), .string (hs n)] t)) ((K, n) :: L) := by
  subst hK
  obtain ⟨w1, h1, h2, h3, h4⟩ := boxes1 W (.int .u64 ((lo n : Nat) : Int)) (.string (hs n)) t
  rw [h1]
  refine ⟨h.bl.trans (h3.mono h.bl.size), fun p hp => ?_, ?_⟩
  · rcases List.mem_cons.1 hp with rfl | hp
    · exact ⟨h.bl.size, h2, h4⟩
    · exact ⟨(h.all p hp).1, (h.all p hp).2.below h3⟩
  · rw [List.map_cons, List.nodup_cons]
    refine ⟨fun hm => ?_, h.nd⟩
    obtain ⟨p, hp, he⟩ := List.mem_map.1 hm
    have := (h.all p hp).2.lt
    simp only at he
    omega
theorem NL.new0 {w0 W : World} {L : List (Nat × Nat)} {K : Nat} (h : NL w0 W L) (hK : W.heap.size = K) (t : TypeId) : NL w0 (W.alloc (.cells #[.int .u64 0, .string ⟨#[]⟩] t)) ((K, 0) :: L) := by
  have := h.new hK 0 t
  rw [lo_small Bs_pos, hs_small Bs_pos] at this
  exact this
theorem NL.tail {w0 W : World} {L : List (Nat × Nat)} {x : Nat × Nat} (h : NL w0 W (x :: L)) : NL w0 W L :=
  ⟨h.bl, fun p hp => h.all p (List.mem_cons_of_mem _ hp), (List.nodup_cons.1 h.nd).2⟩
theorem NL.swap {w0 W : World} {L : List (Nat × Nat)} {x y : Nat × Nat} (h : NL w0 W (x :: y :: L)) : NL w0 W (y :: x :: L) := by
  refine ⟨h.bl, fun p hp => h.all p ?_, ?_⟩
  · simp only [List.mem_cons] at hp ⊢
    rcases hp with h | h | h
    · exact .inr (.inl h)
    · exact .inl h
    · exact .inr (.inr h)
  · have := h.nd
    simp only [List.map_cons, List.nodup_cons, List.mem_cons, not_or] at this ⊢
    exact ⟨⟨fun e => this.1.1 e.symm, this.2.1⟩, this.1.2, this.2.2⟩
theorem NL.put0 {w0 W : World} {L : List (Nat × Nat)} {k n0 : Nat} (h : NL w0 W ((k, n0) :: L)) (n : Nat) :
    NL w0 ((W.setCell ⟨k, 0, none⟩ (.int .u64 ((lo n : Nat) : Int))).setCell ⟨k, 1, none⟩ (.string (hs n))) ((k, n) :: L) := by
  have hk := h.all (k, n0) (List.mem_cons_self)
  have hb : ∀ B, B ≤ k → Below B W ((W.setCell ⟨k, 0, none⟩ (.int .u64 ((lo n : Nat) : Int))).setCell ⟨k, 1, none⟩ (.string (hs n))) := fun B hB =>
    ((Below.refl _ _).setCell (p := ⟨k, 0, none⟩) hB _).setCell (p := ⟨k, 1, none⟩) hB _
  have hsz : W.heap.size = ((W.setCell ⟨k, 0, none⟩ (.int .u64 ((lo n : Nat) : Int))).setCell ⟨k, 1, none⟩ (.string (hs n))).heap.size := by simp [World.setCell]
  refine ⟨h.bl.trans (hb _ hk.1), fun p hp => ?_, h.nd⟩
  rcases List.mem_cons.1 hp with rfl | hp
  · exact ⟨hk.1, put2 hk.2.b _ _, by rw [← hsz]; exact hk.2.lt⟩
  · have hp' := h.all p (List.mem_cons_of_mem _ hp)
    have hne : p.1 ≠ k := fun e => by
      have := (List.nodup_cons.1 h.nd).1
      exact this (List.mem_map.2 ⟨p, hp, e⟩)
    refine ⟨hp'.1, ?_, by rw [← hsz]; exact hp'.2.lt⟩
    obtain ⟨c0, c1, cf⟩ := hp'.2.b
    exact ⟨by rw [World.cell?_setCell_other _ _ _ _ (by first | exact fun e => hne (congrArg Addr.block e) | exact fun e => hne (congrArg Addr.block e).symm), World.cell?_setCell_other _ _ _ _ (by first | exact fun e => hne (congrArg Addr.block e) | exact fun e => hne (congrArg Addr.block e).symm)]; exact c0,
      by rw [World.cell?_setCell_other _ _ _ _ (by first | exact fun e => hne (congrArg Addr.block e) | exact fun e => hne (congrArg Addr.block e).symm), World.cell?_setCell_other _ _ _ _ (by first | exact fun e => hne (congrArg Addr.block e) | exact fun e => hne (congrArg Addr.block e).symm)]; exact c1,
      fun j => by simp [go_sem, cf j]⟩
theorem NL.put1 {w0 W : World} {L : List (Nat × Nat)} {k n0 : Nat} {x : Nat × Nat} (h : NL w0 W (x :: (k, n0) :: L)) (n : Nat) :
    NL w0 ((W.setCell ⟨k, 0, none⟩ (.int .u64 ((lo n : Nat) : Int))).setCell ⟨k, 1, none⟩ (.string (hs n))) (x :: (k, n) :: L) := (h.swap.put0 n).swap
theorem NL.get {w0 W : World} {L : List (Nat × Nat)} (h : NL w0 W L) (k n : Nat) (hm : (k, n) ∈ L) : W.cell? ⟨k, 0, none⟩ = some (.int .u64 ((lo n : Nat) : Int)) ∧ W.cell? ⟨k, 1, none⟩ = some (.string (hs n)) :=
  ⟨(h.all _ hm).2.b.1, (h.all _ hm).2.b.2.1⟩
theorem NL.at0 {w0 W : World} {L : List (Nat × Nat)} {k n : Nat} (h : NL w0 W ((k, n) :: L)) : W.cell? ⟨k, 0, none⟩ = some (.int .u64 ((lo n : Nat) : Int)) ∧ W.cell? ⟨k, 1, none⟩ = some (.string (hs n)) := h.get k n (List.mem_cons_self)
theorem NL.frozen {w0 W : World} {L : List (Nat × Nat)} (h : NL w0 W L) (k n : Nat) (hm : (k, n) ∈ L) : ∀ j, W.frozen? ⟨k, j, none⟩ = false := (h.all _ hm).2.b.2.2
theorem NL.cells {w0 W : World} {L : List (Nat × Nat)} {k n : Nat} (hm : (k, n) ∈ L) (h : NL w0 W L) : W.cell? ⟨k, 0, none⟩ = some (.int .u64 ((lo n : Nat) : Int)) ∧ W.cell? ⟨k, 1, none⟩ = some (.string (hs n)) := h.get k n hm

/-- A box's number is none of these. -/
def ne (k : Nat) : List (Nat × Nat) → Prop
  | [] => True
  | p :: L => k ≠ p.1 ∧ p.1 ≠ k ∧ ne k L
theorem ne_of {k : Nat} : ∀ {L : List (Nat × Nat)}, k ∉ L.map (·.1) → ne k L
  | [], _ => trivial
  | p :: L, h => by
    simp only [List.map_cons, List.mem_cons, not_or] at h
    exact ⟨h.1, fun e => h.1 e.symm, ne_of h.2⟩
theorem alloc_cell {W : World} (o : Obj) {k j : Nat} (h : k < W.heap.size) : (W.alloc o).cell? ⟨k, j, none⟩ = W.cell? ⟨k, j, none⟩ := (Below.refl W.heap.size W |>.alloc (Nat.le_refl _) o).cell (p := ⟨k, j, none⟩) h
theorem alloc_frozen {W : World} (o : Obj) {k j : Nat} (h : k < W.heap.size) : (W.alloc o).frozen? ⟨k, j, none⟩ = W.frozen? ⟨k, j, none⟩ := (Below.refl W.heap.size W |>.alloc (Nat.le_refl _) o).frozen (p := ⟨k, j, none⟩) h
/-- A new box of two cells. -/
def nw : Prop := ∀ (W : World) (v0 v1 : Value) (t : TypeId), (W.alloc (.cells #[v0, v1] t)).cell? ⟨W.heap.size, 0, none⟩ = some v0 ∧ (W.alloc (.cells #[v0, v1] t)).cell? ⟨W.heap.size, 1, none⟩ = some v1 ∧ ∀ j, (W.alloc (.cells #[v0, v1] t)).frozen? ⟨W.heap.size, j, none⟩ = false
theorem nw_all : nw := fun W v0 v1 t => by
  obtain ⟨w0, h1, ⟨h2, h3, h4⟩, -, -⟩ := boxes1 W v0 v1 t
  rw [h1]; exact ⟨h2, h3, h4⟩
/-- What the boxes hold, one fact each. -/
def fc (W : World) : List (Nat × Nat) → Prop
  | [] => True
  | p :: L => W.cell? ⟨p.1, 0, none⟩ = some (.int .u64 ((lo p.2 : Nat) : Int)) ∧ W.cell? ⟨p.1, 1, none⟩ = some (.string (hs p.2)) ∧ (∀ j, W.frozen? ⟨p.1, j, none⟩ = false) ∧ (∀ o, (W.alloc o).cell? ⟨p.1, 0, none⟩ = some (.int .u64 ((lo p.2 : Nat) : Int))) ∧ (∀ o, (W.alloc o).cell? ⟨p.1, 1, none⟩ = some (.string (hs p.2))) ∧ (∀ o j, (W.alloc o).frozen? ⟨p.1, j, none⟩ = false) ∧ (p.1 ≠ W.heap.size ∧ W.heap.size ≠ p.1 ∧ p.1 ≠ W.heap.size + 1 ∧ W.heap.size + 1 ≠ p.1) ∧ ne p.1 L ∧ fc W L
theorem NL.fc {w0 W : World} : ∀ {L : List (Nat × Nat)}, NL w0 W L → fc W L
  | [], _ => trivial
  | p :: L, h => ⟨(h.all p List.mem_cons_self).2.b.1, (h.all p List.mem_cons_self).2.b.2.1, (h.all p List.mem_cons_self).2.b.2.2, (fun o => by rw [alloc_cell o (h.all p List.mem_cons_self).2.lt]; exact (h.all p List.mem_cons_self).2.b.1), (fun o => by rw [alloc_cell o (h.all p List.mem_cons_self).2.lt]; exact (h.all p List.mem_cons_self).2.b.2.1), (fun o j => by rw [alloc_frozen o (h.all p List.mem_cons_self).2.lt]; exact (h.all p List.mem_cons_self).2.b.2.2 j), (by have := (h.all p List.mem_cons_self).2.lt; omega), ne_of (List.nodup_cons.1 h.nd).1, h.tail.fc⟩

/-- The cells of boxes, one behind the other. -/
def cl (W : World) : List (Nat × Nat) → Prop
  | [] => True
  | [p] => W.cell? ⟨p.1, 0, none⟩ = some (.int .u64 ((lo p.2 : Nat) : Int)) ∧ W.cell? ⟨p.1, 1, none⟩ = some (.string (hs p.2))
  | p :: q :: L => W.cell? ⟨p.1, 0, none⟩ = some (.int .u64 ((lo p.2 : Nat) : Int)) ∧ W.cell? ⟨p.1, 1, none⟩ = some (.string (hs p.2)) ∧ cl W (q :: L)
theorem cl_of {W : World} : ∀ {C : List (Nat × Nat)}, (∀ p ∈ C, W.cell? ⟨p.1, 0, none⟩ = some (.int .u64 ((lo p.2 : Nat) : Int)) ∧ W.cell? ⟨p.1, 1, none⟩ = some (.string (hs p.2))) → cl W C
  | [], _ => trivial
  | [p], h => h p List.mem_cons_self
  | p :: q :: L, h => ⟨(h p List.mem_cons_self).1, (h p List.mem_cons_self).2, cl_of fun r hr => h r (List.mem_cons_of_mem _ hr)⟩
/-- Old boxes, read in a newer world. -/
theorem NL.keep {w w0 W : World} {L C : List (Nat × Nat)} {L0 : List (Nat × Nat)} (h0 : NL w w0 L0) (hC : C ⊆ L0) (h : NL w0 W L) : cl W C :=
  cl_of fun p hp => by
    have hx := h0.all p (hC hp)
    exact ⟨(h.bl.cell (p := ⟨p.1, 0, none⟩) hx.2.lt).trans hx.2.b.1, (h.bl.cell (p := ⟨p.1, 1, none⟩) hx.2.lt).trans hx.2.b.2.1⟩
theorem NL.join {w w0 W : World} {L L0 : List (Nat × Nat)} (h0 : NL w w0 L0) (h : NL w0 W L) : NL w W (L ++ L0) := by
  refine ⟨h0.bl.trans (h.bl.mono h0.bl.size), fun p hp => ?_, ?_⟩
  · rcases List.mem_append.1 hp with hp | hp
    · exact ⟨Nat.le_trans h0.bl.size (h.all p hp).1, (h.all p hp).2⟩
    · exact ⟨(h0.all p hp).1, (h0.all p hp).2.below h.bl⟩
  · rw [List.map_append, List.nodup_append]
    refine ⟨h.nd, h0.nd, fun a ha b hb => ?_⟩
    obtain ⟨p, hp, rfl⟩ := List.mem_map.1 ha
    obtain ⟨r, hr, rfl⟩ := List.mem_map.1 hb
    have h1 := (h.all p hp).1
    have h2 := (h0.all r hr).2.lt
    omega
end Go.Proofs.YthehcjfmokabfaaGreatDoor

/-
  Layer 1, law B: works.
-/
namespace Go.Proofs.YthehcjfmokabfaaGreatDoor
open Go.RowKit
attribute [local irreducible] lo hs sm s64 c64 d64 b64 mh ml pd pc qd qc val hiB str cmpI srD lz nb isq decB

/-- The text, without more, of a number that a decimal form spells. -/
theorem text_lit (n : Nat) (l : List UInt8) (hd : isDec l) (hv : dval l = n) (hl : (digs n).length ≤ 1000000) (w : World) (htab : Tab w) :
    Calls Tryz.prog 34 #[natV n] w fun e w' => e = .returned (.string ⟨l.toArray⟩) ∧ Below w.heap.size w w' := by
  have h := text_any n hl w htab
  have e : txt n = ⟨l.toArray⟩ := by unfold txt; rw [← hv, dec_dval hd]
  rw [e] at h
  exact h

theorem sm_digs {n k : Nat} (h : n < Bs ^ k) : (digs n).length ≤ k := digs_length_iff.2 h

set_option maxHeartbeats 16000000 in
set_option maxRecDepth 100000 in
theorem works_any (w : World) (htab : Tab w) :
    Calls Tryz.prog 16 #[] w fun e w' => e = .returned (.bool true) ∧ Below w.heap.size w w' := by
  obtain ⟨m, h_m⟩ : ∃ n, n = 18446744073709551615 := ⟨_, rfl⟩
  obtain ⟨ten, h_ten⟩ : ∃ n, n = 100000000000000000000 := ⟨_, rfl⟩
  obtain ⟨q, h_q⟩ : ∃ n, n = 14285714285714285714 := ⟨_, rfl⟩
  obtain ⟨two, h_two⟩ : ∃ n, n = 1180591620717411303424 := ⟨_, rfl⟩
  obtain ⟨six, h_six⟩ : ∃ n, n = 3656158440062976 := ⟨_, rfl⟩
  obtain ⟨less, h_less⟩ : ∃ n, n = 99999999999999999999 := ⟨_, rfl⟩
  obtain ⟨mm, h_mm⟩ : ∃ n, n = 340282366920938463426481119284349108225 := ⟨_, rfl⟩
  obtain ⟨m1, h_m1⟩ : ∃ n, n = 18446744073709551616 := ⟨_, rfl⟩
  obtain ⟨rt, h_rt⟩ : ∃ n, n = 9999999999 := ⟨_, rfl⟩
  have O1 := Lib.hid (fun w => of_val 18446744073709551615 m (by rw [h_m]; rfl) (by rw [h_m]; unfold Bs; omega) w)
  have O2 := Lib.hid (fun w => of_val 10 10 rfl (by unfold Bs; omega) w)
  have P2 := Lib.hid (fun w => pow_ok 10 20 (by omega) (.inr (Nat.le_trans (nb_le64 (by unfold Bs; omega)) (by decide))) (Nat.le_trans (sm_digs (k := 1) (by unfold Bs; decide)) (by omega)) w)
  rw [show 10 ^ 20 = ten by rw [h_ten]] at P2
  have O3 := Lib.hid (fun w => of_val 7 7 rfl (by unfold Bs; omega) w)
  have D3 := Lib.hid (fun w => div_pos ten 7 (by omega) (by rw [h_ten]; exact (Nat.le_trans (sm_digs (k := 2) (by unfold Bs; decide)) (by omega))) w)
  rw [show ten / 7 = q by rw [h_ten, h_q], show ten % 7 = 2 by rw [h_ten]] at D3
  have O4 := Lib.hid (fun w => of_val 2 2 rfl (by unfold Bs; omega) w)
  have P4 := Lib.hid (fun w => pow_ok 2 70 (by omega) (.inr (Nat.le_trans (nb_le64 (by unfold Bs; omega)) (by decide))) (Nat.le_trans (sm_digs (k := 1) (by unfold Bs; decide)) (by omega)) w)
  rw [show 2 ^ 70 = two by rw [h_two]] at P4
  have O5 := Lib.hid (fun w => of_val 6 6 rfl (by unfold Bs; omega) w)
  have P5 := Lib.hid (fun w => pow_ok 6 20 (by omega) (.inr (Nat.le_trans (nb_le64 (by unfold Bs; omega)) (by decide))) (Nat.le_trans (sm_digs (k := 1) (by unfold Bs; decide)) (by omega)) w)
  rw [show 6 ^ 20 = six by rw [h_six]] at P5
  have O6 := Lib.hid (fun w => of_val 1 1 rfl (by unfold Bs; omega) w)
  have S6 := Lib.hid (fun w => sub_ge ten 1 (by rw [h_ten]; omega) (by rw [h_ten]; exact (Nat.le_trans (sm_digs (k := 2) (by unfold Bs; decide)) (by omega))) w)
  rw [show ten - 1 = less by rw [h_ten, h_less]] at S6
  have O7a := Lib.hid (fun w => of_val 3 3 rfl (by unfold Bs; omega) w)
  have O7b := Lib.hid (fun w => of_val 5 5 rfl (by unfold Bs; omega) w)
  have S7 := Lib.hid (fun w => sub_lt 3 5 (by omega) w)
  have O8 := Lib.hid (fun w => of_val 5 5 rfl (by unfold Bs; omega) w)
  have D8 := fun w => div_zero 5 w
  rw [natV_zero] at D8
  replace D8 := Lib.hid D8
  have P9 : ∀ w, Calls Tryz.prog 67 #[.agg #[.int .u64 0, .string ⟨#[]⟩], .int .i64 0] w fun e w' => e = .returned (.tuple #[natV 1, .int .i64 0]) ∧ Below w.heap.size w w' := fun w => by
    rw [← natV_zero]; exact pow_ok 0 0 (by omega) (.inl rfl) (Nat.le_trans (sm_digs (k := 1) (by unfold Bs; decide)) (by omega)) w
  replace P9 := Lib.hid P9
  have O10 := Lib.hid (fun w => of_val 2 2 rfl (by unfold Bs; omega) w)
  have P10 := fun w => pow_neg 2 (-1) (by omega) w
  rw [natV_zero] at P10
  replace P10 := Lib.hid P10
  have M11 := Lib.hid (fun w => mul_any m m (by rw [h_m]; exact (Nat.le_trans (sm_digs (k := 1) (by unfold Bs; decide)) (by omega))) (by rw [h_m]; exact (Nat.le_trans (sm_digs (k := 1) (by unfold Bs; decide)) (by omega))) w)
  rw [show m * m = mm by rw [h_m, h_mm]] at M11
  have T11a := Lib.hid (fun w ht => text_lit mm [51, 52, 48, 50, 56, 50, 51, 54, 54, 57, 50, 48, 57, 51, 56, 52, 54, 51, 52, 50, 54, 52, 56, 49, 49, 49, 57, 50, 56, 52, 51, 52, 57, 49, 48, 56, 50, 50, 53] (isDec_yes (by decide +kernel)) (by rw [h_mm]; decide +kernel) (by rw [h_mm]; exact (Nat.le_trans (sm_digs (k := 2) (by unfold Bs; decide)) (by omega))) w ht)
  have T11b := Lib.hid (fun w ht => text_lit q [49, 52, 50, 56, 53, 55, 49, 52, 50, 56, 53, 55, 49, 52, 50, 56, 53, 55, 49, 52] (isDec_yes (by decide +kernel)) (by rw [h_q]; decide +kernel) (by rw [h_q]; exact (Nat.le_trans (sm_digs (k := 1) (by unfold Bs; decide)) (by omega))) w ht)
  have O11a := Lib.hid (fun w => of_val 2 2 rfl (by unfold Bs; omega) w)
  have G11 := Lib.hid (fun w => gcd_any two six (by rw [h_two]; exact (Nat.le_trans (sm_digs (k := 2) (by unfold Bs; decide)) (by omega))) (by rw [h_six]; exact (Nat.le_trans (sm_digs (k := 1) (by unfold Bs; decide)) (by omega))) w)
  rw [show Nat.gcd two six = 1048576 by rw [h_two, h_six]; decide] at G11
  have O11b := Lib.hid (fun w => of_val 1048576 1048576 rfl (by unfold Bs; omega) w)
  have Q11 := Lib.hid (fun w => sqrt_pos less (by rw [h_less]; omega) (by rw [h_less]; exact (Nat.le_trans (sm_digs (k := 2) (by unfold Bs; decide)) (by omega))) w)
  rw [show isq less = rt from (isq_uniq (by rw [h_rt, h_less]; decide) (by rw [h_rt, h_less]; decide)).symm] at Q11
  have O11c := Lib.hid (fun w => of_val 9999999999 rt (by rw [h_rt]; rfl) (by rw [h_rt]; unfold Bs; omega) w)
  have O11d := Lib.hid (fun w => of_val 1 1 rfl (by unfold Bs; omega) w)
  have A11 := Lib.hid (fun w => add_any m 1 (by rw [h_m]; exact (Nat.le_trans (sm_digs (k := 1) (by unfold Bs; decide)) (by omega))) (Nat.le_trans (sm_digs (k := 1) (by unfold Bs; decide)) (by omega)) w)
  rw [show m + 1 = m1 by rw [h_m, h_m1]] at A11
  have B11 := Lib.hid (fun w => bits_any m1 (by rw [h_m1]; exact (Nat.le_trans (sm_digs (k := 2) (by unfold Bs; decide)) (by omega))) w)
  rw [show nb m1 = 65 from nb_of (by rw [h_m1]; decide) (by rw [h_m1]; decide)] at B11
  have R13 := fun w => parse_form [48, 48] (by decide) (isDec_no (by decide +kernel)) w
  rw [natV_zero] at R13
  have h0 : st [48, 48] = ⟨#[48, 48]⟩ := rfl
  rw [h0] at R13
  clear h0
  replace R13 := Lib.hid R13
  have R14 := fun w => parse_form [] (by decide) (isDec_no (by decide +kernel)) w
  rw [natV_zero] at R14
  have h0 : st [] = ⟨#[]⟩ := rfl
  rw [h0] at R14
  clear h0
  replace R14 := Lib.hid R14
  have R15 := fun w => parse_form [45, 49] (by decide) (isDec_no (by decide +kernel)) w
  rw [natV_zero] at R15
  have h0 : st [45, 49] = ⟨#[45, 49]⟩ := rfl
  rw [h0] at R15
  clear h0
  replace R15 := Lib.hid R15
  have R16 := Lib.hid (fun w => parse_ok [49, 50] (by decide) (isDec_yes (by decide +kernel)) w)
  rw [show dval [49, 50] = 12 by decide, show st [49, 50] = ⟨#[49, 50]⟩ from rfl] at R16
  have O17a := Lib.hid (fun w => of_val 1 1 rfl (by unfold Bs; omega) w)
  have O17b := Lib.hid (fun w => of_val 12 12 rfl (by unfold Bs; omega) w)
  clear h_m h_ten h_q h_two h_six h_less h_mm h_m1 h_rt
  have hL0 : NL w w [] := NL.start w
  go_enter Tryz.func16, Tryz.ntmps16
  go_wp2_with fail
  with_reducible refine Calls.mono (O1.out _) ?_
  rintro e x1 ⟨rfl, hb⟩
  replace hL0 := hL0.call hb
  clear hb O1
  replace hL0 := hL0.new rfl m 32
  generalize hweq : x1.alloc (.cells #[.int .u64 ((lo m : Nat) : Int), .string (hs m)] 32) = x2 at hL0
  go_wp2_with fail
  with_reducible refine Calls.mono (O2.out _) ?_
  rintro e x3 ⟨rfl, hb⟩
  replace hL0 := hL0.call hb
  clear hb O2 hweq
  go_wp2_with fail
  with_reducible refine Calls.mono (P2.out _) ?_
  rintro e x4 ⟨rfl, hb⟩
  replace hL0 := hL0.call hb
  clear hb P2
  replace hL0 := hL0.new rfl ten 32
  generalize hweq : x4.alloc (.cells #[.int .u64 ((lo ten : Nat) : Int), .string (hs ten)] 32) = x5 at hL0
  go_upto_region 3 with fail
  go_cut [4, 5, 6] from 4 to 42 (fun t4 t5 t6 wx => ∃ k4 k5, t4 = .pointer (some ⟨k4, 0, none⟩) ∧ t5 = .pointer (some ⟨k5, 0, none⟩) ∧ t6 = .bool true ∧ NL w wx [(k5, 2), (k4, q), (x4.heap.size, ten), (x1.heap.size, m)])
  case first =>
    clear hweq
    have hR := NL.start x5
    have hnw : ∀ (W : World) (v0 v1 : Value) (t : TypeId), (W.alloc (.cells #[v0, v1] t)).cell? ⟨W.heap.size, 0, none⟩ = some v0 ∧ (W.alloc (.cells #[v0, v1] t)).cell? ⟨W.heap.size, 1, none⟩ = some v1 ∧ ∀ j, (W.alloc (.cells #[v0, v1] t)).frozen? ⟨W.heap.size, j, none⟩ = false := nw_all
    have hs0 : [(x4.heap.size, ten)] ⊆ [(x4.heap.size, ten), (x1.heap.size, m)] := by simp
    go_region_held3 (fun w' => w'.cell? ⟨x4.heap.size, 0, none⟩ = some (.int .u64 ((lo ten : Nat) : Int)) ∧ w'.cell? ⟨x4.heap.size, 1, none⟩ = some (.string (hs ten)))
      ((apply (NL.keep (w0 := x5) (C := [(x4.heap.size, ten)]) hL0 hs0); (first | ((repeat (first | (with_reducible exact szAD _ _) | (with_reducible exact szA _ _) | (with_reducible exact szD _) | (with_reducible exact rfl) | assumption | (with_reducible apply NL.drew) | (with_reducible apply NL.new0) | (with_reducible apply NL.new) | (with_reducible apply NL.put0) | (with_reducible apply NL.put1))); done) | ((with_reducible apply NL.put1); (repeat (first | (with_reducible exact szAD _ _) | (with_reducible exact szA _ _) | (with_reducible exact szD _) | (with_reducible exact rfl) | assumption | (with_reducible apply NL.drew) | (with_reducible apply NL.new0) | (with_reducible apply NL.new) | (with_reducible apply NL.put0) | (with_reducible apply NL.put1))); done))))
      (first
        | (go_at_call 65; ((with_reducible refine Calls.mono (O3.out _) ?_); rintro e wc0 ⟨rfl, hbc0⟩; have hLc0 := NL.call (w0 := x5) (by (first | ((repeat (first | (with_reducible exact szAD _ _) | (with_reducible exact szA _ _) | (with_reducible exact szD _) | (with_reducible exact rfl) | assumption | (with_reducible apply NL.drew) | (with_reducible apply NL.new0) | (with_reducible apply NL.new) | (with_reducible apply NL.put0) | (with_reducible apply NL.put1))); done) | ((with_reducible apply NL.put1); (repeat (first | (with_reducible exact szAD _ _) | (with_reducible exact szA _ _) | (with_reducible exact szD _) | (with_reducible exact rfl) | assumption | (with_reducible apply NL.drew) | (with_reducible apply NL.new0) | (with_reducible apply NL.new) | (with_reducible apply NL.put0) | (with_reducible apply NL.put1))); done))) hbc0; have hAc0 := hLc0.fc; simp only [fc, ne, and_true, ne_eq, not_false_eq_true] at hAc0))
        | (go_at_call 57; ((with_reducible refine Calls.mono (D3.out _) ?_); rintro e wc1 ⟨rfl, hbc1⟩; have hLc1 := NL.call (w0 := x5) (by (first | ((repeat (first | (with_reducible exact szAD _ _) | (with_reducible exact szA _ _) | (with_reducible exact szD _) | (with_reducible exact rfl) | assumption | (with_reducible apply NL.drew) | (with_reducible apply NL.new0) | (with_reducible apply NL.new) | (with_reducible apply NL.put0) | (with_reducible apply NL.put1))); done) | ((with_reducible apply NL.put1); (repeat (first | (with_reducible exact szAD _ _) | (with_reducible exact szA _ _) | (with_reducible exact szD _) | (with_reducible exact rfl) | assumption | (with_reducible apply NL.drew) | (with_reducible apply NL.new0) | (with_reducible apply NL.new) | (with_reducible apply NL.put0) | (with_reducible apply NL.put1))); done))) hbc1; have hAc1 := hLc1.fc; simp only [fc, ne, and_true, ne_eq, not_false_eq_true] at hAc1)))
    all_goals (
      go_wp2_with fail
      go_meet
      exact ⟨_, _, rfl, rfl, rfl, by first | exact NL.join (L := [_, _]) hL0 (by (first | ((repeat (first | (with_reducible exact szAD _ _) | (with_reducible exact szA _ _) | (with_reducible exact szD _) | (with_reducible exact rfl) | assumption | (with_reducible apply NL.drew) | (with_reducible apply NL.new0) | (with_reducible apply NL.new) | (with_reducible apply NL.put0) | (with_reducible apply NL.put1))); done) | ((with_reducible apply NL.put1); (repeat (first | (with_reducible exact szAD _ _) | (with_reducible exact szA _ _) | (with_reducible exact szD _) | (with_reducible exact rfl) | assumption | (with_reducible apply NL.drew) | (with_reducible apply NL.new0) | (with_reducible apply NL.new) | (with_reducible apply NL.put0) | (with_reducible apply NL.put1))); done))) | exact NL.join (L := [_, _]) hL0 (NL.swap (by (first | ((repeat (first | (with_reducible exact szAD _ _) | (with_reducible exact szA _ _) | (with_reducible exact szD _) | (with_reducible exact rfl) | assumption | (with_reducible apply NL.drew) | (with_reducible apply NL.new0) | (with_reducible apply NL.new) | (with_reducible apply NL.put0) | (with_reducible apply NL.put1))); done) | ((with_reducible apply NL.put1); (repeat (first | (with_reducible exact szAD _ _) | (with_reducible exact szA _ _) | (with_reducible exact szD _) | (with_reducible exact rfl) | assumption | (with_reducible apply NL.drew) | (with_reducible apply NL.new0) | (with_reducible apply NL.new) | (with_reducible apply NL.put0) | (with_reducible apply NL.put1))); done))))⟩)
  case rest =>
    clear hL0 O3 D3
    obtain ⟨k4, k5, rfl, rfl, rfl, hL0⟩ := hcut
    go_wp2_with fail
    with_reducible refine Calls.mono (O4.out _) ?_
    rintro e x6 ⟨rfl, hb⟩
    replace hL0 := hL0.call hb
    clear hb O4
    go_wp2_with fail
    with_reducible refine Calls.mono (P4.out _) ?_
    rintro e x7 ⟨rfl, hb⟩
    replace hL0 := hL0.call hb
    clear hb P4
    replace hL0 := hL0.new rfl two 32
    generalize hweq : x7.alloc (.cells #[.int .u64 ((lo two : Nat) : Int), .string (hs two)] 32) = x8 at hL0
    go_wp2_with fail
    with_reducible refine Calls.mono (O5.out _) ?_
    rintro e x9 ⟨rfl, hb⟩
    replace hL0 := hL0.call hb
    clear hb O5 hweq
    go_wp2_with fail
    with_reducible refine Calls.mono (P5.out _) ?_
    rintro e x10 ⟨rfl, hb⟩
    replace hL0 := hL0.call hb
    clear hb P5
    replace hL0 := hL0.new rfl six 32
    generalize hweq : x10.alloc (.cells #[.int .u64 ((lo six : Nat) : Int), .string (hs six)] 32) = x11 at hL0
    go_upto_region 6 with fail
    go_cut [11, 12] from 11 to 58 (fun t11 t12 wx => ∃ k11, t11 = .pointer (some ⟨k11, 0, none⟩) ∧ t12 = .bool true ∧ NL w wx [(k11, less), (x10.heap.size, six), (x7.heap.size, two), (k5, 2), (k4, q), (x4.heap.size, ten), (x1.heap.size, m)])
    case first =>
      clear hweq
      have hR := NL.start x11
      have hnw : ∀ (W : World) (v0 v1 : Value) (t : TypeId), (W.alloc (.cells #[v0, v1] t)).cell? ⟨W.heap.size, 0, none⟩ = some v0 ∧ (W.alloc (.cells #[v0, v1] t)).cell? ⟨W.heap.size, 1, none⟩ = some v1 ∧ ∀ j, (W.alloc (.cells #[v0, v1] t)).frozen? ⟨W.heap.size, j, none⟩ = false := nw_all
      have hs0 : [(x4.heap.size, ten)] ⊆ [(x10.heap.size, six), (x7.heap.size, two), (k5, 2), (k4, q), (x4.heap.size, ten), (x1.heap.size, m)] := by simp
      go_region_held3 (fun w' => w'.cell? ⟨x4.heap.size, 0, none⟩ = some (.int .u64 ((lo ten : Nat) : Int)) ∧ w'.cell? ⟨x4.heap.size, 1, none⟩ = some (.string (hs ten)))
        ((apply (NL.keep (w0 := x11) (C := [(x4.heap.size, ten)]) hL0 hs0); (first | ((repeat (first | (with_reducible exact szAD _ _) | (with_reducible exact szA _ _) | (with_reducible exact szD _) | (with_reducible exact rfl) | assumption | (with_reducible apply NL.drew) | (with_reducible apply NL.new0) | (with_reducible apply NL.new) | (with_reducible apply NL.put0) | (with_reducible apply NL.put1))); done) | ((with_reducible apply NL.put1); (repeat (first | (with_reducible exact szAD _ _) | (with_reducible exact szA _ _) | (with_reducible exact szD _) | (with_reducible exact rfl) | assumption | (with_reducible apply NL.drew) | (with_reducible apply NL.new0) | (with_reducible apply NL.new) | (with_reducible apply NL.put0) | (with_reducible apply NL.put1))); done))))
        (first
          | (go_at_call 65; ((with_reducible refine Calls.mono (O6.out _) ?_); rintro e wc0 ⟨rfl, hbc0⟩; have hLc0 := NL.call (w0 := x11) (by (first | ((repeat (first | (with_reducible exact szAD _ _) | (with_reducible exact szA _ _) | (with_reducible exact szD _) | (with_reducible exact rfl) | assumption | (with_reducible apply NL.drew) | (with_reducible apply NL.new0) | (with_reducible apply NL.new) | (with_reducible apply NL.put0) | (with_reducible apply NL.put1))); done) | ((with_reducible apply NL.put1); (repeat (first | (with_reducible exact szAD _ _) | (with_reducible exact szA _ _) | (with_reducible exact szD _) | (with_reducible exact rfl) | assumption | (with_reducible apply NL.drew) | (with_reducible apply NL.new0) | (with_reducible apply NL.new) | (with_reducible apply NL.put0) | (with_reducible apply NL.put1))); done))) hbc0; have hAc0 := hLc0.fc; simp only [fc, ne, and_true, ne_eq, not_false_eq_true] at hAc0))
          | (go_at_call 51; ((with_reducible refine Calls.mono (S6.out _) ?_); rintro e wc1 ⟨rfl, hbc1⟩; have hLc1 := NL.call (w0 := x11) (by (first | ((repeat (first | (with_reducible exact szAD _ _) | (with_reducible exact szA _ _) | (with_reducible exact szD _) | (with_reducible exact rfl) | assumption | (with_reducible apply NL.drew) | (with_reducible apply NL.new0) | (with_reducible apply NL.new) | (with_reducible apply NL.put0) | (with_reducible apply NL.put1))); done) | ((with_reducible apply NL.put1); (repeat (first | (with_reducible exact szAD _ _) | (with_reducible exact szA _ _) | (with_reducible exact szD _) | (with_reducible exact rfl) | assumption | (with_reducible apply NL.drew) | (with_reducible apply NL.new0) | (with_reducible apply NL.new) | (with_reducible apply NL.put0) | (with_reducible apply NL.put1))); done))) hbc1; have hAc1 := hLc1.fc; simp only [fc, ne, and_true, ne_eq, not_false_eq_true] at hAc1)))
      all_goals (
        go_wp2_with fail
        go_meet
        exact ⟨_, rfl, rfl, NL.join (L := [_]) hL0 (by (first | ((repeat (first | (with_reducible exact szAD _ _) | (with_reducible exact szA _ _) | (with_reducible exact szD _) | (with_reducible exact rfl) | assumption | (with_reducible apply NL.drew) | (with_reducible apply NL.new0) | (with_reducible apply NL.new) | (with_reducible apply NL.put0) | (with_reducible apply NL.put1))); done) | ((with_reducible apply NL.put1); (repeat (first | (with_reducible exact szAD _ _) | (with_reducible exact szA _ _) | (with_reducible exact szD _) | (with_reducible exact rfl) | assumption | (with_reducible apply NL.drew) | (with_reducible apply NL.new0) | (with_reducible apply NL.new) | (with_reducible apply NL.put0) | (with_reducible apply NL.put1))); done)))⟩)
    case rest =>
      clear hL0 O6 S6
      obtain ⟨k11, rfl, rfl, hL0⟩ := hcut
      go_wp2_with fail
      with_reducible refine Calls.mono (O7a.out _) ?_
      rintro e x12 ⟨rfl, hb⟩
      replace hL0 := hL0.call hb
      clear hb O7a
      go_wp2_with fail
      with_reducible refine Calls.mono (O7b.out _) ?_
      rintro e x13 ⟨rfl, hb⟩
      replace hL0 := hL0.call hb
      clear hb O7b
      go_wp2_with fail
      with_reducible refine Calls.mono (S7.out _) ?_
      rintro e x14 ⟨rfl, hb⟩
      replace hL0 := hL0.call hb
      clear hb S7
      replace hL0 := hL0.new rfl 0 32
      generalize hweq : x14.alloc (.cells #[.int .u64 ((lo 0 : Nat) : Int), .string (hs 0)] 32) = x15 at hL0
      go_wp2_with fail
      with_reducible refine Calls.mono (O8.out _) ?_
      rintro e x16 ⟨rfl, hb⟩
      replace hL0 := hL0.call hb
      clear hb O8 hweq
      go_wp2_with fail
      with_reducible refine Calls.mono (D8.out _) ?_
      rintro e x17 ⟨rfl, hb⟩
      replace hL0 := hL0.call hb
      clear hb D8
      replace hL0 := (hL0.new0 rfl 32).new0 (szA _ _) 32
      go_wp2_with fail
      with_reducible refine Calls.mono (P9.out _) ?_
      rintro e x19 ⟨rfl, hb⟩
      replace hL0 := hL0.call hb
      clear hb P9
      replace hL0 := hL0.new rfl 1 32
      generalize hweq : x19.alloc (.cells #[.int .u64 ((lo 1 : Nat) : Int), .string (hs 1)] 32) = x20 at hL0
      go_wp2_with fail
      with_reducible refine Calls.mono (O10.out _) ?_
      rintro e x21 ⟨rfl, hb⟩
      replace hL0 := hL0.call hb
      clear hb O10 hweq
      go_wp2_with fail
      with_reducible refine Calls.mono (P10.out _) ?_
      rintro e x22 ⟨rfl, hb⟩
      replace hL0 := hL0.call hb
      clear hb P10
      replace hL0 := hL0.new0 rfl 32
      go_upto_region 11 with fail
      generalize hz20 : (x22.alloc (.cells #[.int .u64 0, .string ⟨#[]⟩] 32)) = wz at hL0 ⊢
      clear hz20
      go_cut [120] from 82 to 120 (fun t120 wx => t120 = .bool false ∧ NL w wx [(x22.heap.size, 0), (x19.heap.size, 1), (x17.heap.size + 1, 0), (x17.heap.size, 0), (x14.heap.size, 0), (k11, less), (x10.heap.size, six), (x7.heap.size, two), (k5, 2), (k4, q), (x4.heap.size, ten), (x1.heap.size, m)])
      case first =>
        have htB : Tab wz := htab.below hL0.bl
        have hR := NL.start wz
        have hs0 : [(x1.heap.size, m), (k4, q), (k5, 2), (x7.heap.size, two), (x10.heap.size, six), (k11, less)] ⊆ [(x22.heap.size, 0), (x19.heap.size, 1), (x17.heap.size + 1, 0), (x17.heap.size, 0), (x14.heap.size, 0), (k11, less), (x10.heap.size, six), (x7.heap.size, two), (k5, 2), (k4, q), (x4.heap.size, ten), (x1.heap.size, m)] := by simp
        go_region_held3 (fun w' => w'.cell? ⟨x1.heap.size, 0, none⟩ = some (.int .u64 ((lo m : Nat) : Int)) ∧ w'.cell? ⟨x1.heap.size, 1, none⟩ = some (.string (hs m)) ∧ w'.cell? ⟨k4, 0, none⟩ = some (.int .u64 ((lo q : Nat) : Int)) ∧ w'.cell? ⟨k4, 1, none⟩ = some (.string (hs q)) ∧ w'.cell? ⟨k5, 0, none⟩ = some (.int .u64 ((lo 2 : Nat) : Int)) ∧ w'.cell? ⟨k5, 1, none⟩ = some (.string (hs 2)) ∧ w'.cell? ⟨x7.heap.size, 0, none⟩ = some (.int .u64 ((lo two : Nat) : Int)) ∧ w'.cell? ⟨x7.heap.size, 1, none⟩ = some (.string (hs two)) ∧ w'.cell? ⟨x10.heap.size, 0, none⟩ = some (.int .u64 ((lo six : Nat) : Int)) ∧ w'.cell? ⟨x10.heap.size, 1, none⟩ = some (.string (hs six)) ∧ w'.cell? ⟨k11, 0, none⟩ = some (.int .u64 ((lo less : Nat) : Int)) ∧ w'.cell? ⟨k11, 1, none⟩ = some (.string (hs less)))
          ((apply (NL.keep (w0 := wz) (C := [(x1.heap.size, m), (k4, q), (k5, 2), (x7.heap.size, two), (x10.heap.size, six), (k11, less)]) hL0 hs0); (first | ((repeat (first | (with_reducible exact szAD _ _) | (with_reducible exact szA _ _) | (with_reducible exact szD _) | (with_reducible exact rfl) | assumption | (with_reducible apply NL.drew) | (with_reducible apply NL.new0) | (with_reducible apply NL.new) | (with_reducible apply NL.put0) | (with_reducible apply NL.put1))); done) | ((with_reducible apply NL.put1); (repeat (first | (with_reducible exact szAD _ _) | (with_reducible exact szA _ _) | (with_reducible exact szD _) | (with_reducible exact rfl) | assumption | (with_reducible apply NL.drew) | (with_reducible apply NL.new0) | (with_reducible apply NL.new) | (with_reducible apply NL.put0) | (with_reducible apply NL.put1))); done))))
          (first
            | (go_at_call 58; ((with_reducible refine Calls.mono (M11.out _) ?_); rintro e wd0 ⟨rfl, hbd0⟩; have hLd0 := NL.call (w0 := wz) (by (first | ((repeat (first | (with_reducible exact szAD _ _) | (with_reducible exact szA _ _) | (with_reducible exact szD _) | (with_reducible exact rfl) | assumption | (with_reducible apply NL.drew) | (with_reducible apply NL.new0) | (with_reducible apply NL.new) | (with_reducible apply NL.put0) | (with_reducible apply NL.put1))); done) | ((with_reducible apply NL.put1); (repeat (first | (with_reducible exact szAD _ _) | (with_reducible exact szA _ _) | (with_reducible exact szD _) | (with_reducible exact rfl) | assumption | (with_reducible apply NL.drew) | (with_reducible apply NL.new0) | (with_reducible apply NL.new) | (with_reducible apply NL.put0) | (with_reducible apply NL.put1))); done))) hbd0; have hAd0 := hLd0.fc; simp only [fc, ne, and_true, ne_eq, not_false_eq_true] at hAd0))
            | (go_at_call 34; ((with_reducible refine Calls.mono (T11a.out _ (htB.below (NL.bl (w0 := wz) (by (first | ((repeat (first | (with_reducible exact szAD _ _) | (with_reducible exact szA _ _) | (with_reducible exact szD _) | (with_reducible exact rfl) | assumption | (with_reducible apply NL.drew) | (with_reducible apply NL.new0) | (with_reducible apply NL.new) | (with_reducible apply NL.put0) | (with_reducible apply NL.put1))); done) | ((with_reducible apply NL.put1); (repeat (first | (with_reducible exact szAD _ _) | (with_reducible exact szA _ _) | (with_reducible exact szD _) | (with_reducible exact rfl) | assumption | (with_reducible apply NL.drew) | (with_reducible apply NL.new0) | (with_reducible apply NL.new) | (with_reducible apply NL.put0) | (with_reducible apply NL.put1))); done)))))) ?_); rintro e wd1 ⟨rfl, hbd1⟩; have hLd1 := NL.call (w0 := wz) (by (first | ((repeat (first | (with_reducible exact szAD _ _) | (with_reducible exact szA _ _) | (with_reducible exact szD _) | (with_reducible exact rfl) | assumption | (with_reducible apply NL.drew) | (with_reducible apply NL.new0) | (with_reducible apply NL.new) | (with_reducible apply NL.put0) | (with_reducible apply NL.put1))); done) | ((with_reducible apply NL.put1); (repeat (first | (with_reducible exact szAD _ _) | (with_reducible exact szA _ _) | (with_reducible exact szD _) | (with_reducible exact rfl) | assumption | (with_reducible apply NL.drew) | (with_reducible apply NL.new0) | (with_reducible apply NL.new) | (with_reducible apply NL.put0) | (with_reducible apply NL.put1))); done))) hbd1; have hAd1 := hLd1.fc; simp only [fc, ne, and_true, ne_eq, not_false_eq_true] at hAd1))
            | (go_at_call 34; ((with_reducible refine Calls.mono (T11b.out _ (htB.below (NL.bl (w0 := wz) (by (first | ((repeat (first | (with_reducible exact szAD _ _) | (with_reducible exact szA _ _) | (with_reducible exact szD _) | (with_reducible exact rfl) | assumption | (with_reducible apply NL.drew) | (with_reducible apply NL.new0) | (with_reducible apply NL.new) | (with_reducible apply NL.put0) | (with_reducible apply NL.put1))); done) | ((with_reducible apply NL.put1); (repeat (first | (with_reducible exact szAD _ _) | (with_reducible exact szA _ _) | (with_reducible exact szD _) | (with_reducible exact rfl) | assumption | (with_reducible apply NL.drew) | (with_reducible apply NL.new0) | (with_reducible apply NL.new) | (with_reducible apply NL.put0) | (with_reducible apply NL.put1))); done)))))) ?_); rintro e wd2 ⟨rfl, hbd2⟩; have hLd2 := NL.call (w0 := wz) (by (first | ((repeat (first | (with_reducible exact szAD _ _) | (with_reducible exact szA _ _) | (with_reducible exact szD _) | (with_reducible exact rfl) | assumption | (with_reducible apply NL.drew) | (with_reducible apply NL.new0) | (with_reducible apply NL.new) | (with_reducible apply NL.put0) | (with_reducible apply NL.put1))); done) | ((with_reducible apply NL.put1); (repeat (first | (with_reducible exact szAD _ _) | (with_reducible exact szA _ _) | (with_reducible exact szD _) | (with_reducible exact rfl) | assumption | (with_reducible apply NL.drew) | (with_reducible apply NL.new0) | (with_reducible apply NL.new) | (with_reducible apply NL.put0) | (with_reducible apply NL.put1))); done))) hbd2; have hAd2 := hLd2.fc; simp only [fc, ne, and_true, ne_eq, not_false_eq_true] at hAd2))
            | (go_at_call 65; ((with_reducible refine Calls.mono (O11a.out _) ?_); rintro e wd3 ⟨rfl, hbd3⟩; have hLd3 := NL.call (w0 := wz) (by (first | ((repeat (first | (with_reducible exact szAD _ _) | (with_reducible exact szA _ _) | (with_reducible exact szD _) | (with_reducible exact rfl) | assumption | (with_reducible apply NL.drew) | (with_reducible apply NL.new0) | (with_reducible apply NL.new) | (with_reducible apply NL.put0) | (with_reducible apply NL.put1))); done) | ((with_reducible apply NL.put1); (repeat (first | (with_reducible exact szAD _ _) | (with_reducible exact szA _ _) | (with_reducible exact szD _) | (with_reducible exact rfl) | assumption | (with_reducible apply NL.drew) | (with_reducible apply NL.new0) | (with_reducible apply NL.new) | (with_reducible apply NL.put0) | (with_reducible apply NL.put1))); done))) hbd3; have hAd3 := hLd3.fc; simp only [fc, ne, and_true, ne_eq, not_false_eq_true] at hAd3))
            | (go_at_call 60; ((with_reducible refine Calls.mono (G11.out _) ?_); rintro e wd4 ⟨rfl, hbd4⟩; have hLd4 := NL.call (w0 := wz) (by (first | ((repeat (first | (with_reducible exact szAD _ _) | (with_reducible exact szA _ _) | (with_reducible exact szD _) | (with_reducible exact rfl) | assumption | (with_reducible apply NL.drew) | (with_reducible apply NL.new0) | (with_reducible apply NL.new) | (with_reducible apply NL.put0) | (with_reducible apply NL.put1))); done) | ((with_reducible apply NL.put1); (repeat (first | (with_reducible exact szAD _ _) | (with_reducible exact szA _ _) | (with_reducible exact szD _) | (with_reducible exact rfl) | assumption | (with_reducible apply NL.drew) | (with_reducible apply NL.new0) | (with_reducible apply NL.new) | (with_reducible apply NL.put0) | (with_reducible apply NL.put1))); done))) hbd4; have hAd4 := hLd4.fc; simp only [fc, ne, and_true, ne_eq, not_false_eq_true] at hAd4))
            | (go_at_call 65; ((with_reducible refine Calls.mono (O11b.out _) ?_); rintro e wd5 ⟨rfl, hbd5⟩; have hLd5 := NL.call (w0 := wz) (by (first | ((repeat (first | (with_reducible exact szAD _ _) | (with_reducible exact szA _ _) | (with_reducible exact szD _) | (with_reducible exact rfl) | assumption | (with_reducible apply NL.drew) | (with_reducible apply NL.new0) | (with_reducible apply NL.new) | (with_reducible apply NL.put0) | (with_reducible apply NL.put1))); done) | ((with_reducible apply NL.put1); (repeat (first | (with_reducible exact szAD _ _) | (with_reducible exact szA _ _) | (with_reducible exact szD _) | (with_reducible exact rfl) | assumption | (with_reducible apply NL.drew) | (with_reducible apply NL.new0) | (with_reducible apply NL.new) | (with_reducible apply NL.put0) | (with_reducible apply NL.put1))); done))) hbd5; have hAd5 := hLd5.fc; simp only [fc, ne, and_true, ne_eq, not_false_eq_true] at hAd5))
            | (go_at_call 64; ((with_reducible refine Calls.mono (Q11.out _) ?_); rintro e wd6 ⟨rfl, hbd6⟩; have hLd6 := NL.call (w0 := wz) (by (first | ((repeat (first | (with_reducible exact szAD _ _) | (with_reducible exact szA _ _) | (with_reducible exact szD _) | (with_reducible exact rfl) | assumption | (with_reducible apply NL.drew) | (with_reducible apply NL.new0) | (with_reducible apply NL.new) | (with_reducible apply NL.put0) | (with_reducible apply NL.put1))); done) | ((with_reducible apply NL.put1); (repeat (first | (with_reducible exact szAD _ _) | (with_reducible exact szA _ _) | (with_reducible exact szD _) | (with_reducible exact rfl) | assumption | (with_reducible apply NL.drew) | (with_reducible apply NL.new0) | (with_reducible apply NL.new) | (with_reducible apply NL.put0) | (with_reducible apply NL.put1))); done))) hbd6; have hAd6 := hLd6.fc; simp only [fc, ne, and_true, ne_eq, not_false_eq_true] at hAd6))
            | (go_at_call 65; ((with_reducible refine Calls.mono (O11c.out _) ?_); rintro e wd7 ⟨rfl, hbd7⟩; have hLd7 := NL.call (w0 := wz) (by (first | ((repeat (first | (with_reducible exact szAD _ _) | (with_reducible exact szA _ _) | (with_reducible exact szD _) | (with_reducible exact rfl) | assumption | (with_reducible apply NL.drew) | (with_reducible apply NL.new0) | (with_reducible apply NL.new) | (with_reducible apply NL.put0) | (with_reducible apply NL.put1))); done) | ((with_reducible apply NL.put1); (repeat (first | (with_reducible exact szAD _ _) | (with_reducible exact szA _ _) | (with_reducible exact szD _) | (with_reducible exact rfl) | assumption | (with_reducible apply NL.drew) | (with_reducible apply NL.new0) | (with_reducible apply NL.new) | (with_reducible apply NL.put0) | (with_reducible apply NL.put1))); done))) hbd7; have hAd7 := hLd7.fc; simp only [fc, ne, and_true, ne_eq, not_false_eq_true] at hAd7))
            | (go_at_call 65; ((with_reducible refine Calls.mono (O11d.out _) ?_); rintro e wd8 ⟨rfl, hbd8⟩; have hLd8 := NL.call (w0 := wz) (by (first | ((repeat (first | (with_reducible exact szAD _ _) | (with_reducible exact szA _ _) | (with_reducible exact szD _) | (with_reducible exact rfl) | assumption | (with_reducible apply NL.drew) | (with_reducible apply NL.new0) | (with_reducible apply NL.new) | (with_reducible apply NL.put0) | (with_reducible apply NL.put1))); done) | ((with_reducible apply NL.put1); (repeat (first | (with_reducible exact szAD _ _) | (with_reducible exact szA _ _) | (with_reducible exact szD _) | (with_reducible exact rfl) | assumption | (with_reducible apply NL.drew) | (with_reducible apply NL.new0) | (with_reducible apply NL.new) | (with_reducible apply NL.put0) | (with_reducible apply NL.put1))); done))) hbd8; have hAd8 := hLd8.fc; simp only [fc, ne, and_true, ne_eq, not_false_eq_true] at hAd8))
            | (go_at_call 53; ((with_reducible refine Calls.mono (A11.out _) ?_); rintro e wd9 ⟨rfl, hbd9⟩; have hLd9 := NL.call (w0 := wz) (by (first | ((repeat (first | (with_reducible exact szAD _ _) | (with_reducible exact szA _ _) | (with_reducible exact szD _) | (with_reducible exact rfl) | assumption | (with_reducible apply NL.drew) | (with_reducible apply NL.new0) | (with_reducible apply NL.new) | (with_reducible apply NL.put0) | (with_reducible apply NL.put1))); done) | ((with_reducible apply NL.put1); (repeat (first | (with_reducible exact szAD _ _) | (with_reducible exact szA _ _) | (with_reducible exact szD _) | (with_reducible exact rfl) | assumption | (with_reducible apply NL.drew) | (with_reducible apply NL.new0) | (with_reducible apply NL.new) | (with_reducible apply NL.put0) | (with_reducible apply NL.put1))); done))) hbd9; have hAd9 := hLd9.fc; simp only [fc, ne, and_true, ne_eq, not_false_eq_true] at hAd9))
            | (go_at_call 66; ((with_reducible refine Calls.mono (B11.out _) ?_); rintro e wda ⟨rfl, hbda⟩; have hLda := NL.call (w0 := wz) (by (first | ((repeat (first | (with_reducible exact szAD _ _) | (with_reducible exact szA _ _) | (with_reducible exact szD _) | (with_reducible exact rfl) | assumption | (with_reducible apply NL.drew) | (with_reducible apply NL.new0) | (with_reducible apply NL.new) | (with_reducible apply NL.put0) | (with_reducible apply NL.put1))); done) | ((with_reducible apply NL.put1); (repeat (first | (with_reducible exact szAD _ _) | (with_reducible exact szA _ _) | (with_reducible exact szD _) | (with_reducible exact rfl) | assumption | (with_reducible apply NL.drew) | (with_reducible apply NL.new0) | (with_reducible apply NL.new) | (with_reducible apply NL.put0) | (with_reducible apply NL.put1))); done))) hbda; have hAda := hLda.fc; simp only [fc, ne, and_true, ne_eq, not_false_eq_true] at hAda)))
        all_goals (
          go_wp2_with fail
          go_meet
          exact ⟨rfl, NL.join (L := []) hL0 (by (first | ((repeat (first | (with_reducible exact szAD _ _) | (with_reducible exact szA _ _) | (with_reducible exact szD _) | (with_reducible exact rfl) | assumption | (with_reducible apply NL.drew) | (with_reducible apply NL.new0) | (with_reducible apply NL.new) | (with_reducible apply NL.put0) | (with_reducible apply NL.put1))); done) | ((with_reducible apply NL.put1); (repeat (first | (with_reducible exact szAD _ _) | (with_reducible exact szA _ _) | (with_reducible exact szD _) | (with_reducible exact rfl) | assumption | (with_reducible apply NL.drew) | (with_reducible apply NL.new0) | (with_reducible apply NL.new) | (with_reducible apply NL.put0) | (with_reducible apply NL.put1))); done)))⟩)
      case rest =>
        clear hL0 M11 T11a T11b O11a G11 O11b Q11 O11c O11d A11 B11
        obtain ⟨rfl, hL0⟩ := hcut
        go_wp2_with fail
        with_reducible refine Calls.mono (R13.out _) ?_
        rintro e x24 ⟨rfl, hb⟩
        replace hL0 := hL0.call hb
        clear hb R13
        replace hL0 := hL0.new0 rfl 32
        go_wp2_with fail
        with_reducible refine Calls.mono (R14.out _) ?_
        rintro e x26 ⟨rfl, hb⟩
        replace hL0 := hL0.call hb
        clear hb R14
        replace hL0 := hL0.new0 rfl 32
        go_wp2_with fail
        with_reducible refine Calls.mono (R15.out _) ?_
        rintro e x28 ⟨rfl, hb⟩
        replace hL0 := hL0.call hb
        clear hb R15
        replace hL0 := hL0.new0 rfl 32
        go_wp2_with fail
        with_reducible refine Calls.mono (R16.out _) ?_
        rintro e x30 ⟨rfl, hb⟩
        replace hL0 := hL0.call hb
        clear hb R16
        replace hL0 := hL0.new rfl 12 32
        generalize hweq : x30.alloc (.cells #[.int .u64 ((lo 12 : Nat) : Int), .string (hs 12)] 32) = x31 at hL0
        go_wp2_with fail
        clear hweq
        have hR := NL.start x31
        have hs0 : [(x19.heap.size, 1), (x30.heap.size, 12)] ⊆ [(x30.heap.size, 12), (x28.heap.size, 0), (x26.heap.size, 0), (x24.heap.size, 0), (x22.heap.size, 0), (x19.heap.size, 1), (x17.heap.size + 1, 0), (x17.heap.size, 0), (x14.heap.size, 0), (k11, less), (x10.heap.size, six), (x7.heap.size, two), (k5, 2), (k4, q), (x4.heap.size, ten), (x1.heap.size, m)] := by simp
        go_region_held3 (fun w' => w'.cell? ⟨x19.heap.size, 0, none⟩ = some (.int .u64 ((lo 1 : Nat) : Int)) ∧ w'.cell? ⟨x19.heap.size, 1, none⟩ = some (.string (hs 1)) ∧ w'.cell? ⟨x30.heap.size, 0, none⟩ = some (.int .u64 ((lo 12 : Nat) : Int)) ∧ w'.cell? ⟨x30.heap.size, 1, none⟩ = some (.string (hs 12)))
          ((apply (NL.keep (w0 := x31) (C := [(x19.heap.size, 1), (x30.heap.size, 12)]) hL0 hs0); (first | ((repeat (first | (with_reducible exact szAD _ _) | (with_reducible exact szA _ _) | (with_reducible exact szD _) | (with_reducible exact rfl) | assumption | (with_reducible apply NL.drew) | (with_reducible apply NL.new0) | (with_reducible apply NL.new) | (with_reducible apply NL.put0) | (with_reducible apply NL.put1))); done) | ((with_reducible apply NL.put1); (repeat (first | (with_reducible exact szAD _ _) | (with_reducible exact szA _ _) | (with_reducible exact szD _) | (with_reducible exact rfl) | assumption | (with_reducible apply NL.drew) | (with_reducible apply NL.new0) | (with_reducible apply NL.new) | (with_reducible apply NL.put0) | (with_reducible apply NL.put1))); done))))
          (first
            | (go_at_call 65; ((with_reducible refine Calls.mono (O17a.out _) ?_); rintro e we0 ⟨rfl, hbe0⟩; have hLe0 := NL.call (w0 := x31) (by (first | ((repeat (first | (with_reducible exact szAD _ _) | (with_reducible exact szA _ _) | (with_reducible exact szD _) | (with_reducible exact rfl) | assumption | (with_reducible apply NL.drew) | (with_reducible apply NL.new0) | (with_reducible apply NL.new) | (with_reducible apply NL.put0) | (with_reducible apply NL.put1))); done) | ((with_reducible apply NL.put1); (repeat (first | (with_reducible exact szAD _ _) | (with_reducible exact szA _ _) | (with_reducible exact szD _) | (with_reducible exact rfl) | assumption | (with_reducible apply NL.drew) | (with_reducible apply NL.new0) | (with_reducible apply NL.new) | (with_reducible apply NL.put0) | (with_reducible apply NL.put1))); done))) hbe0; have hAe0 := hLe0.fc; simp only [fc, ne, and_true, ne_eq, not_false_eq_true] at hAe0))
            | (go_at_call 65; ((with_reducible refine Calls.mono (O17b.out _) ?_); rintro e we1 ⟨rfl, hbe1⟩; have hLe1 := NL.call (w0 := x31) (by (first | ((repeat (first | (with_reducible exact szAD _ _) | (with_reducible exact szA _ _) | (with_reducible exact szD _) | (with_reducible exact rfl) | assumption | (with_reducible apply NL.drew) | (with_reducible apply NL.new0) | (with_reducible apply NL.new) | (with_reducible apply NL.put0) | (with_reducible apply NL.put1))); done) | ((with_reducible apply NL.put1); (repeat (first | (with_reducible exact szAD _ _) | (with_reducible exact szA _ _) | (with_reducible exact szD _) | (with_reducible exact rfl) | assumption | (with_reducible apply NL.drew) | (with_reducible apply NL.new0) | (with_reducible apply NL.new) | (with_reducible apply NL.put0) | (with_reducible apply NL.put1))); done))) hbe1; have hAe1 := hLe1.fc; simp only [fc, ne, and_true, ne_eq, not_false_eq_true] at hAe1)))
        all_goals (
          go_wp2_with fail
          exact bodyPost_ret (v := .bool true) (by simp [results, Tryz.results16, go_sem]) rfl ⟨rfl, (NL.join (L := []) hL0 (by (first | ((repeat (first | (with_reducible exact szAD _ _) | (with_reducible exact szA _ _) | (with_reducible exact szD _) | (with_reducible exact rfl) | assumption | (with_reducible apply NL.drew) | (with_reducible apply NL.new0) | (with_reducible apply NL.new) | (with_reducible apply NL.put0) | (with_reducible apply NL.put1))); done) | ((with_reducible apply NL.put1); (repeat (first | (with_reducible exact szAD _ _) | (with_reducible exact szA _ _) | (with_reducible exact szD _) | (with_reducible exact rfl) | assumption | (with_reducible apply NL.drew) | (with_reducible apply NL.new0) | (with_reducible apply NL.new) | (with_reducible apply NL.put0) | (with_reducible apply NL.put1))); done)))).bl⟩)
end Go.Proofs.YthehcjfmokabfaaGreatDoor

/-
  Layer 1, law C: NatsDivides.
-/
namespace Go.Proofs.YthehcjfmokabfaaGreatDoor
open Go.RowKit
attribute [local irreducible] lo hs sm s64 c64 d64 b64 mh ml pd pc qd qc val hiB str cmpI srD lz nb isq decB

theorem szA2 (W : World) (o o' : Obj) : ((W.alloc o).alloc o').heap.size = W.heap.size + 1 + 1 := by rw [szA, szA]
theorem Ws.form {w : World} {v : Value} {l : List Nat} (h : Ws w v l) : ∃ ao c, v = .slice ao l.length c := by
  rcases h with ⟨ao, c, rfl, rfl⟩ | ⟨a, c, rfl, _⟩
  · exact ⟨_, _, rfl⟩
  · exact ⟨_, _, rfl⟩
/-- A number that is not 0 is not the zero struct. -/
theorem ne_zero {b : Nat} (hb : 0 < b) : ((((lo b : Nat) : Int) == 0) = false) ∨ ((((lo b : Nat) : Int) == 0) = true ∧ ((hs b).toList == []) = false) := by
  have h := eq_zero hb
  rw [show ((lo 0 : Nat) : Int) = 0 by rw [lo_small Bs_pos]; rfl, hs_small Bs_pos, show (⟨#[]⟩ : ByteArray).toList = [] by rw [ByteArray.toList_eq]] at h
  exact h
theorem lo_zero : ((lo 0 : Nat) : Int) = 0 := by rw [lo_small Bs_pos]; rfl
theorem hs_zero : hs 0 = ⟨#[]⟩ := hs_small Bs_pos

set_option maxHeartbeats 4000000 in
set_option maxRecDepth 100000 in
theorem divides_big (ax ay az : Option Addr) (cx cy cz nx ny nz : Nat) (h : 24 < nx ∨ 24 < ny ∨ 24 < nz) (w : World) (htab : Tab w) :
    Calls Tryz.prog 9 #[.slice ax nx cx, .slice ay ny cy, .slice az nz cz] w fun e w' => e = .returned (.bool true) ∧ Below w.heap.size w w' := by
  have HW := Lib.hid (works_any w htab)
  have key : (decide ((24 : Int) < (nx : Int)) = true) ∨ (decide ((24 : Int) < (nx : Int)) = false ∧ decide ((24 : Int) < (ny : Int)) = true) ∨ (decide ((24 : Int) < (nx : Int)) = false ∧ decide ((24 : Int) < (ny : Int)) = false ∧ decide ((24 : Int) < (nz : Int)) = true) := by
    by_cases h1 : 24 < nx
    · exact .inl (decide_eq_true (by omega))
    · by_cases h2 : 24 < ny
      · exact .inr (.inl ⟨decide_eq_false (by omega), decide_eq_true (by omega)⟩)
      · exact .inr (.inr ⟨decide_eq_false (by omega), decide_eq_false (by omega), decide_eq_true (by omega)⟩)
  clear h
  rcases key with k1 | ⟨k1, k2⟩ | ⟨k1, k2, k3⟩
  all_goals (
    go_enter Tryz.func9, Tryz.ntmps9
    go_wp2_with fail
    with_reducible refine Calls.mono HW.out ?_
    rintro e w1 ⟨rfl, hb⟩
    go_wp2_with fail
    exact bodyPost_ret (v := .bool true) (by simp [results, Tryz.results9, go_sem]) rfl ⟨rfl, hb⟩)

set_option maxHeartbeats 16000000 in
set_option maxRecDepth 100000 in
theorem divides_small (vx vy vz : Value) (lx ly lz : List Nat) (w : World) (htab : Tab w) (hx : Ws w vx lx) (hy : Ws w vy ly) (hz : Ws w vz lz) (nx : lx.length ≤ 24) (ny : ly.length ≤ 24) (nz : lz.length ≤ 24) :
    Calls Tryz.prog 9 #[vx, vy, vz] w fun e w' => e = .returned (.bool true) ∧ Below w.heap.size w w' := by
  have MX := fun w h => made_any vx lx (by omega) w h
  have MY := fun w h => made_any vy ly (by omega) w h
  have MZ := fun w h => made_any vz lz (by omega) w h
  obtain ⟨ax, cx, ex⟩ := hx.form
  obtain ⟨ay, cy, ey⟩ := hy.form
  obtain ⟨az, cz, ez⟩ := hz.form
  have dx := Nat.le_trans (made_digs hx.lt) nx
  have dy := Nat.le_trans (made_digs hy.lt) ny
  have dz := Nat.le_trans (made_digs hz.lt) nz
  subst ex ey ez
  have k1 : decide ((24 : Int) < (lx.length : Int)) = false := decide_eq_false (by omega)
  have k2 : decide ((24 : Int) < (ly.length : Int)) = false := decide_eq_false (by omega)
  have k3 : decide ((24 : Int) < (lz.length : Int)) = false := decide_eq_false (by omega)
  generalize made lx = a at *
  generalize made ly = b at *
  generalize made lz = c at *
  replace hx := Lib.hid hx
  replace hy := Lib.hid hy
  replace hz := Lib.hid hz
  replace MX := Lib.hid MX
  replace MY := Lib.hid MY
  replace MZ := Lib.hid MZ
  generalize lx.length = Nx at *
  generalize ly.length = Ny at *
  generalize lz.length = Nz at *
  have hL0 : NL w w [] := NL.start w
  go_enter Tryz.func9, Tryz.ntmps9
  go_wp2_with fail
  with_reducible refine Calls.mono (MX.out _ hx.out) ?_
  rintro e x1 ⟨rfl, hb⟩
  replace hL0 := hL0.call hb
  clear hb MX
  go_wp2_with fail
  with_reducible refine Calls.mono (MY.out _ (hy.out.below hL0.bl)) ?_
  rintro e x2 ⟨rfl, hb⟩
  replace hL0 := hL0.call hb
  clear hb MY
  go_wp2_with fail
  with_reducible refine Calls.mono (MZ.out _ (hz.out.below hL0.bl)) ?_
  rintro e x3 ⟨rfl, hb⟩
  replace hL0 := hL0.call hb
  clear hb MZ
  replace hL0 := ((hL0.new rfl a 32).new (szA _ _) b 32).new (szA2 _ _ _) c 32
  generalize hweq : ((x3.alloc (.cells #[.int .u64 ((lo a : Nat) : Int), .string (hs a)] 32)).alloc (.cells #[.int .u64 ((lo b : Nat) : Int), .string (hs b)] 32)).alloc (.cells #[.int .u64 ((lo c : Nat) : Int), .string (hs c)] 32) = x4 at hL0
  obtain ⟨p1, r1⟩ := hL0.get (x3.heap.size) a (by (repeat (first | with_reducible exact List.mem_cons_self | with_reducible refine List.mem_cons_of_mem _ ?_)))
  obtain ⟨p2, r2⟩ := hL0.get (x3.heap.size + 1) b (by (repeat (first | with_reducible exact List.mem_cons_self | with_reducible refine List.mem_cons_of_mem _ ?_)))
  obtain ⟨p3, r3⟩ := hL0.get (x3.heap.size + 1 + 1) c (by (repeat (first | with_reducible exact List.mem_cons_self | with_reducible refine List.mem_cons_of_mem _ ?_)))
  rcases Nat.eq_zero_or_pos b with hb0 | hb0
  · subst hb0
    have DZ := Lib.hid (fun w => div_zero a w)
    go_wp2_with fail
    with_reducible refine Calls.mono (DZ.out _) ?_
    rintro e x5 ⟨rfl, hb⟩
    replace hL0 := hL0.call hb
    clear hb DZ hweq
    replace hL0 := ((hL0.new rfl 0 32).new (szA _ _) 0 32)
    generalize hweq : ((x5.alloc (.cells #[.int .u64 ((lo 0 : Nat) : Int), .string (hs 0)] 32)).alloc (.cells #[.int .u64 ((lo 0 : Nat) : Int), .string (hs 0)] 32)) = x6 at hL0
    have HW := Lib.hid (works_any _ (htab.below hL0.bl))
    obtain ⟨p4, r4⟩ := hL0.get (x3.heap.size + 1) 0 (by (repeat (first | with_reducible exact List.mem_cons_self | with_reducible refine List.mem_cons_of_mem _ ?_)))
    have z1 : (((lo 0 : Nat) : Int) == 0) = true := by rw [lo_zero]; rfl
    have z2 : ((hs 0).toList == []) = true := by rw [hs_zero, ByteArray.toList_eq]; rfl
    go_wp2_with fail
    with_reducible refine Calls.mono HW.out ?_
    rintro e x7 ⟨rfl, hb⟩
    replace hL0 := hL0.call hb
    clear hb HW hweq
    go_wp2_with fail
    exact bodyPost_ret (v := .bool true) (by simp [results, Tryz.results9, go_sem]) rfl ⟨rfl, hL0.bl⟩
  · have DP := Lib.hid (fun w => div_pos a b hb0 (by omega) w)
    obtain ⟨q, hq⟩ : ∃ q, q = a / b := ⟨_, rfl⟩
    obtain ⟨r, hr⟩ : ∃ r, r = a % b := ⟨_, rfl⟩
    rw [← hq, ← hr] at DP
    have HQ := Lib.hid hq
    have HR := Lib.hid hr
    clear hq hr
    go_wp2_with fail
    with_reducible refine Calls.mono (DP.out _) ?_
    rintro e x5 ⟨rfl, hb⟩
    replace hL0 := hL0.call hb
    clear hb DP hweq
    replace hL0 := ((hL0.new rfl q 32).new (szA _ _) r 32)
    generalize hweq : ((x5.alloc (.cells #[.int .u64 ((lo q : Nat) : Int), .string (hs q)] 32)).alloc (.cells #[.int .u64 ((lo r : Nat) : Int), .string (hs r)] 32)) = x6 at hL0
    obtain ⟨p5, r5⟩ := hL0.get (x3.heap.size + 1) b (by (repeat (first | with_reducible exact List.mem_cons_self | with_reducible refine List.mem_cons_of_mem _ ?_)))
    go_upto_region 5 with fail
    go_cut [48] from 46 to 48 (fun t48 wx => t48 = .bool false ∧ NL w wx [(x5.heap.size + 1, r), (x5.heap.size, q), (x3.heap.size + 1 + 1, c), (x3.heap.size + 1, b), (x3.heap.size, a)])
    case first =>
      rcases ne_zero hb0 with h1 | ⟨h1, h2⟩
      all_goals (
        go_wp2_with fail
        go_meet
        exact ⟨rfl, hL0⟩)
    case rest =>
      have dq : (digs q).length ≤ 24 := by rw [HQ.out]; exact Nat.le_trans (digs_mono (Nat.div_le_self _ _)) dx
      have hrb : r < b := by rw [HR.out]; exact Nat.mod_lt _ hb0
      have dr : (digs r).length ≤ 24 := Nat.le_trans (digs_mono (Nat.le_of_lt hrb)) dy
      have hqr : q * b + r = a := by rw [HQ.out, HR.out, Nat.mul_comm]; exact Nat.div_add_mod a b
      have dqb : (digs (q * b)).length ≤ 24 := Nat.le_trans (digs_mono (by omega)) dx
      have C7 := fun w => cmp_any r b w
      rw [cmpI_lt hrb] at C7
      replace C7 := Lib.hid C7
      have M7 := Lib.hid (fun w => mul_any q b (by omega) (by omega) w)
      have A7 := fun w => add_any (q * b) r (by omega) (by omega) w
      rw [hqr] at A7
      replace A7 := Lib.hid A7
      have D9 := fun w => div_pos c b hb0 (by omega) w
      obtain ⟨q2, hq2⟩ : ∃ q, q = c / b := ⟨_, rfl⟩
      obtain ⟨r2, hr2⟩ : ∃ r, r = c % b := ⟨_, rfl⟩
      have hr2b : r2 < b := by rw [hr2]; exact Nat.mod_lt _ hb0
      have dr2 : (digs r2).length ≤ 24 := Nat.le_trans (digs_mono (Nat.le_of_lt hr2b)) dy
      rw [← hq2, ← hr2] at D9
      replace D9 := Lib.hid D9
      have M10 := Lib.hid (fun w => mul_any a b (by omega) (by omega) w)
      have dab : (digs (a * b)).length ≤ 48 := Nat.le_trans (digs_mul_le dx dy) (by omega)
      have A10 := Lib.hid (fun w => add_any (a * b) r2 (by omega) (by omega) w)
      have dsm : (digs (a * b + r2)).length ≤ 49 := digs_add_le dab (Nat.le_trans dr2 (by omega))
      have D10 := fun w => div_pos (a * b + r2) b hb0 (by omega) w
      rw [show (a * b + r2) / b = a by rw [Nat.mul_comm, Nat.mul_add_div hb0, Nat.div_eq_of_lt hr2b, Nat.add_zero], show (a * b + r2) % b = r2 by rw [Nat.mul_comm, Nat.mul_add_mod, Nat.mod_eq_of_lt hr2b]] at D10
      replace D10 := Lib.hid D10
      generalize q * b = qb at *
      obtain ⟨ab, hab⟩ : ∃ n, n = a * b := ⟨_, rfl⟩
      rw [← hab] at M10 A10 D10
      obtain ⟨sm1, hsm⟩ : ∃ n, n = ab + r2 := ⟨_, rfl⟩
      rw [← hsm] at A10 D10
      clear hL0 hq2 hr2 hab hsm hqr dqb dab dsm dq dr dr2 hrb hr2b HQ HR
      obtain ⟨rfl, hL0⟩ := hcut
      go_upto_region 7 with fail
      go_cut [70] from 54 to 70 (fun t70 wx => t70 = .bool false ∧ NL w wx [(x5.heap.size + 1, r), (x5.heap.size, q), (x3.heap.size + 1 + 1, c), (x3.heap.size + 1, b), (x3.heap.size, a)])
      case first =>
        have hR := NL.start wc
        have hs0 : [(x5.heap.size + 1, r), (x3.heap.size + 1, b), (x5.heap.size, q), (x3.heap.size, a)] ⊆ [(x5.heap.size + 1, r), (x5.heap.size, q), (x3.heap.size + 1 + 1, c), (x3.heap.size + 1, b), (x3.heap.size, a)] := by simp
        go_region_held3 (fun w' => w'.cell? ⟨x5.heap.size + 1, 0, none⟩ = some (.int .u64 ((lo r : Nat) : Int)) ∧ w'.cell? ⟨x5.heap.size + 1, 1, none⟩ = some (.string (hs r)) ∧ w'.cell? ⟨x3.heap.size + 1, 0, none⟩ = some (.int .u64 ((lo b : Nat) : Int)) ∧ w'.cell? ⟨x3.heap.size + 1, 1, none⟩ = some (.string (hs b)) ∧ w'.cell? ⟨x5.heap.size, 0, none⟩ = some (.int .u64 ((lo q : Nat) : Int)) ∧ w'.cell? ⟨x5.heap.size, 1, none⟩ = some (.string (hs q)) ∧ w'.cell? ⟨x3.heap.size, 0, none⟩ = some (.int .u64 ((lo a : Nat) : Int)) ∧ w'.cell? ⟨x3.heap.size, 1, none⟩ = some (.string (hs a)))
          ((apply (NL.keep (w0 := wc) (C := [(x5.heap.size + 1, r), (x3.heap.size + 1, b), (x5.heap.size, q), (x3.heap.size, a)]) hL0 hs0); (first | ((repeat (first | (with_reducible exact szAD _ _) | (with_reducible exact szA _ _) | (with_reducible exact szD _) | (with_reducible exact rfl) | assumption | (with_reducible apply NL.drew) | (with_reducible apply NL.new0) | (with_reducible apply NL.new) | (with_reducible apply NL.put0) | (with_reducible apply NL.put1))); done) | ((with_reducible apply NL.put1); (repeat (first | (with_reducible exact szAD _ _) | (with_reducible exact szA _ _) | (with_reducible exact szD _) | (with_reducible exact rfl) | assumption | (with_reducible apply NL.drew) | (with_reducible apply NL.new0) | (with_reducible apply NL.new) | (with_reducible apply NL.put0) | (with_reducible apply NL.put1))); done))))
          (first
            | (go_at_call 55; ((with_reducible refine Calls.mono (C7.out _) ?_); rintro e wd0 ⟨rfl, hbd0⟩; have hLd0 := NL.call (w0 := wc) (by (first | ((repeat (first | (with_reducible exact szAD _ _) | (with_reducible exact szA _ _) | (with_reducible exact szD _) | (with_reducible exact rfl) | assumption | (with_reducible apply NL.drew) | (with_reducible apply NL.new0) | (with_reducible apply NL.new) | (with_reducible apply NL.put0) | (with_reducible apply NL.put1))); done) | ((with_reducible apply NL.put1); (repeat (first | (with_reducible exact szAD _ _) | (with_reducible exact szA _ _) | (with_reducible exact szD _) | (with_reducible exact rfl) | assumption | (with_reducible apply NL.drew) | (with_reducible apply NL.new0) | (with_reducible apply NL.new) | (with_reducible apply NL.put0) | (with_reducible apply NL.put1))); done))) hbd0; have hAd0 := hLd0.fc; simp only [fc, ne, and_true, ne_eq, not_false_eq_true] at hAd0))
            | (go_at_call 58; ((with_reducible refine Calls.mono (M7.out _) ?_); rintro e wd1 ⟨rfl, hbd1⟩; have hLd1 := NL.call (w0 := wc) (by (first | ((repeat (first | (with_reducible exact szAD _ _) | (with_reducible exact szA _ _) | (with_reducible exact szD _) | (with_reducible exact rfl) | assumption | (with_reducible apply NL.drew) | (with_reducible apply NL.new0) | (with_reducible apply NL.new) | (with_reducible apply NL.put0) | (with_reducible apply NL.put1))); done) | ((with_reducible apply NL.put1); (repeat (first | (with_reducible exact szAD _ _) | (with_reducible exact szA _ _) | (with_reducible exact szD _) | (with_reducible exact rfl) | assumption | (with_reducible apply NL.drew) | (with_reducible apply NL.new0) | (with_reducible apply NL.new) | (with_reducible apply NL.put0) | (with_reducible apply NL.put1))); done))) hbd1; have hAd1 := hLd1.fc; simp only [fc, ne, and_true, ne_eq, not_false_eq_true] at hAd1))
            | (go_at_call 53; ((with_reducible refine Calls.mono (A7.out _) ?_); rintro e wd2 ⟨rfl, hbd2⟩; have hLd2 := NL.call (w0 := wc) (by (first | ((repeat (first | (with_reducible exact szAD _ _) | (with_reducible exact szA _ _) | (with_reducible exact szD _) | (with_reducible exact rfl) | assumption | (with_reducible apply NL.drew) | (with_reducible apply NL.new0) | (with_reducible apply NL.new) | (with_reducible apply NL.put0) | (with_reducible apply NL.put1))); done) | ((with_reducible apply NL.put1); (repeat (first | (with_reducible exact szAD _ _) | (with_reducible exact szA _ _) | (with_reducible exact szD _) | (with_reducible exact rfl) | assumption | (with_reducible apply NL.drew) | (with_reducible apply NL.new0) | (with_reducible apply NL.new) | (with_reducible apply NL.put0) | (with_reducible apply NL.put1))); done))) hbd2; have hAd2 := hLd2.fc; simp only [fc, ne, and_true, ne_eq, not_false_eq_true] at hAd2)))
        all_goals (
          go_wp2_with fail
          go_meet
          exact ⟨rfl, NL.join (L := []) hL0 (by (first | ((repeat (first | (with_reducible exact szAD _ _) | (with_reducible exact szA _ _) | (with_reducible exact szD _) | (with_reducible exact rfl) | assumption | (with_reducible apply NL.drew) | (with_reducible apply NL.new0) | (with_reducible apply NL.new) | (with_reducible apply NL.put0) | (with_reducible apply NL.put1))); done) | ((with_reducible apply NL.put1); (repeat (first | (with_reducible exact szAD _ _) | (with_reducible exact szA _ _) | (with_reducible exact szD _) | (with_reducible exact rfl) | assumption | (with_reducible apply NL.drew) | (with_reducible apply NL.new0) | (with_reducible apply NL.new) | (with_reducible apply NL.put0) | (with_reducible apply NL.put1))); done)))⟩)
      case rest =>
        clear hL0 C7 M7 A7
        obtain ⟨rfl, hL0⟩ := hcut
        obtain ⟨p6, r6⟩ := hL0.get (x3.heap.size + 1 + 1) c (by (repeat (first | with_reducible exact List.mem_cons_self | with_reducible refine List.mem_cons_of_mem _ ?_)))
        obtain ⟨p7, r7⟩ := hL0.get (x3.heap.size + 1) b (by (repeat (first | with_reducible exact List.mem_cons_self | with_reducible refine List.mem_cons_of_mem _ ?_)))
        go_wp2_with fail
        with_reducible refine Calls.mono (D9.out _) ?_
        rintro e x7 ⟨rfl, hb⟩
        replace hL0 := hL0.call hb
        clear hb D9
        replace hL0 := ((hL0.new rfl q2 32).new (szA _ _) r2 32)
        generalize hweq : ((x7.alloc (.cells #[.int .u64 ((lo q2 : Nat) : Int), .string (hs q2)] 32)).alloc (.cells #[.int .u64 ((lo r2 : Nat) : Int), .string (hs r2)] 32)) = x8 at hL0
        go_upto_region 10 with fail
        go_cut [16, 17, 18] from 16 to 88 (fun t16 t17 t18 wx => ∃ k16 k17, t16 = .pointer (some ⟨k16, 0, none⟩) ∧ t17 = .pointer (some ⟨k17, 0, none⟩) ∧ t18 = .bool true ∧ NL w wx [(k17, r2), (k16, a), (x7.heap.size + 1, r2), (x7.heap.size, q2), (x5.heap.size + 1, r), (x5.heap.size, q), (x3.heap.size + 1 + 1, c), (x3.heap.size + 1, b), (x3.heap.size, a)])
        case first =>
          clear hweq
          have hR := NL.start x8
          have hnw : ∀ (W : World) (v0 v1 : Value) (t : TypeId), (W.alloc (.cells #[v0, v1] t)).cell? ⟨W.heap.size, 0, none⟩ = some v0 ∧ (W.alloc (.cells #[v0, v1] t)).cell? ⟨W.heap.size, 1, none⟩ = some v1 ∧ ∀ j, (W.alloc (.cells #[v0, v1] t)).frozen? ⟨W.heap.size, j, none⟩ = false := nw_all
          have hs0 : [(x3.heap.size, a), (x3.heap.size + 1, b), (x7.heap.size + 1, r2)] ⊆ [(x7.heap.size + 1, r2), (x7.heap.size, q2), (x5.heap.size + 1, r), (x5.heap.size, q), (x3.heap.size + 1 + 1, c), (x3.heap.size + 1, b), (x3.heap.size, a)] := by simp
          go_region_held3 (fun w' => w'.cell? ⟨x3.heap.size, 0, none⟩ = some (.int .u64 ((lo a : Nat) : Int)) ∧ w'.cell? ⟨x3.heap.size, 1, none⟩ = some (.string (hs a)) ∧ w'.cell? ⟨x3.heap.size + 1, 0, none⟩ = some (.int .u64 ((lo b : Nat) : Int)) ∧ w'.cell? ⟨x3.heap.size + 1, 1, none⟩ = some (.string (hs b)) ∧ w'.cell? ⟨x7.heap.size + 1, 0, none⟩ = some (.int .u64 ((lo r2 : Nat) : Int)) ∧ w'.cell? ⟨x7.heap.size + 1, 1, none⟩ = some (.string (hs r2)))
            ((apply (NL.keep (w0 := x8) (C := [(x3.heap.size, a), (x3.heap.size + 1, b), (x7.heap.size + 1, r2)]) hL0 hs0); (first | ((repeat (first | (with_reducible exact szAD _ _) | (with_reducible exact szA _ _) | (with_reducible exact szD _) | (with_reducible exact rfl) | assumption | (with_reducible apply NL.drew) | (with_reducible apply NL.new0) | (with_reducible apply NL.new) | (with_reducible apply NL.put0) | (with_reducible apply NL.put1))); done) | ((with_reducible apply NL.put1); (repeat (first | (with_reducible exact szAD _ _) | (with_reducible exact szA _ _) | (with_reducible exact szD _) | (with_reducible exact rfl) | assumption | (with_reducible apply NL.drew) | (with_reducible apply NL.new0) | (with_reducible apply NL.new) | (with_reducible apply NL.put0) | (with_reducible apply NL.put1))); done))))
            (first
              | (go_at_call 58; ((with_reducible refine Calls.mono (M10.out _) ?_); rintro e wf0 ⟨rfl, hbf0⟩; have hLf0 := NL.call (w0 := x8) (by (first | ((repeat (first | (with_reducible exact szAD _ _) | (with_reducible exact szA _ _) | (with_reducible exact szD _) | (with_reducible exact rfl) | assumption | (with_reducible apply NL.drew) | (with_reducible apply NL.new0) | (with_reducible apply NL.new) | (with_reducible apply NL.put0) | (with_reducible apply NL.put1))); done) | ((with_reducible apply NL.put1); (repeat (first | (with_reducible exact szAD _ _) | (with_reducible exact szA _ _) | (with_reducible exact szD _) | (with_reducible exact rfl) | assumption | (with_reducible apply NL.drew) | (with_reducible apply NL.new0) | (with_reducible apply NL.new) | (with_reducible apply NL.put0) | (with_reducible apply NL.put1))); done))) hbf0; have hAf0 := hLf0.fc; simp only [fc, ne, and_true, ne_eq, not_false_eq_true] at hAf0))
              | (go_at_call 53; ((with_reducible refine Calls.mono (A10.out _) ?_); rintro e wf1 ⟨rfl, hbf1⟩; have hLf1 := NL.call (w0 := x8) (by (first | ((repeat (first | (with_reducible exact szAD _ _) | (with_reducible exact szA _ _) | (with_reducible exact szD _) | (with_reducible exact rfl) | assumption | (with_reducible apply NL.drew) | (with_reducible apply NL.new0) | (with_reducible apply NL.new) | (with_reducible apply NL.put0) | (with_reducible apply NL.put1))); done) | ((with_reducible apply NL.put1); (repeat (first | (with_reducible exact szAD _ _) | (with_reducible exact szA _ _) | (with_reducible exact szD _) | (with_reducible exact rfl) | assumption | (with_reducible apply NL.drew) | (with_reducible apply NL.new0) | (with_reducible apply NL.new) | (with_reducible apply NL.put0) | (with_reducible apply NL.put1))); done))) hbf1; have hAf1 := hLf1.fc; simp only [fc, ne, and_true, ne_eq, not_false_eq_true] at hAf1))
              | (go_at_call 57; ((with_reducible refine Calls.mono (D10.out _) ?_); rintro e wf2 ⟨rfl, hbf2⟩; have hLf2 := NL.call (w0 := x8) (by (first | ((repeat (first | (with_reducible exact szAD _ _) | (with_reducible exact szA _ _) | (with_reducible exact szD _) | (with_reducible exact rfl) | assumption | (with_reducible apply NL.drew) | (with_reducible apply NL.new0) | (with_reducible apply NL.new) | (with_reducible apply NL.put0) | (with_reducible apply NL.put1))); done) | ((with_reducible apply NL.put1); (repeat (first | (with_reducible exact szAD _ _) | (with_reducible exact szA _ _) | (with_reducible exact szD _) | (with_reducible exact rfl) | assumption | (with_reducible apply NL.drew) | (with_reducible apply NL.new0) | (with_reducible apply NL.new) | (with_reducible apply NL.put0) | (with_reducible apply NL.put1))); done))) hbf2; have hAf2 := hLf2.fc; simp only [fc, ne, and_true, ne_eq, not_false_eq_true] at hAf2)))
          all_goals (
            go_wp2_with fail
            go_meet
            exact ⟨_, _, rfl, rfl, rfl, by first | exact NL.join (L := [_, _]) hL0 (by (first | ((repeat (first | (with_reducible exact szAD _ _) | (with_reducible exact szA _ _) | (with_reducible exact szD _) | (with_reducible exact rfl) | assumption | (with_reducible apply NL.drew) | (with_reducible apply NL.new0) | (with_reducible apply NL.new) | (with_reducible apply NL.put0) | (with_reducible apply NL.put1))); done) | ((with_reducible apply NL.put1); (repeat (first | (with_reducible exact szAD _ _) | (with_reducible exact szA _ _) | (with_reducible exact szD _) | (with_reducible exact rfl) | assumption | (with_reducible apply NL.drew) | (with_reducible apply NL.new0) | (with_reducible apply NL.new) | (with_reducible apply NL.put0) | (with_reducible apply NL.put1))); done))) | exact NL.join (L := [_, _]) hL0 (NL.swap (by (first | ((repeat (first | (with_reducible exact szAD _ _) | (with_reducible exact szA _ _) | (with_reducible exact szD _) | (with_reducible exact rfl) | assumption | (with_reducible apply NL.drew) | (with_reducible apply NL.new0) | (with_reducible apply NL.new) | (with_reducible apply NL.put0) | (with_reducible apply NL.put1))); done) | ((with_reducible apply NL.put1); (repeat (first | (with_reducible exact szAD _ _) | (with_reducible exact szA _ _) | (with_reducible exact szD _) | (with_reducible exact rfl) | assumption | (with_reducible apply NL.drew) | (with_reducible apply NL.new0) | (with_reducible apply NL.new) | (with_reducible apply NL.put0) | (with_reducible apply NL.put1))); done))))⟩)
        case rest =>
          clear hL0 M10 A10 D10
          obtain ⟨k16, k17, rfl, rfl, rfl, hL0⟩ := hcut
          have HW := Lib.hid (works_any _ (htab.below hL0.bl))
          obtain ⟨p8, r8⟩ := hL0.get (k16) a (by (repeat (first | with_reducible exact List.mem_cons_self | with_reducible refine List.mem_cons_of_mem _ ?_)))
          obtain ⟨p9, r9⟩ := hL0.get (x3.heap.size) a (by (repeat (first | with_reducible exact List.mem_cons_self | with_reducible refine List.mem_cons_of_mem _ ?_)))
          obtain ⟨p10, r10⟩ := hL0.get (k17) r2 (by (repeat (first | with_reducible exact List.mem_cons_self | with_reducible refine List.mem_cons_of_mem _ ?_)))
          obtain ⟨p11, r11⟩ := hL0.get (x7.heap.size + 1) r2 (by (repeat (first | with_reducible exact List.mem_cons_self | with_reducible refine List.mem_cons_of_mem _ ?_)))
          go_wp2_with fail
          with_reducible refine Calls.mono HW.out ?_
          rintro e x9 ⟨rfl, hb⟩
          replace hL0 := hL0.call hb
          clear hb HW
          go_wp2_with fail
          exact bodyPost_ret (v := .bool true) (by simp [results, Tryz.results9, go_sem]) rfl ⟨rfl, hL0.bl⟩
end Go.Proofs.YthehcjfmokabfaaGreatDoor

/-
  Layer 1, law: regions that only read, and whose callees make memory of their own: one walk serves every order.
-/
namespace Go.Proofs.YthehcjfmokabfaaGreatDoor
open Go.RowKit
attribute [local irreducible] lo hs sm s64 c64 d64 b64 mh ml pd pc qd qc val hiB str cmpI srD lz nb isq decB

/-- The worlds that keep what w0 holds, as the values of a function. -/
theorem cls (w0 : World) : ∃ (α : Type) (_ : Nonempty α) (F : α → World), (∀ x, Below w0.heap.size w0 (F x)) ∧ (∀ W, Below w0.heap.size w0 W → ∃ x, W = F x) :=
  ⟨{W : World // Below w0.heap.size w0 W}, ⟨⟨w0, Below.refl _ _⟩⟩, fun x => x.1, fun x => x.2, fun W h => ⟨⟨W, h⟩, rfl⟩⟩

theorem region_cls {P : Program} {α : Type} {F : α → World} {id : Nat} {Q : Exit → Act → World → Prop} {a : Act} {w : World} {l : List Oper} (hm : P.follows .mixedOrders = true) (hB : Region.lexB .any l.toArray = true)
    (hC : ∃ x, w.drew = F x) (h : wpQuiet P l.toArray (fun w' => ∃ x, w' = F x) (fun a' => ∀ w', (∃ x, w' = F x) → Q .normal a' w') l a) : (Code.region id l.toArray true).wp P Q a w :=
  wp_region_quiet (C := fun w' => ∃ x, w' = F x) hm hB hC (by simpa using h)

theorem cls_call {α : Type} {F : α → World} {w0 : World} (h1 : ∀ x, Below w0.heap.size w0 (F x)) (h2 : ∀ W, Below w0.heap.size w0 W → ∃ x, W = F x) {P : Program} {f : FuncId} {args : Array Value} {v : Value}
    (h : ∀ w, Calls P f args w fun e w' => e = .returned v ∧ Below w.heap.size w w') (x : α) : Calls P f args (F x) fun e w'' => e = .returned v ∧ ∃ y, w'' = F y :=
  (h (F x)).mono fun _ _ ⟨he, hb⟩ => ⟨he, h2 _ ((h1 x).trans (hb.mono (h1 x).size))⟩
theorem cls_callT {α : Type} {F : α → World} {w0 : World} (h1 : ∀ x, Below w0.heap.size w0 (F x)) (h2 : ∀ W, Below w0.heap.size w0 W → ∃ x, W = F x) (ht : Tab w0) {f : FuncId} {args : Array Value} {v : Value}
    (h : ∀ w, Tab w → Calls Tryz.prog f args w fun e w' => e = .returned v ∧ Below w.heap.size w w') (x : α) : Calls Tryz.prog f args (F x) fun e w'' => e = .returned v ∧ ∃ y, w'' = F y :=
  (h (F x) (ht.below (h1 x))).mono fun _ _ ⟨he, hb⟩ => ⟨he, h2 _ ((h1 x).trans (hb.mono (h1 x).size))⟩
theorem cls_get {α : Type} {F : α → World} {w0 : World} (h1 : ∀ x, Below w0.heap.size w0 (F x)) {w : World} {L : List (Nat × Nat)} (hL : NL w w0 L) (k n : Nat) (hm : (k, n) ∈ L) :
    (∀ x, (F x).cell? ⟨k, 0, none⟩ = some (.int .u64 ((lo n : Nat) : Int))) ∧ (∀ x, (F x).cell? ⟨k, 1, none⟩ = some (.string (hs n))) :=
  ⟨fun x => ((h1 x).cell (p := ⟨k, 0, none⟩) (hL.all _ hm).2.lt).trans (hL.get k n hm).1, fun x => ((h1 x).cell (p := ⟨k, 1, none⟩) (hL.all _ hm).2.lt).trans (hL.get k n hm).2⟩
theorem cls_nl {w w0 W : World} {L : List (Nat × Nat)} (hL : NL w w0 L) (hb : Below w0.heap.size w0 W) : NL w W L := hL.call hb
theorem cls_drew {α : Type} {F : α → World} {w0 : World} (h2 : ∀ W, Below w0.heap.size w0 W → ∃ x, W = F x) : ∃ x, w0.drew = F x := h2 _ (Below.refl _ _).drew
end Go.Proofs.YthehcjfmokabfaaGreatDoor

/-
  Regions that draw their order and hold calls, new boxes and one store into each of these: one walk in the order of the text serves every order.
-/
namespace Go.Proofs.YthehcjfmokabfaaGreatDoor
open Go Go.RowKit

/-! ### A call returns one value -/

theorem runN_next {P : Program} {n m : Nat} {a b c : Machine} (h1 : runN P n a = .next b) (h2 : runN P (n + m) a = .next c) : runN P m b = .next c := by
  rw [runN_add, h1] at h2
  exact h2

/-- A frame of no function: once its callee has returned, nothing goes on. -/
def deadF (P : Program) : Frame := { fn := P.funcs.size, tmps := #[], todo := [.code (.refuse "")], defers := [], mode := .run, kind := .normal }
theorem dead_finish (P : Program) (v : Value) : (deadF P).finish v = deadF P := rfl
theorem dead_stops {P : Program} {w : World} : ∀ m, step P (lone (deadF P) [] w) ≠ .next m := by
  have h : ∃ o w', step P (lone (deadF P) [] w) = .ended o w' := by
    generalize hs : stepG P true { frame := deadF P, callers := [], status := .running, dying := none } w = s
    have hb : ∃ o w', s.bare = .ended o w' := by
      rw [← hs]
      exact ⟨_, _, by simp [stepG, stepG.exec, deadF]; exact ⟨rfl, rfl⟩⟩
    obtain ⟨o, w', hb⟩ := hb
    exact ⟨o, w', step_lone_ended (by rw [hs]; exact hb)⟩
  obtain ⟨o, w', h⟩ := h
  intro m hm
  rw [h] at hm
  cases hm

theorem Calls.uniq {P : Program} {f : FuncId} {args : Array Value} {w : World} {v1 v2 : Value} {A B : World → Prop}
    (h1 : Calls P f args w fun e w' => e = .returned v1 ∧ A w') (h2 : Calls P f args w fun e w' => e = .returned v2 ∧ B w') : v1 = v2 := by
  obtain ⟨e1, w1, fr1, ⟨rfl, -⟩, c1, f1, l1⟩ := h1 [deadF P]
  obtain ⟨e2, w2, fr2, ⟨rfl, -⟩, c2, f2, l2⟩ := h2 [deadF P]
  obtain ⟨n1, s1⟩ := (show Steps P _ _ from c1)
  obtain ⟨n2, s2⟩ := (show Steps P _ _ from c2)
  have key : ∀ {n m : Nat} {fr fr' : Frame} {w w' : World} {v v' : Value} {M : Machine}, runN P n M = .next (lone fr [deadF P] w) → runN P (n + m) M = .next (lone fr' [deadF P] w') →
      fr.leaving P w (.returned v) → fr'.leaving P w' (.returned v') → fr = fr' ∧ w = w' := by
    intro n m fr fr' w w' v v' M a b la lb
    have hc := runN_next a b
    have hst := step_leave_returned (cs := []) (c := deadF P) la
    rw [dead_finish] at hst
    cases m with
    | zero =>
      simp only [runN] at hc
      have := Stepped.next.inj hc
      simp [lone] at this
      exact ⟨this.2, this.1⟩
    | succ m =>
      simp only [runN, hst] at hc
      cases m with
      | zero =>
        simp only [runN] at hc
        have := Stepped.next.inj hc
        simp [lone] at this
      | succ m =>
        simp only [runN] at hc
        cases hd : step P (lone (deadF P) [] w) with
        | next m' => exact absurd hd (dead_stops m')
        | ended o w'' => rw [hd] at hc; cases hc
  have hh : fr1 = fr2 ∧ w1 = w2 := by
    rcases Nat.le_total n1 n2 with h | h
    · obtain ⟨m, rfl⟩ := Nat.exists_eq_add_of_le h
      exact key s1 s2 l1 l2
    · obtain ⟨m, rfl⟩ := Nat.exists_eq_add_of_le h
      have := key s2 s1 l2 l1
      exact ⟨this.1.symm, this.2.symm⟩
  obtain ⟨rfl, rfl⟩ := hh
  obtain ⟨-, -, -, fn1, hf1, hr1⟩ := l1
  obtain ⟨-, -, -, fn2, hf2, hr2⟩ := l2
  rw [hf1] at hf2
  obtain rfl := Option.some.inj hf2
  rw [hr1] at hr2
  exact (Result.ok.inj hr2).1

/-! ### Boxes -/

/-- What a box holds. -/
structure Hd (w : World) (k : Nat) (c : List Value) : Prop where
  cell : ∀ i (h : i < c.length), w.cell? ⟨k, i, none⟩ = some c[i]
  frz : ∀ j, w.frozen? ⟨k, j, none⟩ = false
  lt : k < w.heap.size
theorem Hd.below {w w' : World} {k : Nat} {c : List Value} (h : Hd w k c) (hb : Below w.heap.size w w') : Hd w' k c :=
  ⟨fun i hi => (hb.cell (p := ⟨k, i, none⟩) h.lt).trans (h.cell i hi), fun j => (hb.frozen (p := ⟨k, j, none⟩) h.lt).trans (h.frz j), Nat.lt_of_lt_of_le h.lt hb.size⟩

/-- Only the block k has turned. -/
structure Upd (k : Nat) (w w' : World) : Prop where
  os : w'.os = w.os
  tape : w'.tape = w.tape
  output : w'.output = w.output
  size : w'.heap.size = w.heap.size
  block : ∀ j, j ≠ k → w'.heap[j]? = w.heap[j]?
theorem Upd.refl (k : Nat) (w : World) : Upd k w w := ⟨rfl, rfl, rfl, rfl, fun _ _ => rfl⟩
theorem Upd.setCell {k : Nat} {a w : World} (h : Upd k a w) (i : Nat) (v : Value) : Upd k a (w.setCell ⟨k, i, none⟩ v) :=
  ⟨h.os, h.tape, h.output, by rw [← h.size]; simp [World.setCell], fun j hj => (Below.heap_setCell _ _ _ _ hj).trans (h.block j hj)⟩
theorem Upd.below {k B : Nat} {w w' : World} (h : Upd k w w') (hB : B ≤ k) : Below B w w' :=
  ⟨h.os, h.tape, h.output, Nat.le_of_eq h.size.symm, fun j hj => h.block j (by omega)⟩
theorem Upd.hd {k j : Nat} {c : List Value} {w w' : World} (h : Upd k w w') (hj : j ≠ k) (hd : Hd w j c) : Hd w' j c :=
  ⟨fun i hi => (World.cell?_of_block (w := w) (h.block j hj)).trans (hd.cell i hi), fun i => (World.frozen?_of_block (w := w) (h.block j hj)).trans (hd.frz i), by rw [h.size]; exact hd.lt⟩

/-! ### What an operation does -/

inductive Eff where
  | quiet (v : Value)
  | new (c : List Value)
  | put (d : Nat) (c : List Value)
def Eff.val : Eff → Value
  | .quiet v => v
  | _ => undef
/-- The new boxes: by the slot that holds the box's address, what it holds, and whether it has been stored into. -/
abbrev Gh := Nat → Option (List Value × Bool)
def upd (g : Gh) (d : Nat) (x : List Value × Bool) : Gh := fun t => if t = d then some x else g t
theorem upd_same (g : Gh) (d : Nat) (x : List Value × Bool) : upd g d x d = some x := by simp [upd]
theorem upd_ne (g : Gh) {d t : Nat} (x : List Value × Bool) (h : t ≠ d) : upd g d x t = g t := by simp [upd, h]
theorem upd_comm (g : Gh) {d t : Nat} (x y : List Value × Bool) (h : d ≠ t) : upd (upd g d x) t y = upd (upd g t y) d x := by
  funext s
  by_cases h1 : s = t
  · subst h1; rw [upd_same, upd_ne _ _ (fun e => h e.symm), upd_same]
  · by_cases h2 : s = d
    · subst h2; rw [upd_ne _ _ h1, upd_same, upd_same]
    · rw [upd_ne _ _ h1, upd_ne _ _ h2, upd_ne _ _ h2, upd_ne _ _ h1]
theorem upd_none {g : Gh} {d t : Nat} {x : List Value × Bool} (h : upd g d x t = none) : t ≠ d ∧ g t = none := by
  by_cases h1 : t = d
  · subst h1; rw [upd_same] at h; cases h
  · exact ⟨h1, by rwa [upd_ne _ _ h1] at h⟩
def Eff.gh (o : Oper) (g : Gh) : Eff → Gh
  | .quiet _ => g
  | .new c => match o.dst with | some d => upd g d (c, false) | none => g
  | .put d c => upd g d (c, true)

/-- The slot that an operation's guard looks at. -/
def guardT (ops : Array Oper) (o : Oper) : List Nat := match o.guard with | some (g, _) => ((ops[g]?).bind (·.dst)).toList | none => []
theorem guardT_looks {ops : Array Oper} {o : Oper} {t : Nat} (h : t ∈ guardT ops o) : t ∈ o.looksAt ops := List.mem_append_right _ h
def operT : Operand → List Nat | .tmp t => [t] | _ => []
theorem oper_looks {ops : Array Oper} {o : Oper} {x : Operand} (hx : x ∈ o.op.operands) {t : Nat} (h : t ∈ operT x) : t ∈ o.looksAt ops := by
  cases x <;> simp only [operT, List.mem_singleton, List.not_mem_nil] at h
  subst h
  exact List.mem_append_left _ (List.mem_filterMap.2 ⟨_, by simpa using hx, rfl⟩)

section
variable {P : Program} {ops : Array Oper} {md : Region.Mode} {w0 : World}

/-- What an operation does, in every world that keeps what was there. -/
def Valid (P : Program) (ops : Array Oper) (w0 : World) (o : Oper) (a : Act) (g : Gh) : Eff → Prop
  | .quiet v => (∀ t ∈ o.looksAt ops, g t = none) ∧ (∀ d, o.dst = some d → g d = none) ∧
      ((Region.wanted o (yielded ops a.tmps) = true ∧ ∀ w, Below w0.heap.size w0 w → o.quietAt P a (fun w'' => Below w.heap.size w w'') w v) ∨ (Region.wanted o (yielded ops a.tmps) = false ∧ v = undef))
  | .new c => (∀ t ∈ guardT ops o, g t = none) ∧ Region.wanted o (yielded ops a.tmps) = true ∧ ∃ d e t, o.op = .alloc e ∧ o.dst = some d ∧ d < a.tmps.size ∧ g d = none ∧
      ∀ w, (Instr.alloc e true (.tuple #[])).run P w = .ok (.pointer (some ⟨w.heap.size, 0, none⟩)) (w.alloc (.cells c.toArray t))
  | .put d c => (∀ t ∈ guardT ops o, g t = none) ∧ (∀ d, o.dst = some d → g d = none) ∧ Region.wanted o (yielded ops a.tmps) = true ∧ ∃ t x c0, o.op = .store t (.tmp d) x ∧ (∀ t ∈ operT x, g t = none) ∧ g d = some (c0, false) ∧
      ∀ w k, Hd w k c0 → ∃ w', (Instr.storeAt t (.pointer (some ⟨k, 0, none⟩)) (a.eval x)).run P w = .ok () w' ∧ Hd w' k c ∧ Upd k w w'

theorem size_put (a : Act) (dst : Option Tmp) (v : Value) : (a.put dst v).tmps.size = a.tmps.size := by cases dst <;> simp [Act.put]
theorem quietAt_put {C : World → Prop} {o : Oper} (hs : ∀ cs b, o.op ≠ .select cs b) {a : Act} {dst : Option Tmp} {v u : Value} {w : World} (h : ∀ d, dst = some d → d ∉ o.looksAt ops) :
    o.quietAt P (a.put dst v) C w u ↔ o.quietAt P a C w u := by unfold Oper.quietAt; rw [execOp_put o hs a dst v h]
theorem eval_put' {o : Oper} {x : Operand} (hx : x ∈ o.op.operands) {a : Act} {dst : Option Tmp} {v : Value} (h : ∀ d, dst = some d → d ∉ o.looksAt ops) : (a.put dst v).eval x = a.eval x :=
  Act.eval_put fun d hd e => h d hd (oper_looks hx (by subst e; simp [operT]))

theorem Valid.back {oi oj : Oper} {a : Act} {g : Gh} {yi yj : Eff} (hap : oi.apart ops oj = true) (hsi : ∀ cs b, oi.op ≠ .select cs b) (hsj : ∀ cs b, oj.op ≠ .select cs b)
    (hi : Valid P ops w0 oi a g yi) (hj : Valid P ops w0 oj (a.put oi.dst yi.val) (yi.gh oi g) yj) :
    Valid P ops w0 oj a g yj ∧ Valid P ops w0 oi (a.put oj.dst yj.val) (yj.gh oj g) yi ∧ yi.gh oi (yj.gh oj g) = yj.gh oj (yi.gh oi g) := by
  obtain ⟨h1, h2, h3⟩ := Oper.apart_spec hap
  have gi : ∀ {t}, yi.gh oi g t = none → g t = none := fun {t} h => by
    cases yi with
    | quiet v => exact h
    | new c => cases hd : oi.dst <;> simp only [Eff.gh, hd] at h; exact h; exact (upd_none h).2
    | put d c => exact (upd_none h).2
  have hwj := wanted_put (ops := ops) oj a oi.dst yi.val h1
  have hwi := fun (u : Value) => wanted_put (ops := ops) oi a oj.dst u h3
  -- backward: oj at (a, g)
  have A : Valid P ops w0 oj a g yj := by
    cases yj with
    | quiet v =>
      obtain ⟨q1, q2, q3⟩ := hj
      rw [hwj] at q3
      refine ⟨fun t ht => gi (q1 t ht), fun d hd => gi (q2 d hd), ?_⟩
      rcases q3 with ⟨q3, q4⟩ | q3
      · exact .inl ⟨q3, fun w hw => (quietAt_put hsj h1).1 (q4 w hw)⟩
      · exact .inr q3
    | new c =>
      obtain ⟨q1, q2, d, e, t, q3, q4, q5, q6, q7⟩ := hj
      rw [hwj] at q2
      rw [size_put] at q5
      exact ⟨fun t ht => gi (q1 t ht), q2, d, e, t, q3, q4, q5, gi q6, q7⟩
    | put d c =>
      obtain ⟨q1, q0, q2, t, x, c0, q3, q4, q5, q6⟩ := hj
      rw [hwj] at q2
      have hx : x ∈ oj.op.operands := by rw [q3]; simp [Op.operands]
      have hd : d ∈ oj.looksAt ops := oper_looks (x := .tmp d) (by rw [q3]; simp [Op.operands]) (by simp [operT])
      rw [eval_put' hx h1] at q6
      refine ⟨fun t ht => gi (q1 t ht), fun d hd => gi (q0 d hd), q2, t, x, c0, q3, fun t ht => gi (q4 t ht), ?_, q6⟩
      cases yi with
      | quiet v => exact q5
      | new c' =>
        obtain ⟨-, -, d', e', t', -, r4, -⟩ := hi
        simp only [Eff.gh, r4] at q5
        have hne : d ≠ d' := fun e => h1 d' r4 (by rw [← e]; exact hd)
        rwa [upd_ne _ _ hne] at q5
      | put d' c' =>
        simp only [Eff.gh] at q5
        by_cases e : d = d'
        · subst e; rw [upd_same] at q5; simp at q5
        · rwa [upd_ne _ _ e] at q5
  -- forward
  have gj : ∀ {t}, g t = none → (∀ d, oj.dst = some d → d ≠ t) → yj.gh oj g t = none := fun {t} h hn => by
    cases yj with
    | quiet v => exact h
    | new c =>
      obtain ⟨-, -, d, e, t', -, r4, -⟩ := A
      simp only [Eff.gh, r4]
      rw [upd_ne _ _ (fun e => hn d r4 e.symm)]; exact h
    | put d c =>
      obtain ⟨-, -, -, t', x, c0, -, -, r5, -⟩ := A
      simp only [Eff.gh]
      rw [upd_ne _ _ (fun e => by subst e; rw [h] at r5; cases r5)]; exact h
  have nl : ∀ {t}, t ∈ oi.looksAt ops → ∀ d, oj.dst = some d → d ≠ t := fun {t} ht d hd e => h3 d hd (e ▸ ht)
  have nd : ∀ {t}, oi.dst = some t → ∀ d, oj.dst = some d → d ≠ t := fun {t} ht d hd e => h2 t ht (e ▸ hd)
  have B : Valid P ops w0 oi (a.put oj.dst yj.val) (yj.gh oj g) yi := by
    cases yi with
    | quiet v =>
      obtain ⟨q1, q2, q3⟩ := hi
      refine ⟨fun t ht => gj (q1 t ht) (nl ht), fun d hd => gj (q2 d hd) (nd hd), ?_⟩
      rw [hwi]
      rcases q3 with ⟨q3, q4⟩ | q3
      · exact .inl ⟨q3, fun w hw => (quietAt_put hsi h3).2 (q4 w hw)⟩
      · exact .inr q3
    | new c =>
      obtain ⟨q1, q2, d, e, t, q3, q4, q5, q6, q7⟩ := hi
      exact ⟨fun t ht => gj (q1 t ht) (nl (guardT_looks ht)), by rw [hwi]; exact q2, d, e, t, q3, q4, by rw [size_put]; exact q5, gj q6 (nd q4), q7⟩
    | put d c =>
      obtain ⟨q1, q0, q2, t, x, c0, q3, q4, q5, q6⟩ := hi
      have hx : x ∈ oi.op.operands := by rw [q3]; simp [Op.operands]
      refine ⟨fun t ht => gj (q1 t ht) (nl (guardT_looks ht)), fun d hd => gj (q0 d hd) (nd hd), by rw [hwi]; exact q2, t, x, c0, q3, fun t ht => gj (q4 t ht) (nl (oper_looks hx ht)), ?_, by rw [eval_put' hx h3]; exact q6⟩
      cases yj with
      | quiet v => exact q5
      | new c' =>
        obtain ⟨-, -, d', e', t', -, r4, -, r6, -⟩ := A
        simp only [Eff.gh, r4]
        rw [upd_ne _ _ (fun e => by subst e; rw [r6] at q5; cases q5)]; exact q5
      | put d' c' =>
        obtain ⟨-, -, -, t', x', c0', -, -, r5, -⟩ := hj
        simp only [Eff.gh] at r5 ⊢
        have hne : d ≠ d' := fun e => by subst e; rw [upd_same] at r5; simp at r5
        rw [upd_ne _ _ hne]; exact q5
  refine ⟨A, B, ?_⟩
  cases yi with
  | quiet v => rfl
  | new c =>
    obtain ⟨-, -, d, e, t, q3, q4, q5, q6, q7⟩ := hi
    cases yj with
    | quiet v => rfl
    | new c' =>
      obtain ⟨-, -, d', e', t', -, r4, -, r6, -⟩ := hj
      simp only [Eff.gh, q4, r4] at r6 ⊢
      exact upd_comm _ _ _ (fun e => (upd_none r6).1 e.symm |>.elim) |> fun h => by first | exact h | exact h.symm
    | put d' c' =>
      obtain ⟨-, -, -, t', x', c0', r3, -⟩ := hj
      have hd : d' ∈ oj.looksAt ops := oper_looks (x := .tmp d') (by rw [r3]; simp [Op.operands]) (by simp [operT])
      simp only [Eff.gh, q4]
      exact upd_comm _ _ _ (fun e => h1 d q4 (by rw [← e]; exact hd))
  | put d c =>
    obtain ⟨-, -, -, t, x, c0, -, -, q5, -⟩ := hi
    cases yj with
    | quiet v => rfl
    | new c' =>
      obtain ⟨-, -, d', e', t', -, r4, -, r6, -⟩ := hj
      simp only [Eff.gh, r4] at r6 ⊢
      exact upd_comm _ _ _ (fun e => (upd_none r6).1 e.symm |>.elim) |> fun h => by first | exact h | exact h.symm
    | put d' c' =>
      obtain ⟨-, -, -, t', x', c0', -, -, r5, -⟩ := hj
      simp only [Eff.gh] at r5 ⊢
      have hne : d' ≠ d := fun e => by subst e; rw [upd_same] at r5; simp at r5
      exact upd_comm _ _ _ hne

/-! ### Every order -/

def gOp (P : Program) (ops : Array Oper) (w0 : World) (i : Nat) (K : Act → Gh → Prop) (a : Act) (g : Gh) : Prop :=
  match ops[i]? with
  | none => K a g
  | some o => ∃ y, Valid P ops w0 o a g y ∧ K (a.put o.dst y.val) (y.gh o g)
theorem gOp_mono {i : Nat} {a : Act} {g : Gh} {K K' : Act → Gh → Prop} (h : ∀ a g, K a g → K' a g) (hh : gOp P ops w0 i K a g) : gOp P ops w0 i K' a g := by
  unfold gOp at *
  split
  · exact h _ _ (by simpa [*] using hh)
  · rename_i o ho
    simp only [ho] at hh
    obtain ⟨y, h1, h2⟩ := hh
    exact ⟨y, h1, h _ _ h2⟩
theorem gOp_of {i : Nat} {o : Oper} {y : Eff} {a : Act} {g : Gh} (hi : ops[i]? = some o) (hy : Valid P ops w0 o a g y) {K : Act → Gh → Prop} (h : K (a.put o.dst y.val) (y.gh o g)) : gOp P ops w0 i K a g := by
  unfold gOp; simp only [hi]; exact ⟨y, hy, h⟩

def wpAnyG (P : Program) (md : Region.Mode) (ops : Array Oper) (w0 : World) (Q : Act → Gh → Prop) : Nat → Array Bool → Act → Gh → Prop
  | 0, listed, a, g => Region.ready md ops listed = [] ∧ Q a g
  | fuel + 1, listed, a, g => (Region.ready md ops listed = [] → Q a g) ∧ ∀ i ∈ Region.ready md ops listed, gOp P ops w0 i (wpAnyG P md ops w0 Q fuel (listed.setIfInBounds i true)) a g

theorem gOp_put {j : Nat} {oi oj : Oper} {y : Eff} (hj : ops[j]? = some oj) (hap : oi.apart ops oj = true) (hsi : ∀ cs b, oi.op ≠ .select cs b) (hsj : ∀ cs b, oj.op ≠ .select cs b) {K : Act → Gh → Prop} {a : Act} {g : Gh}
    (hy : Valid P ops w0 oi a g y) (h : gOp P ops w0 j K (a.put oi.dst y.val) (y.gh oi g)) :
    gOp P ops w0 j (fun a' g' => Valid P ops w0 oi a' g' y ∧ K (a'.put oi.dst y.val) (y.gh oi g')) a g := by
  obtain ⟨h1, h2, h3⟩ := Oper.apart_spec hap
  unfold gOp at *
  simp only [hj] at *
  obtain ⟨z, hz, hK⟩ := h
  obtain ⟨A, B, C⟩ := Valid.back hap hsi hsj hy hz
  refine ⟨z, A, B, ?_⟩
  rw [C, ← Act.put_comm a y.val z.val h2]
  exact hK

theorem wpAnyG_first {Q : Act → Gh → Prop} {i : Nat} {oi : Oper} {y : Eff} (hi : ops[i]? = some oi) (hsel : ∀ (j : Nat) (o : Oper) cs b, ops[j]? = some o → o.op ≠ .select cs b) :
    ∀ (fuel : Nat) (listed : Array Bool) (a : Act) (g : Gh),
      (∀ j oj, ops[j]? = some oj → j ≠ i → listed.getD j true = false → (∀ e ∈ oj.after, Region.binds md e = true → e.on ≠ i) → oi.apart ops oj = true) →
      i ∈ Region.ready md ops listed → Valid P ops w0 oi a g y →
      wpAnyG P md ops w0 Q fuel (listed.setIfInBounds i true) (a.put oi.dst y.val) (y.gh oi g) → wpAnyG P md ops w0 Q (fuel + 1) listed a g := by
  intro fuel
  induction fuel with
  | zero =>
    intro listed a g _ hr hy H
    refine ⟨fun h => (by rw [h] at hr; cases hr), fun j hj => ?_⟩
    by_cases hji : j = i
    · subst hji; exact gOp_of hi hy H
    · have := ready_mono hj hji
      rw [H.1] at this
      cases this
  | succ fuel ih =>
    intro listed a g hfree hr hy H
    refine ⟨fun h => (by rw [h] at hr; cases hr), fun j hj => ?_⟩
    by_cases hji : j = i
    · subst hji; exact gOp_of hi hy H
    · have h1 := H.2 j (ready_mono hj hji)
      obtain ⟨hjun, oj, hoj, hall⟩ := mem_ready.1 hj
      have hnot : ∀ e ∈ oj.after, Region.binds md e = true → e.on ≠ i := fun e he hb heq => by
        have h1 := hall e he hb
        have h0 := (mem_ready.1 hr).1
        rw [heq] at h1
        rcases Nat.lt_or_ge i listed.size with h' | h'
        · simp [h'] at h0 h1; rw [h0] at h1; cases h1
        · simp [Array.getElem?_eq_none h'] at h1
      have h2 := gOp_put hoj (hfree j oj hoj hji hjun hnot) (fun cs b => hsel i oi cs b hi) (fun cs b => hsel j oj cs b hoj) hy h1
      have hfree' : ∀ k ok, ops[k]? = some ok → k ≠ i → (listed.setIfInBounds j true).getD k true = false →
          (∀ e ∈ ok.after, Region.binds md e = true → e.on ≠ i) → oi.apart ops ok = true := fun k ok hk hki hun hno => by
        refine hfree k ok hk hki ?_ hno
        by_cases hjk : j = k
        · subst hjk; exact hjun
        · rw [getD_set_ne true hjk] at hun; exact hun
      refine gOp_mono (fun a' g' h3 => ih (listed.setIfInBounds j true) a' g' hfree' (ready_mono hr (Ne.symm hji)) h3.1 ?_) h2
      rw [Array.setIfInBounds_comm _ _ hji]
      exact h3.2

/-- The walk in the order of the text. -/
def wpLexG (P : Program) (ops : Array Oper) (w0 : World) (Q : Act → Gh → Prop) : List Oper → Act → Gh → Prop
  | [], a, g => Q a g
  | o :: rest, a, g => ∃ y, Valid P ops w0 o a g y ∧ wpLexG P ops w0 Q rest (a.put o.dst y.val) (y.gh o g)

theorem wpAnyG_lex {Q : Act → Gh → Prop} (hs : Region.noSelect ops = true) : ∀ (l : List Oper) (k : Nat) (listed : Array Bool) (a : Act) (g : Gh), (∀ j, l[j]? = ops[k + j]?) →
    Region.lexFrom md ops l.length k listed = true → wpLexG P ops w0 Q l a g → wpAnyG P md ops w0 Q l.length listed a g
  | [], _, _, _, _, _, hB, h => ⟨by simpa [Region.lexFrom] using hB, h⟩
  | o :: l, k, listed, a, g, hl, hB, h => by
    have h0 : ops[k]? = some o := by simpa using (hl 0).symm
    simp only [List.length_cons, Region.lexFrom, Bool.and_eq_true] at hB
    obtain ⟨⟨hr, hf⟩, hB'⟩ := hB
    obtain ⟨y, hy, hK⟩ := h
    exact wpAnyG_first h0 (Region.noSelect_spec hs) l.length listed a g (Region.free_spec h0 hf) (by simpa using hr) hy
      (wpAnyG_lex hs l (k + 1) _ _ _ (fun j => by have := hl (j + 1); simpa [Nat.add_assoc, Nat.add_comm 1 j] using this) hB' hK)

/-! ### The real frame and the real world -/

/-- The frame with the boxes' addresses in their slots. -/
def over (κ : Nat → Nat) (g : Gh) (a : Act) : Act := { a with tmps := a.tmps.mapIdx fun t v => if (g t).isSome then .pointer (some ⟨κ t, 0, none⟩) else v }
theorem over_get (κ : Nat → Nat) (g : Gh) (a : Act) (t : Nat) (h : g t = none) : (over κ g a).tmps[t]? = a.tmps[t]? := by
  simp [over, h]
theorem over_eval {κ : Nat → Nat} {g : Gh} {a : Act} {x : Operand} (h : ∀ t ∈ operT x, g t = none) : (over κ g a).eval x = a.eval x := by
  cases x with
  | tmp t =>
    have := over_get κ g a t (h t (by simp [operT]))
    simp only [Act.eval, Array.getD_eq_getD_getElem?, this]
  | _ => rfl
theorem over_at {κ : Nat → Nat} {g : Gh} {a : Act} {d : Nat} {x : List Value × Bool} (h : g d = some x) (hd : d < a.tmps.size) : (over κ g a).eval (.tmp d) = .pointer (some ⟨κ d, 0, none⟩) := by
  simp [Act.eval, over, Array.getD_eq_getD_getElem?, h, hd]
theorem over_put {κ : Nat → Nat} {g : Gh} {a : Act} {dst : Option Tmp} {v : Value} (h : ∀ d, dst = some d → g d = none) : (over κ g a).put dst v = over κ g (a.put dst v) := by
  cases dst with
  | none => rfl
  | some d =>
    have hd := h d rfl
    simp only [over, Act.put]
    congr 1
    apply Array.ext_getElem?
    intro i
    by_cases hi : d = i
    · subst hi
      by_cases hs : d < a.tmps.size
      · simp [hs, hd]
      · simp [hs]
    · simp [Array.getElem?_setIfInBounds_ne hi]
theorem over_congr {κ κ' : Nat → Nat} {g g' : Gh} (a : Act) (h : ∀ t, (g t).isSome = (g' t).isSome ∧ ((g t).isSome = true → κ t = κ' t)) : over κ g a = over κ' g' a := by
  simp only [over]
  congr 1
  apply Array.ext_getElem?
  intro i
  simp only [Array.getElem?_mapIdx]
  cases a.tmps[i]? with
  | none => rfl
  | some v =>
    simp only [Option.map_some]
    obtain ⟨h1, h2⟩ := h i
    cases hg : (g i).isSome
    · rw [hg] at h1; simp [← h1]
    · rw [hg] at h1; simp [← h1, h2 hg]
theorem over_new {κ : Nat → Nat} {g : Gh} {a : Act} {d : Nat} (x : List Value × Bool) (h : g d = none) (k : Nat) (hd : d < a.tmps.size) :
    (over κ g a).put (some d) (.pointer (some ⟨k, 0, none⟩)) = over (fun t => if t = d then k else κ t) (upd g d x) (a.put (some d) undef) := by
  simp only [over, Act.put]
  congr 1
  apply Array.ext_getElem?
  intro i
  by_cases hi : d = i
  · subst hi
    simp [hd, upd_same]
  · have hi' : ¬ i = d := fun e => hi e.symm
    simp [Array.getElem?_setIfInBounds_ne hi, upd_ne g x hi', hi']
theorem wanted_over {κ : Nat → Nat} {g : Gh} {a : Act} {o : Oper} (h : ∀ t ∈ guardT ops o, g t = none) : Region.wanted o (yielded ops (over κ g a).tmps) = Region.wanted o (yielded ops a.tmps) := by
  unfold Region.wanted
  cases hg : o.guard with
  | none => rfl
  | some gw =>
    obtain ⟨gg, want⟩ := gw
    have hy : yielded ops (over κ g a).tmps gg = yielded ops a.tmps gg := by
      unfold yielded
      cases ht : (ops[gg]?).bind (·.dst) with
      | none => rfl
      | some t =>
        have := over_get κ g a t (h t (by simp [guardT, hg, ht]))
        simp [this]
    simp only [hy]
theorem exec_over {κ : Nat → Nat} {g : Gh} {a : Act} {o : Oper} (hs : ∀ cs b, o.op ≠ .select cs b) (h : ∀ t ∈ o.looksAt ops, g t = none) : execOp (over κ g a).eval o = execOp a.eval o :=
  execOp_congr o hs fun x hx => over_eval fun t ht => h t (oper_looks hx ht)

/-- What is known of a world, and where the boxes are. -/
structure Sim (w0 : World) (g : Gh) (κ : Nat → Nat) (w : World) : Prop where
  base : Below w0.heap.size w0 w
  hd : ∀ d c b, g d = some (c, b) → w0.heap.size ≤ κ d ∧ Hd w (κ d) c
  inj : ∀ d d', (g d).isSome → (g d').isSome → d ≠ d' → κ d ≠ κ d'

theorem Sim.below {g : Gh} {κ : Nat → Nat} {w w' : World} (h : Sim w0 g κ w) (hb : Below w.heap.size w w') : Sim w0 g κ w' :=
  ⟨h.base.trans (hb.mono h.base.size), fun d c b hd => ⟨(h.hd d c b hd).1, (h.hd d c b hd).2.below hb⟩, h.inj⟩

theorem Sim.new {g : Gh} {κ : Nat → Nat} {w : World} (h : Sim w0 g κ w) {d : Nat} (hd : g d = none) (c : List Value) (t : TypeId) :
    Sim w0 (upd g d (c, false)) (fun s => if s = d then w.heap.size else κ s) (w.alloc (.cells c.toArray t)) := by
  have hb : Below w.heap.size w (w.alloc (.cells c.toArray t)) := (Below.refl _ _).alloc (Nat.le_refl _) _
  have hsz : (w.alloc (.cells c.toArray t)).heap.size = w.heap.size + 1 := World.size_alloc _ _
  refine ⟨h.base.trans (hb.mono h.base.size), fun s c' b hs => ?_, fun s s' h1 h2 hne => ?_⟩
  · by_cases e : s = d
    · subst e
      rw [upd_same] at hs
      simp only [Option.some.injEq, Prod.mk.injEq] at hs
      obtain ⟨rfl, rfl⟩ := hs
      simp only [if_true]
      have hrow := heap_alloc_new w (.cells c.toArray t)
      exact ⟨h.base.size, fun i hi => by rw [cell_of_row _ _ i _ _ _ hrow]; simp [hi], fun j => frozen_of_row _ _ j _ _ hrow, by rw [hsz]; omega⟩
    · rw [upd_ne _ _ e] at hs
      simp only [e, if_false]
      exact ⟨(h.hd s c' b hs).1, (h.hd s c' b hs).2.below hb⟩
  · have lt : ∀ {s}, s ≠ d → (upd g d (c, false) s).isSome → κ s < w.heap.size := fun {s} e hs => by
      rw [upd_ne _ _ e] at hs
      obtain ⟨⟨c', b⟩, hx⟩ := Option.isSome_iff_exists.1 hs
      exact (h.hd s c' b hx).2.lt
    by_cases e : s = d
    · have e' : s' ≠ d := fun e' => hne (e.trans e'.symm)
      have := lt e' h2
      simp only [e, e', if_true, if_false]; omega
    · by_cases e' : s' = d
      · have := lt e h1
        simp only [e, e', if_true, if_false]; omega
      · simp only [e, e', if_false]
        rw [upd_ne _ _ e] at h1; rw [upd_ne _ _ e'] at h2
        exact h.inj s s' h1 h2 hne

theorem Sim.put {g : Gh} {κ : Nat → Nat} {w w' : World} (h : Sim w0 g κ w) {d : Nat} {c0 c : List Value} {b : Bool} (hd : g d = some (c0, b)) (hh : Hd w' (κ d) c) (hu : Upd (κ d) w w') : Sim w0 (upd g d (c, true)) κ w' := by
  have hk := (h.hd d c0 b hd).1
  refine ⟨h.base.trans (hu.below hk), fun s c' b' hs => ?_, fun s s' h1 h2 hne => ?_⟩
  · by_cases e : s = d
    · subst e
      rw [upd_same] at hs
      simp only [Option.some.injEq, Prod.mk.injEq] at hs
      obtain ⟨rfl, rfl⟩ := hs
      exact ⟨hk, hh⟩
    · rw [upd_ne _ _ e] at hs
      exact ⟨(h.hd s c' b' hs).1, hu.hd (h.inj s d (by rw [hs]; rfl) (by rw [hd]; rfl) e) (h.hd s c' b' hs).2⟩
  · have up : ∀ {s}, (upd g d (c, true) s).isSome → (g s).isSome := fun {s} hs => by
      by_cases e : s = d
      · subst e; rw [hd]; rfl
      · rwa [upd_ne _ _ e] at hs
    exact h.inj s s' (up h1) (up h2) hne

theorem wp_of_valid {o : Oper} (hs : ∀ cs b, o.op ≠ .select cs b) {a : Act} {g : Gh} {κ : Nat → Nat} {y : Eff} {w : World} {K : Act → Gh → Prop} {K' : Act → World → Prop} {Q' : Exit → Act → World → Prop}
    (hy : Valid P ops w0 o a g y) (hw : Sim w0 g κ w) (hsz : ∀ d, (g d).isSome → d < a.tmps.size) (hk : K (a.put o.dst y.val) (y.gh o g))
    (h : ∀ a' g' κ' w', Sim w0 g' κ' w' → (∀ d, (g' d).isSome → d < a'.tmps.size) → K a' g' → K' (over κ' g' a') w') :
    (if Region.wanted o (yielded ops (over κ g a).tmps) then o.wp P (over κ g a) w K' Q' ∨ (o.asks P (over κ g a) w ∧ LetsOut Q') else K' ((over κ g a).put o.dst undef) w) := by
  cases y with
  | quiet v =>
    obtain ⟨q1, q2, q3⟩ := hy
    rw [wanted_over fun t ht => q1 t (guardT_looks ht)]
    have fin : ∀ w', Sim w0 g κ w' → K' ((over κ g a).put o.dst v) w' := fun w' hw' => by
      rw [over_put q2]; exact h _ _ _ _ hw' (by rw [size_put]; exact hsz) hk
    rcases q3 with ⟨q3, q4⟩ | ⟨q3, rfl⟩
    · simp only [q3, if_true]
      refine .inl ?_
      have q5 := q4 w hw.base
      unfold Oper.quietAt at q5
      unfold Oper.wp
      rw [exec_over hs q1]
      generalize (execOp a.eval o).run P w = r at *
      cases r with
      | ok n w' =>
        cases n <;> simp only [Oper.quietUpon] at q5 <;> simp only [Oper.upon]
        case value u =>
          obtain ⟨rfl, rfl⟩ := q5
          exact fin _ hw
        case skip =>
          obtain ⟨rfl, e2⟩ := q5
          rw [← e2]
          exact fin _ hw
        case enter f args =>
          obtain ⟨rfl, hc⟩ := q5
          exact hc.mono fun e w'' ⟨he, hw''⟩ => by subst he; exact fin _ (hw.below hw'')
      | halt x w' => simp only [Oper.quietUpon] at q5
    · simp only [q3, Bool.false_eq_true, if_false]
      exact fin _ hw
  | new c =>
    obtain ⟨q1, q2, d, e, t, q3, q4, q5, q6, q7⟩ := hy
    rw [wanted_over q1]
    simp only [q2, if_true]
    refine .inl ?_
    unfold Oper.wp
    have hr : (execOp (over κ g a).eval o).run P w = .ok (.value (.pointer (some ⟨w.heap.size, 0, none⟩))) (w.alloc (.cells c.toArray t)) := by
      simp only [execOp, q3]
      rw [Sem.run_bind, q7 w]
      rfl
    rw [hr]
    simp only [Oper.upon, q4]
    rw [over_new (c, false) q6 _ q5]
    simp only [Eff.val, Eff.gh, q4] at hk
    refine h _ _ _ _ (hw.new q6 c t) (fun s hs => ?_) hk
    rw [size_put]
    by_cases e : s = d
    · subst e; exact q5
    · rw [upd_ne _ _ e] at hs; exact hsz s hs
  | put d c =>
    obtain ⟨q1, q0, q2, t, x, c0, q3, q4, q5, q6⟩ := hy
    rw [wanted_over q1]
    simp only [q2, if_true]
    refine .inl ?_
    unfold Oper.wp
    have hd := hw.hd d c0 false q5
    obtain ⟨w', r1, r2, r3⟩ := q6 w (κ d) hd.2
    have hr : (execOp (over κ g a).eval o).run P w = .ok .skip w' := by
      simp only [execOp, q3]
      rw [over_at q5 (hsz d (by rw [q5]; rfl)), over_eval q4, Sem.run_bind, r1]
      rfl
    rw [hr]
    simp only [Oper.upon]
    rw [over_put q0]
    simp only [Eff.val, Eff.gh] at hk
    have hc : over κ g (a.put o.dst undef) = over κ (upd g d (c, true)) (a.put o.dst undef) := over_congr _ fun s => by
      by_cases e : s = d
      · subst e; rw [upd_same, q5]; simp
      · rw [upd_ne _ _ e]; simp
    rw [hc]
    refine h _ _ _ _ (hw.put q5 r2 r3) (fun s hs => ?_) hk
    rw [size_put]
    by_cases e : s = d
    · subst e; exact hsz s (by rw [q5]; rfl)
    · rw [upd_ne _ _ e] at hs; exact hsz s hs

theorem wpAny_of_gh (hsel : ∀ (j : Nat) (o : Oper) cs b, ops[j]? = some o → o.op ≠ .select cs b) {Q : Act → Gh → Prop} {Q' : Exit → Act → World → Prop} (hQ : ∀ a g κ w, Sim w0 g κ w → Q a g → Q' .normal (over κ g a) w) :
    ∀ (fuel : Nat) (listed : Array Bool) (a : Act) (g : Gh) (κ : Nat → Nat) (w : World), Sim w0 g κ w → (∀ d, (g d).isSome → d < a.tmps.size) → wpAnyG P md ops w0 Q fuel listed a g → wpAny P md ops Q' fuel listed (over κ g a) w
  | 0, _, _, _, _, _, hw, _, h => ⟨h.1, hQ _ _ _ _ hw h.2⟩
  | fuel + 1, listed, a, g, κ, w, hw, hz, h => ⟨fun h0 => hQ _ _ _ _ hw (h.1 h0), fun i hi => by
      have hg := h.2 i hi
      unfold gOp at hg
      unfold wpOp
      cases ho : ops[i]? with
      | none => simp only [ho] at hg; exact wpAny_of_gh hsel hQ fuel _ _ _ _ _ hw hz hg
      | some o =>
        simp only [ho] at hg
        obtain ⟨y, hy, hk⟩ := hg
        exact wp_of_valid (hsel i o · · ho) hy hw hz hk (fun a' g' κ' w' hw' hz' hk' => wpAny_of_gh hsel hQ fuel _ _ _ _ _ hw' hz' hk')⟩

theorem over_none (κ : Nat → Nat) (a : Act) : over κ (fun _ => none) a = a := by
  unfold over
  cases a with
  | mk t d =>
    simp only [Act.mk.injEq, and_true]
    apply Array.ext_getElem?
    intro i
    simp

/-- **One walk in the order of the text serves every order.** -/
theorem region_gh {id : Nat} {Q : Exit → Act → World → Prop} {a : Act} {w : World} {l : List Oper} (hm : P.follows .mixedOrders = true) (hB : Region.lexB .any l.toArray = true)
    (h : wpLexG P l.toArray w.drew (fun a' g' => ∀ κ w', Sim w.drew g' κ w' → Q .normal (over κ g' a') w') l a (fun _ => none)) : (Code.region id l.toArray true).wp P Q a w := by
  simp only [Region.lexB, Bool.and_eq_true] at hB
  have hsel := Region.noSelect_spec hB.1
  refine wp_region_any hm ?_
  have h1 := wpAnyG_lex (md := .any) (P := P) (w0 := w.drew) hB.1 l 0 (Array.replicate l.length false) a (fun _ => none) (by simp) (by simpa using hB.2) h
  have h2 := wpAny_of_gh (Q' := Q) hsel (fun a' g' κ w' hw' hq => hq κ w' hw') _ _ _ _ (fun _ => 0) w.drew ⟨Below.refl _ _, (fun _ _ _ h => by cases h), (fun _ _ h => by cases h)⟩ (fun _ h => by cases h) h1
  rw [over_none] at h2
  simpa using h2

/-! ### The steps -/

/-- The new boxes, as a list. -/
def toG : List (Nat × List Value × Bool) → Gh
  | [] => fun _ => none
  | (d, x) :: l => upd (toG l) d x
theorem toG_none {l : List (Nat × List Value × Bool)} {t : Nat} (h : ∀ p ∈ l, p.1 ≠ t) : toG l t = none := by
  induction l with
  | nil => rfl
  | cons p l ih =>
    obtain ⟨d, x⟩ := p
    rw [toG, upd_ne _ _ (fun e => h _ List.mem_cons_self e.symm)]
    exact ih fun q hq => h q (List.mem_cons_of_mem _ hq)
/-- Slots apart from the boxes' own. -/
def clearT (l : List (Nat × List Value × Bool)) (ts : List Nat) : Bool := ts.all fun t => (l.map (·.1)).all fun d => !(d == t)
theorem clearT_spec {l : List (Nat × List Value × Bool)} {ts : List Nat} (h : clearT l ts = true) : ∀ t ∈ ts, toG l t = none := fun t ht => by
  unfold clearT at h
  rw [List.all_eq_true] at h
  have := h t ht
  rw [List.all_eq_true] at this
  exact toG_none fun p hp e => by
    have := this p.1 (List.mem_map.2 ⟨p, hp, rfl⟩)
    simp [e] at this
def seesT (ops : Array Oper) (o : Oper) : List Nat := o.looksAt ops ++ o.dst.toList

variable {Q : Act → Gh → Prop}
theorem lexG_nil {a : Act} {g : Gh} (h : Q a g) : wpLexG P ops w0 Q [] a g := h

theorem quiet_uniq {o : Oper} {a : Act} {z : World} {u v : Value} {C D : World → Prop} (h1 : o.quietAt P a C z u) (h2 : o.quietAt P a D z v) : u = v := by
  unfold Oper.quietAt at h1 h2
  generalize (execOp a.eval o).run P z = r at *
  cases r with
  | ok n w' =>
    cases n <;> simp only [Oper.quietUpon] at h1 h2
    case value x => rw [← h1.2, ← h2.2]
    case skip => rw [h1.2, h2.2]
    case enter f args => exact Calls.uniq h1.2 h2.2
  | halt x w' => simp only [Oper.quietUpon] at h1

theorem lex_quiet {g : Gh} {l2 : List Oper} : ∀ {l1 : List Oper} {a : Act}, (∀ o ∈ l1, ∀ t ∈ seesT ops o, g t = none) →
    (∀ z, Below w0.heap.size w0 z → wpQuiet P ops (fun w'' => Below z.heap.size z w'') (fun a' => wpLexG P ops w0 Q l2 a' g) l1 a) → wpLexG P ops w0 Q (l1 ++ l2) a g
  | [], a, _, h => h w0 (Below.refl _ _)
  | o :: l1, a, hb, h => by
    have hb0 := hb o List.mem_cons_self
    have v1 : ∀ t ∈ o.looksAt ops, g t = none := fun t ht => hb0 t (List.mem_append_left _ ht)
    have v2 : ∀ d, o.dst = some d → g d = none := fun d hd => hb0 d (List.mem_append_right _ (by rw [hd]; simp))
    have rest := fun {a'} => lex_quiet (l2 := l2) (l1 := l1) (a := a') fun o' ho' => hb o' (List.mem_cons_of_mem _ ho')
    rw [List.cons_append]
    by_cases hw : Region.wanted o (yielded ops a.tmps) = true
    · simp only [wpQuiet, hw, if_true, Oper.quiet] at h
      obtain ⟨v, hv, -⟩ := h w0 (Below.refl _ _)
      have hall : ∀ z, Below w0.heap.size w0 z → (∀ w, Below z.heap.size z w → o.quietAt P a (fun w'' => Below z.heap.size z w'') w v) ∧ wpQuiet P ops (fun w'' => Below z.heap.size z w'') (fun a' => wpLexG P ops w0 Q l2 a' g) l1 (a.put o.dst v) := fun z hz => by
        obtain ⟨u, hu, hn⟩ := h z hz
        obtain rfl : u = v := quiet_uniq (hu z (Below.refl _ _)) (hv z hz)
        exact ⟨hu, hn⟩
      exact ⟨.quiet v, ⟨v1, v2, .inl ⟨hw, fun w hww => (hall w hww).1 w (Below.refl _ _)⟩⟩, rest fun z hz => (hall z hz).2⟩
    · simp only [wpQuiet, hw] at h
      exact ⟨.quiet undef, ⟨v1, v2, .inr ⟨by simpa using hw, rfl⟩⟩, rest h⟩

/-- A stretch of the text that only reads and calls. -/
theorem lex_seg (n : Nat) {gl : List (Nat × List Value × Bool)} {l : List Oper} {a : Act} (hb : (l.take n).all (fun o => clearT gl (seesT ops o)) = true)
    (h : ∀ (α : Type) (_ : Nonempty α) (F : α → World), (∀ x, Below w0.heap.size w0 (F x)) → (∀ x W, Below (F x).heap.size (F x) W → ∃ y, W = F y) →
      wpQuiet P ops (fun w'' => ∃ x, w'' = F x) (fun a' => wpLexG P ops w0 Q (l.drop n) a' (toG gl)) (l.take n) a) : wpLexG P ops w0 Q l a (toG gl) := by
  have key : wpLexG P ops w0 Q (l.take n ++ l.drop n) a (toG gl) := by
    refine lex_quiet (fun o ho => ?_) fun z hz => ?_
    · rw [List.all_eq_true] at hb
      exact clearT_spec (hb o ho)
    · have := h {W : World // Below z.heap.size z W} ⟨⟨z, Below.refl _ _⟩⟩ (fun x => x.1) (fun x => hz.trans (x.2.mono hz.size)) (fun x W hW => ⟨⟨W, x.2.trans (hW.mono x.2.size)⟩, rfl⟩)
      have e : (fun w'' => ∃ x : {W : World // Below z.heap.size z W}, w'' = x.1) = fun w'' => Below z.heap.size z w'' := by
        funext w''
        exact propext ⟨fun ⟨x, hx⟩ => hx ▸ x.2, fun hx => ⟨⟨w'', hx⟩, rfl⟩⟩
      rwa [e] at this
  rwa [List.take_append_drop] at key

theorem seg_call {α : Type} {F : α → World} (h2 : ∀ x W, Below (F x).heap.size (F x) W → ∃ y, W = F y) {f : FuncId} {args : Array Value} {v : Value}
    (h : ∀ w, Calls P f args w fun e w' => e = .returned v ∧ Below w.heap.size w w') (x : α) : Calls P f args (F x) fun e w'' => e = .returned v ∧ ∃ y, w'' = F y :=
  (h (F x)).mono fun _ _ ⟨he, hb⟩ => ⟨he, h2 x _ hb⟩

/-- A new box. -/
theorem lex_new {gl : List (Nat × List Value × Bool)} {o : Oper} {rest : List Oper} {a : Act} (c : List Value) (d : Nat) (e t : TypeId) (ho : o.op = .alloc e) (hd : o.dst = some d) (hz : d < a.tmps.size)
    (hc : clearT gl (d :: guardT ops o) = true) (hw : Region.wanted o (yielded ops a.tmps) = true)
    (hr : ∀ w, (Instr.alloc e true (.tuple #[])).run P w = .ok (.pointer (some ⟨w.heap.size, 0, none⟩)) (w.alloc (.cells c.toArray t)))
    (h : wpLexG P ops w0 Q rest (a.put (some d) undef) (toG ((d, c, false) :: gl))) : wpLexG P ops w0 Q (o :: rest) a (toG gl) := by
  have hcs := clearT_spec hc
  refine ⟨.new c, ⟨fun t ht => hcs t (List.mem_cons_of_mem _ ht), hw, d, e, t, ho, hd, hz, hcs d List.mem_cons_self, hr⟩, ?_⟩
  simpa only [Eff.val, Eff.gh, hd, toG] using h

/-- A store into a new box. -/
theorem lex_put {gl : List (Nat × List Value × Bool)} {o : Oper} {rest : List Oper} {a : Act} (c c0 : List Value) (d : Nat) (t : TypeId) (x : Operand) (ho : o.op = .store t (.tmp d) x)
    (hc : clearT gl (operT x ++ guardT ops o ++ o.dst.toList) = true) (hg : toG gl d = some (c0, false)) (hw : Region.wanted o (yielded ops a.tmps) = true)
    (hr : ∀ w k, Hd w k c0 → ∃ w', (Instr.storeAt t (.pointer (some ⟨k, 0, none⟩)) (a.eval x)).run P w = .ok () w' ∧ Hd w' k c ∧ Upd k w w')
    (h : wpLexG P ops w0 Q rest (a.put o.dst undef) (toG ((d, c, true) :: gl))) : wpLexG P ops w0 Q (o :: rest) a (toG gl) := by
  have hcs := clearT_spec hc
  refine ⟨.put d c, ⟨fun t ht => hcs t (by simp [ht]), fun d' hd' => hcs d' (by simp [hd']), hw, t, x, c0, ho, fun t ht => hcs t (by simp [ht]), hg, hr⟩, ?_⟩
  simpa only [Eff.val, Eff.gh, toG] using h

theorem over_toG (κ : Nat → Nat) (d : Nat) (x : List Value × Bool) (l : List (Nat × List Value × Bool)) (a : Act) :
    over κ (toG ((d, x) :: l)) a = (over κ (toG l) a).put (some d) (.pointer (some ⟨κ d, 0, none⟩)) := by
  simp only [over, Act.put, toG]
  congr 1
  apply Array.ext_getElem?
  intro i
  by_cases hi : d = i
  · subst hi
    by_cases hs : d < a.tmps.size
    · simp [hs, upd_same]
    · simp [hs]
  · have hi' : ¬ i = d := fun e => hi e.symm
    simp [Array.getElem?_setIfInBounds_ne hi, upd_ne (toG l) x hi']
theorem over_nil (κ : Nat → Nat) (a : Act) : over κ (toG []) a = a := over_none κ a
end
end Go.Proofs.YthehcjfmokabfaaGreatDoor

/-
  Layer 1, law: a law's numbers in new boxes, whatever the order.
-/
namespace Go.Proofs.YthehcjfmokabfaaGreatDoor
open Go.RowKit
attribute [local irreducible] lo hs sm s64 c64 d64 b64 mh ml pd pc qd qc val hiB str cmpI srD lz nb isq decB

/-- The cells of a number. -/
abbrev nc (n : Nat) : List Value := [.int .u64 ((lo n : Nat) : Int), .string (hs n)]
theorem Hd.nx {w : World} {k n : Nat} (h : Hd w k (nc n)) : NX w k n :=
  ⟨⟨h.cell 0 (by simp), h.cell 1 (by simp), fun j => h.frz j⟩, h.lt⟩
theorem nc_zero : nc 0 = [.int .u64 0, .string ⟨#[]⟩] := by unfold nc; rw [lo_small Bs_pos, hs_small Bs_pos]; rfl

theorem below_drew {x W : World} (hb : Below x.drew.heap.size x.drew W) : Below x.heap.size x W := ((Below.refl x.heap.size x).drew).trans hb
theorem NL.plus {w W : World} {L : List (Nat × Nat)} {k n : Nat} (h : NL w W L) (hw : w.heap.size ≤ k) (hk : ∀ p ∈ L, p.1 ≠ k) (hx : NX W k n) : NL w W ((k, n) :: L) := by
  refine ⟨h.bl, fun p hp => ?_, ?_⟩
  · rcases List.mem_cons.1 hp with rfl | hp
    · exact ⟨hw, hx⟩
    · exact h.all p hp
  · rw [List.map_cons, List.nodup_cons]
    exact ⟨fun hm => by obtain ⟨p, hp, he⟩ := List.mem_map.1 hm; exact hk p hp he, h.nd⟩
/-- The boxes that a region has made. -/
theorem NL.ghs {w x W : World} {L : List (Nat × Nat)} {g : Gh} {κ : Nat → Nat} (h : NL w x L) (hS : Sim x.drew g κ W) : ∀ (ds : List (Nat × Nat)), (ds.map (·.1)).Nodup → (∀ p ∈ ds, ∃ b, g p.1 = some (nc p.2, b)) →
    NL w W (ds.map (fun p => (κ p.1, p.2)) ++ L)
  | [], _, _ => h.call (below_drew hS.base)
  | p :: ds, hn, hg => by
    rw [List.map_cons, List.nodup_cons] at hn
    have ih := NL.ghs h hS ds hn.2 fun q hq => hg q (List.mem_cons_of_mem _ hq)
    obtain ⟨b, hb⟩ := hg p List.mem_cons_self
    obtain ⟨h1, h2⟩ := hS.hd _ _ _ hb
    refine ih.plus (Nat.le_trans h.bl.size h1) (fun q hq => ?_) h2.nx
    rcases List.mem_append.1 hq with hq | hq
    · obtain ⟨r, hr, rfl⟩ := List.mem_map.1 hq
      obtain ⟨b', hb'⟩ := hg r (List.mem_cons_of_mem _ hr)
      exact hS.inj _ _ (by rw [hb']; rfl) (by rw [hb]; rfl) fun e => hn.1 (List.mem_map.2 ⟨r, hr, e⟩)
    · have := (h.all q hq).2.lt
      have h1' : x.heap.size ≤ κ p.1 := h1
      omega

theorem seg_get {α : Type} {F : α → World} {x : World} (h1 : ∀ y, Below x.drew.heap.size x.drew (F y)) {w : World} {L : List (Nat × Nat)} (hL : NL w x L) (k n : Nat) (hm : (k, n) ∈ L) :
    (∀ y, (F y).cell? ⟨k, 0, none⟩ = some (.int .u64 ((lo n : Nat) : Int))) ∧ (∀ y, (F y).cell? ⟨k, 1, none⟩ = some (.string (hs n))) :=
  cls_get (fun y => below_drew (h1 y)) hL k n hm
theorem seg_callT {α : Type} {F : α → World} {x w : World} {L : List (Nat × Nat)} (h1 : ∀ y, Below x.drew.heap.size x.drew (F y)) (h2 : ∀ x W, Below (F x).heap.size (F x) W → ∃ y, W = F y) (ht : Tab w) (hL : NL w x L) {f : FuncId} {args : Array Value} {v : Value}
    (h : ∀ w, Tab w → Calls Tryz.prog f args w fun e w' => e = .returned v ∧ Below w.heap.size w w') (y : α) : Calls Tryz.prog f args (F y) fun e w'' => e = .returned v ∧ ∃ y, w'' = F y :=
  (h (F y) ((ht.below hL.bl).below (below_drew (h1 y)))).mono fun _ _ ⟨he, hb⟩ => ⟨he, h2 y _ hb⟩

theorem new_nat (w : World) : (Instr.alloc 32 true (.tuple #[])).run Tryz.prog w = .ok (.pointer (some ⟨w.heap.size, 0, none⟩)) (w.alloc (.cells (nc 0).toArray 32)) := by
  rw [nc_zero]
  simp [go_sem, Instr.alloc]
theorem hd_put2 {w : World} {k : Nat} {x0 x1 : Value} (h : Hd w k [x0, x1]) (v0 v1 : Value) : Hd ((w.setCell ⟨k, 0, none⟩ v0).setCell ⟨k, 1, none⟩ v1) k [v0, v1] := by
  have h0 : w.cell? ⟨k, 0, none⟩ = some x0 := h.cell 0 (by simp)
  have h1 : w.cell? ⟨k, 1, none⟩ = some x1 := h.cell 1 (by simp)
  have hb : Bx w k x0 x1 := ⟨h0, h1, fun j => h.frz j⟩
  have := put2 hb v0 v1
  refine ⟨fun i hi => ?_, fun j => this.2.2 j, by simp [World.setCell]; exact h.lt, row_set (row_set h.row 0 v0) 1 v1⟩
  match i, hi with
  | 0, _ => exact this.1
  | 1, _ => exact this.2.1
  | i + 2, hi => simp only [List.length_cons, List.length_nil] at hi; omega
theorem put_nat (n0 n : Nat) (w : World) (k : Nat) (h : Hd w k (nc n0)) :
    ∃ w', (Instr.storeAt 32 (.pointer (some ⟨k, 0, none⟩)) (natV n)).run Tryz.prog w = .ok () w' ∧ Hd w' k (nc n) ∧ Upd k w w' := by
  have h0 : w.cell? ⟨k, 0, none⟩ = some (.int .u64 ((lo n0 : Nat) : Int)) := h.cell 0 (by simp)
  have h1 : w.cell? ⟨k, 1, none⟩ = some (.string (hs n0)) := h.cell 1 (by simp)
  have hf := h.frz
  refine ⟨_, ?_, hd_put2 h (.int .u64 ((lo n : Nat) : Int)) (.string (hs n)), ((Upd.refl k w).setCell 0 _).setCell 1 _⟩
  simp [go_sem, Instr.storeAt, Instr.sureAddr, h0, h1, hf]
end Go.Proofs.YthehcjfmokabfaaGreatDoor

/-
  Layer 1: the order of decimal forms, as mathematics.
-/
namespace Go.Proofs.YthehcjfmokabfaaGreatDoor
open Go.Lib (decDigits nDigits)

theorem dval_cons (c : UInt8) (l : List UInt8) : dval (c :: l) = (c.toNat - 48) * 10 ^ l.length + dval l := by
  have := dval_append [c] l
  rw [List.singleton_append] at this
  rw [this]
  show dval ([] ++ [c]) * _ + _ = _
  rw [dval_snoc, dval_nil, Nat.zero_mul, Nat.zero_add]

theorem bless_dval {a b : List UInt8} (hl : a.length = b.length) (ha : ∀ c ∈ a, isDig c) (hb : ∀ c ∈ b, isDig c) : bless a b = decide (dval a < dval b) := by
  induction a generalizing b with
  | nil =>
    have := (List.eq_nil_of_length_eq_zero hl.symm); subst this; simp [bless]
  | cons x a ih =>
    cases b with
    | nil => cases hl
    | cons y b =>
      have hl' : a.length = b.length := by simpa using hl
      have h1 := dval_lt (l := a) fun c hc => ha c (List.mem_cons_of_mem _ hc)
      have h2 := dval_lt (l := b) fun c hc => hb c (List.mem_cons_of_mem _ hc)
      have hx := ha x List.mem_cons_self
      have hy := hb y List.mem_cons_self
      unfold isDig at hx hy
      rw [hl'] at h1
      simp only [bless, dval_cons, hl', ih hl' (fun c hc => ha c (List.mem_cons_of_mem _ hc)) (fun c hc => hb c (List.mem_cons_of_mem _ hc))]
      have hm : ∀ p q : Nat, p < q → p * 10 ^ b.length + 10 ^ b.length ≤ q * 10 ^ b.length := fun p q h => by
        rw [← Nat.succ_mul]; exact Nat.mul_le_mul_right _ h
      rcases Nat.lt_trichotomy x.toNat y.toNat with h | h | h
      · have := hm (x.toNat - 48) (y.toNat - 48) (by omega)
        have hxy : x < y := UInt8.lt_iff_toNat_lt.2 h
        simp [hxy]; omega
      · have hxy : x = y := UInt8.toNat_inj.1 h
        subst hxy
        simp
      · have := hm (y.toNat - 48) (x.toNat - 48) (by omega)
        have hxy : ¬ x < y := fun hh => by have := UInt8.lt_iff_toNat_lt.1 hh; omega
        have hne : (x == y) = false := by simp; intro hh; subst hh; omega
        rw [hne]
        simp only [hxy, decide_false, Bool.false_or, Bool.false_and]
        exact (decide_eq_false (by omega)).symm

theorem dec_len_mono {a b : Nat} (h : a ≤ b) : (decDigits a).length ≤ (decDigits b).length := by
  have h1 := (dec_length_lt (n := b) (dec_length_pos b)).1 (Nat.le_refl _)
  exact (dec_length_lt (dec_length_pos b)).2 (Nat.lt_of_le_of_lt h h1)
theorem dec_less {a b : Nat} (hl : (decDigits a).length = (decDigits b).length) : bless (decDigits a) (decDigits b) = decide (a < b) := by
  rw [bless_dval hl (dec_isDig a) (dec_isDig b), dval_dec, dval_dec]
end Go.Proofs.YthehcjfmokabfaaGreatDoor

/-
  Layer 1, law F: NatsTexts.
-/
namespace Go.Proofs.YthehcjfmokabfaaGreatDoor
open Go.RowKit
attribute [local irreducible] lo hs sm s64 c64 d64 b64 mh ml pd pc qd qc val hiB str cmpI srD lz nb isq decB

theorem txt_size (a : Nat) : (txt a).size = (Lib.decDigits a).length := rfl
theorem txt_list (a : Nat) : (txt a).toList = Lib.decDigits a := by unfold txt; rw [ByteArray.toList_eq]
theorem txt_st (a : Nat) : txt a = st (Lib.decDigits a) := rfl
theorem natV_ne {a b : Nat} (h : a ≠ b) : ((((lo a : Nat) : Int) == ((lo b : Nat) : Int)) = false) ∨ ((((lo a : Nat) : Int) == ((lo b : Nat) : Int)) = true ∧ ((hs a).toList == (hs b).toList) = false) := by
  by_cases hl : lo a = lo b
  · right
    refine ⟨by rw [hl]; simp, ?_⟩
    rw [hs_eq, decide_eq_false]
    intro hq
    apply h
    unfold lo at hl
    rw [← Nat.div_add_mod a Bs, ← Nat.div_add_mod b Bs, hl, hq]
  · left
    exact beq_eq_false_iff_ne.2 (by omega)
theorem txt_irr (a : Nat) : Op.bytesLess (txt a).toList (txt a).toList = false := by
  rw [less_eq, txt_list, dec_less rfl]; simp
/-- What the law's test looks at. -/
theorem txt_cases (a b : Nat) :
    (a = b) ∨
    (a ≠ b ∧ ((txt a).toList == (txt b).toList) = false ∧
      (((decide (((txt b).size : Int) < ((txt a).size : Int)) = false ∧ decide ((txt b).size < (txt a).size) = false) ∧ (((txt a).size : Int) == ((txt b).size : Int)) = false ∧ ((txt a).size == (txt b).size) = false) ∨
       ((decide (((txt b).size : Int) < ((txt a).size : Int)) = true ∧ decide ((txt b).size < (txt a).size) = true) ∧ ((((txt a).size : Int) == ((txt b).size : Int)) = false ∧ ((txt a).size == (txt b).size) = false) ∧ cmpI a b = 1) ∨
       ((decide (((txt b).size : Int) < ((txt a).size : Int)) = false ∧ decide ((txt b).size < (txt a).size) = false) ∧ ((((txt a).size : Int) == ((txt b).size : Int)) = true ∧ ((txt a).size == (txt b).size) = true) ∧
          ((Op.bytesLess (txt a).toList (txt b).toList = true ∧ cmpI a b = -1) ∨ (Op.bytesLess (txt a).toList (txt b).toList = false ∧ cmpI a b = 1))))) := by
  by_cases h : a = b
  · exact .inl h
  · right
    have hne : ((txt a).toList == (txt b).toList) = false := by
      rw [txt_list, txt_list, beq_eq_false_iff_ne]
      exact fun e => h (dec_inj e)
    refine ⟨h, hne, ?_⟩
    simp only [txt_size, less_eq, txt_list]
    rcases Nat.lt_trichotomy (Lib.decDigits a).length (Lib.decDigits b).length with hl | hl | hl
    · exact .inl ⟨⟨decide_eq_false (by omega), decide_eq_false (by omega)⟩, beq_eq_false_iff_ne.2 (by omega), beq_eq_false_iff_ne.2 (by omega)⟩
    · refine .inr (.inr ⟨⟨decide_eq_false (by omega), decide_eq_false (by omega)⟩, ⟨beq_iff_eq.2 (by omega), beq_iff_eq.2 (by omega)⟩, ?_⟩)
      rw [dec_less hl]
      rcases Nat.lt_trichotomy a b with h1 | h1 | h1
      · exact .inl ⟨decide_eq_true h1, cmpI_lt h1⟩
      · exact absurd h1 h
      · exact .inr ⟨decide_eq_false (by omega), cmpI_gt h1⟩
    · refine .inr (.inl ⟨⟨decide_eq_true (by omega), decide_eq_true (by omega)⟩, ⟨beq_eq_false_iff_ne.2 (by omega), beq_eq_false_iff_ne.2 (by omega)⟩, cmpI_gt ?_⟩)
      rcases Nat.lt_or_ge b a with h1 | h1
      · exact h1
      · have := dec_len_mono h1; omega
theorem sqrt_all (a : Nat) (hla : (digs a).length ≤ 1000000000) (w : World) : Calls Tryz.prog 64 #[natV a] w fun e w' => e = .returned (natV (isq a)) ∧ Below w.heap.size w w' := by
  rcases Nat.eq_zero_or_pos a with rfl | h
  · exact sqrt_zero w
  · exact sqrt_pos a h hla w

set_option maxHeartbeats 4000000 in
set_option maxRecDepth 100000 in
theorem texts_big (ax ay : Option Addr) (cx cy nx ny : Nat) (h : 20 < nx ∨ 20 < ny) (w : World) (htab : Tab w) :
    Calls Tryz.prog 10 #[.slice ax nx cx, .slice ay ny cy] w fun e w' => e = .returned (.bool true) ∧ Below w.heap.size w w' := by
  have HW := Lib.hid (works_any w htab)
  have key : (decide ((20 : Int) < (nx : Int)) = true) ∨ (decide ((20 : Int) < (nx : Int)) = false ∧ decide ((20 : Int) < (ny : Int)) = true) := by
    by_cases h0 : 20 < nx
    · exact .inl (decide_eq_true (by omega))
    · exact .inr (⟨decide_eq_false (by omega), decide_eq_true (by omega)⟩)
  clear h
  rcases key with k0 | ⟨k0, k1⟩
  all_goals (
    go_enter Tryz.func10, Tryz.ntmps10
    go_wp2_with fail
    with_reducible refine Calls.mono HW.out ?_
    rintro e w1 ⟨rfl, hb⟩
    go_wp2_with fail
    exact bodyPost_ret (v := .bool true) (by simp [results, Tryz.results10, go_sem]) rfl ⟨rfl, hb⟩)

set_option maxHeartbeats 16000000 in
set_option maxRecDepth 100000 in
theorem texts_small (vx vy : Value) (lx ly : List Nat) (w : World) (htab : Tab w) (hx : Ws w vx lx) (hy : Ws w vy ly) (nx : lx.length ≤ 20) (ny : ly.length ≤ 20) :
    Calls Tryz.prog 10 #[vx, vy] w fun e w' => e = .returned (.bool true) ∧ Below w.heap.size w w' := by
  have MX := fun w h => made_any vx lx (by omega) w h
  have MY := fun w h => made_any vy ly (by omega) w h
  obtain ⟨ax, cx, ex⟩ := hx.form
  obtain ⟨ay, cy, ey⟩ := hy.form
  have dx := Nat.le_trans (made_digs hx.lt) nx
  have dy := Nat.le_trans (made_digs hy.lt) ny
  subst ex ey
  have kx : decide ((20 : Int) < (lx.length : Int)) = false := decide_eq_false (by omega)
  have ky : decide ((20 : Int) < (ly.length : Int)) = false := decide_eq_false (by omega)
  generalize made lx = a at *
  generalize made ly = b at *
  replace hx := Lib.hid hx
  replace MX := Lib.hid MX
  replace hy := Lib.hid hy
  replace MY := Lib.hid MY
  generalize lx.length = Nx at *
  generalize ly.length = Ny at *
  have Ta := fun w ht => text_any a (by omega) w ht
  have Tb := fun w ht => text_any b (by omega) w ht
  have Pa := fun w => parse_ok (Lib.decDigits a) (Nat.le_trans (dec_len_bound dx (by omega)) (by omega)) (dec_isDec a) w
  rw [dval_dec] at Pa
  rw [← txt_st] at Pa
  have key := txt_cases a b
  obtain ⟨r, hr⟩ : ∃ r, r = isq a := ⟨_, rfl⟩
  obtain ⟨hr1, hr2⟩ := isq_spec a
  have Qa := fun w => sqrt_all a (by omega) w
  rw [← hr] at hr1 hr2 Qa
  clear hr
  have hra : r ≤ a := Nat.le_trans (Nat.le_mul_self r) hr1
  have dr : (digs r).length ≤ 20 := Nat.le_trans (digs_mono hra) dx
  have O1 := fun w => of_val 1 1 rfl (by unfold Bs; omega) w
  have Ar := fun w => add_any r 1 (by omega) (Nat.le_trans (sm_digs (k := 1) (by unfold Bs; decide)) (by omega)) w
  have dr1 : (digs (r + 1)).length ≤ 21 := digs_add_le dr (Nat.le_trans (sm_digs (k := 1) (by unfold Bs; decide)) (by omega))
  have Mr := fun w => mul_any r r (by omega) (by omega) w
  have Mr1 := fun w => mul_any (r + 1) (r + 1) (by omega) (by omega) w
  have Cr := fun w => cmp_any (r * r) a w
  have Cr1 := fun w => cmp_any ((r + 1) * (r + 1)) a w
  have c1 : decide (0 < cmpI (r * r) a) = false := decide_eq_false (by unfold cmpI; split <;> (try split) <;> omega)
  have c2 : decide (cmpI ((r + 1) * (r + 1)) a ≤ 0) = false := decide_eq_false (by rw [cmpI_gt hr2]; omega)
  have Ba := fun w => bits_any a (by omega) w
  have hn := nb_len dx
  have hn1 := nb_lt a
  have hn2 : 0 < a → 0 < nb a ∧ 2 ^ (nb a - 1) ≤ a := fun h => by obtain ⟨k, h1, h2, -⟩ := nb_spec (n := a) (by omega); rw [h1, Nat.add_sub_cancel]; exact ⟨by omega, h2⟩
  obtain ⟨n, hnn⟩ : ∃ n, n = nb a := ⟨_, rfl⟩
  rw [← hnn] at hn hn1 hn2 Ba
  have O2 := fun w => of_val 2 2 rfl (by unfold Bs; omega) w
  have h262 : ∀ k, k ≤ 4096 → k = 0 ∨ nb 2 ≤ 262144 / k := fun k hk => by
    rcases Nat.eq_zero_or_pos k with h | h
    · exact .inl h
    · exact .inr (Nat.le_trans (nb_le64 (by unfold Bs; omega)) ((Nat.le_div_iff_mul_le h).2 (by omega)))
  have P2 := fun w => pow_ok 2 n (by omega) (h262 n (by omega)) (Nat.le_trans (sm_digs (k := 1) (by unfold Bs; decide)) (by omega)) w
  have C2 := fun w => cmp_any a (2 ^ n) w
  have c3 : decide (0 ≤ cmpI a (2 ^ n)) = false := decide_eq_false (by rw [cmpI_lt hn1]; omega)
  have fin : (n = 0 ∧ a = 0) ∨ (∃ m, n = m + 1 ∧ 2 ^ m ≤ a) := by
    rcases Nat.eq_zero_or_pos a with h | h
    · exact .inl ⟨by rw [hnn, h, nb_zero], h⟩
    · obtain ⟨h1, h2⟩ := hn2 h
      exact .inr ⟨n - 1, by omega, h2⟩
  have P3 := fun m w => fun (h : m < n) => pow_ok 2 m (by omega) (h262 m (by omega)) (Nat.le_trans (sm_digs (k := 1) (by unfold Bs; decide)) (by omega)) w
  have hnl : n ≤ 4096 := by omega
  clear hn hn1 hn2 hnn h262 hr1 hr2 hra dr dr1
  generalize r * r = rr at *
  generalize (r + 1) * (r + 1) = ss at *
  generalize r + 1 = r1 at *
  generalize hpn : 2 ^ n = pn at *
  clear hpn
  generalize hsa : txt a = sa at *
  generalize hsb : txt b = sb at *
  replace hsa := Lib.hid hsa
  replace hsb := Lib.hid hsb
  replace Ta := Lib.hid Ta
  replace Tb := Lib.hid Tb
  replace Pa := Lib.hid Pa
  replace Qa := Lib.hid Qa
  replace O1 := Lib.hid O1
  replace Ar := Lib.hid Ar
  replace Mr := Lib.hid Mr
  replace Mr1 := Lib.hid Mr1
  replace Cr := Lib.hid Cr
  replace Cr1 := Lib.hid Cr1
  replace Ba := Lib.hid Ba
  replace O2 := Lib.hid O2
  replace P2 := Lib.hid P2
  replace C2 := Lib.hid C2
  replace c1 := Lib.hid c1
  replace c2 := Lib.hid c2
  replace c3 := Lib.hid c3
  replace fin := Lib.hid fin
  replace P3 := Lib.hid P3
  replace key := Lib.hid key
  replace hnl := Lib.hid hnl
  have hL0 : NL w w [] := NL.start w
  go_enter Tryz.func10, Tryz.ntmps10
  go_wp2_with fail
  with_reducible refine Calls.mono (MX.out _ hx.out) ?_
  rintro e x1 ⟨rfl, hb⟩
  replace hL0 := hL0.call hb
  clear hb MX
  go_wp2_with fail
  with_reducible refine Calls.mono (MY.out _ (hy.out.below hL0.bl)) ?_
  rintro e x2 ⟨rfl, hb⟩
  replace hL0 := hL0.call hb
  clear hb MY
  replace hL0 := ((hL0.new rfl a 32).new (szA _ _) b 32)
  generalize hweq : ((x2.alloc (.cells #[.int .u64 ((lo a : Nat) : Int), .string (hs a)] 32)).alloc (.cells #[.int .u64 ((lo b : Nat) : Int), .string (hs b)] 32)) = x3 at hL0
  go_upto_region 4 with fail
  clear hweq
  refine region_gh (by kernel_rfl) (by kernel_rfl) ?_
  refine lex_seg (gl := []) 6 (by kernel_rfl) ?_
  intro α iα F hF1 hF2
  obtain ⟨q1, s1⟩ := seg_get hF1 hL0 (x2.heap.size) a (by (repeat (first | with_reducible exact List.mem_cons_self | with_reducible refine List.mem_cons_of_mem _ ?_)))
  obtain ⟨q2, s2⟩ := seg_get hF1 hL0 (x2.heap.size + 1) b (by (repeat (first | with_reducible exact List.mem_cons_self | with_reducible refine List.mem_cons_of_mem _ ?_)))
  simp only [List.take_succ_cons, List.take_zero, List.drop_succ_cons, List.drop_zero, List.take_nil, List.drop_nil]
  repeat (go_big_quiet_step (first | fail | (go_at_call 34; with_reducible exact seg_callT hF1 hF2 htab hL0 Ta.out _) | (go_at_call 34; with_reducible exact seg_callT hF1 hF2 htab hL0 Tb.out _)))
  refine wpQuiet_nil ?_
  clear q1 s1 q2 s2 hF1 hF2 iα F α
  refine lexG_nil ?_
  intro κ x4 hS
  replace hL0 := hL0.ghs hS [] (by simp) (by intro p hp; cases hp)
  simp only [List.map_cons, List.map_nil, List.cons_append, List.nil_append] at hL0
  simp only [over_toG, over_nil, Act.put, List.setIfInBounds_toArray, List.set_cons_succ, List.set_cons_zero]
  clear hS
  go_wp2_with fail
  with_reducible refine Calls.mono (Pa.out _) ?_
  rintro e x5 ⟨rfl, hb⟩
  replace hL0 := hL0.call hb
  clear hb Pa
  replace hL0 := (hL0.new rfl a 32)
  generalize hweq : (x5.alloc (.cells #[.int .u64 ((lo a : Nat) : Int), .string (hs a)] 32)) = x6 at hL0
  obtain ⟨p3, r3⟩ := hL0.get (x2.heap.size) a (by (repeat (first | with_reducible exact List.mem_cons_self | with_reducible refine List.mem_cons_of_mem _ ?_)))
  obtain ⟨p4, r4⟩ := hL0.get (x2.heap.size + 1) b (by (repeat (first | with_reducible exact List.mem_cons_self | with_reducible refine List.mem_cons_of_mem _ ?_)))
  obtain ⟨p5, r5⟩ := hL0.get (x5.heap.size) a (by (repeat (first | with_reducible exact List.mem_cons_self | with_reducible refine List.mem_cons_of_mem _ ?_)))
  go_upto_region 6 with fail
  clear hweq
  go_cut [85] from 40 to 85 (fun t85 wx => t85 = .bool false ∧ NL w wx [(x5.heap.size, a), (x2.heap.size + 1, b), (x2.heap.size, a)])
  case first =>
    rcases key.out with hab | ⟨hab, ks, kk⟩
    · subst hab
      obtain rfl : sa = sb := by rw [← hsa.out, ← hsb.out]
      have ki := txt_irr a
      rw [hsa.out] at ki
      have Cx := fun w => cmp_any a a w
      rw [cmpI_eq] at Cx
      replace Cx := Lib.hid Cx
      go_wp2_with fail
      with_reducible refine Calls.mono (Cx.out _) ?_
      rintro e x7 ⟨rfl, hb⟩
      replace hL0 := hL0.call hb
      clear hb Cx
      go_wp2_with fail
      go_meet
      exact ⟨rfl, hL0⟩
    · rcases natV_ne hab with h1 | ⟨h1, h2⟩
      all_goals (
        rcases kk with ⟨⟨k1, k5⟩, k2, k6⟩ | ⟨⟨k1, k5⟩, ⟨k2, k6⟩, k3⟩ | ⟨⟨k1, k5⟩, ⟨k2, k6⟩, ⟨k4, k3⟩ | ⟨k4, k3⟩⟩
        · skip
          go_wp2_with fail
          go_meet
          exact ⟨rfl, hL0⟩
        · have Cx := fun w => cmp_any a b w
          rw [k3] at Cx
          replace Cx := Lib.hid Cx
          clear k3
          go_wp2_with fail
          with_reducible refine Calls.mono (Cx.out _) ?_
          rintro e x8 ⟨rfl, hb⟩
          replace hL0 := hL0.call hb
          clear hb Cx
          go_wp2_with fail
          go_meet
          exact ⟨rfl, hL0⟩
        · have Cx := fun w => cmp_any a b w
          rw [k3] at Cx
          replace Cx := Lib.hid Cx
          clear k3
          go_wp2_with fail
          with_reducible refine Calls.mono (Cx.out _) ?_
          rintro e x9 ⟨rfl, hb⟩
          replace hL0 := hL0.call hb
          clear hb Cx
          go_wp2_with fail
          go_meet
          exact ⟨rfl, hL0⟩
        · have Cx := fun w => cmp_any a b w
          rw [k3] at Cx
          replace Cx := Lib.hid Cx
          clear k3
          go_wp2_with fail
          with_reducible refine Calls.mono (Cx.out _) ?_
          rintro e x10 ⟨rfl, hb⟩
          replace hL0 := hL0.call hb
          clear hb Cx
          go_wp2_with fail
          go_meet
          exact ⟨rfl, hL0⟩)
  case rest =>
    clear hL0
    obtain ⟨rfl, hL0⟩ := hcut
    obtain ⟨p6, r6⟩ := hL0.get (x2.heap.size) a (by (repeat (first | with_reducible exact List.mem_cons_self | with_reducible refine List.mem_cons_of_mem _ ?_)))
    go_wp2_with fail
    with_reducible refine Calls.mono (Qa.out _) ?_
    rintro e x11 ⟨rfl, hb⟩
    replace hL0 := hL0.call hb
    clear hb Qa
    replace hL0 := (hL0.new rfl r 32)
    generalize hweq : (x11.alloc (.cells #[.int .u64 ((lo r : Nat) : Int), .string (hs r)] 32)) = x12 at hL0
    go_upto_region 9 with fail
    clear hweq
    refine region_gh (by kernel_rfl) (by kernel_rfl) ?_
    refine lex_seg (gl := []) 3 (by kernel_rfl) ?_
    intro α iα F hF1 hF2
    obtain ⟨q7, s7⟩ := seg_get hF1 hL0 (x11.heap.size) r (by (repeat (first | with_reducible exact List.mem_cons_self | with_reducible refine List.mem_cons_of_mem _ ?_)))
    simp only [List.take_succ_cons, List.take_zero, List.drop_succ_cons, List.drop_zero, List.take_nil, List.drop_nil]
    repeat (go_big_quiet_step (first | fail | (go_at_call 65; with_reducible exact seg_call hF2 O1.out _) | (go_at_call 53; with_reducible exact seg_call hF2 Ar.out _)))
    refine wpQuiet_nil ?_
    clear q7 s7 hF1 hF2 iα F α
    refine lex_new (nc 0) 12 32 32 rfl rfl (of_decide_eq_true (by kernel_rfl)) (by kernel_rfl) rfl new_nat ?_
    simp only [Act.put, List.setIfInBounds_toArray, List.set_cons_succ, List.set_cons_zero]
    refine lex_put (nc r1) (nc 0) 12 32 (.tmp 90) rfl (by kernel_rfl) (by simp [toG, upd]) rfl (fun w k h => put_nat 0 r1 w k h) ?_
    simp only [Act.put]
    refine lexG_nil ?_
    intro κ x13 hS
    replace hL0 := hL0.ghs hS [(12, r1)] (by simp) (by intro p hp; simp only [List.mem_cons, List.not_mem_nil, or_false] at hp; rcases hp with rfl <;> exact ⟨_, by simp only [toG, upd]; rfl⟩)
    simp only [List.map_cons, List.map_nil, List.cons_append, List.nil_append] at hL0
    simp only [over_toG, over_nil, Act.put, List.setIfInBounds_toArray, List.set_cons_succ, List.set_cons_zero]
    clear hS
    generalize κ 12 = k13_12 at *
    obtain ⟨p8, r8⟩ := hL0.get (x2.heap.size) a (by (repeat (first | with_reducible exact List.mem_cons_self | with_reducible refine List.mem_cons_of_mem _ ?_)))
    go_wp2_with fail
    with_reducible refine Calls.mono (Ba.out _) ?_
    rintro e x14 ⟨rfl, hb⟩
    replace hL0 := hL0.call hb
    clear hb Ba
    go_wp2_with fail
    with_reducible refine Calls.mono (O2.out _) ?_
    rintro e x15 ⟨rfl, hb⟩
    replace hL0 := hL0.call hb
    clear hb
    go_wp2_with fail
    with_reducible refine Calls.mono (P2.out _) ?_
    rintro e x16 ⟨rfl, hb⟩
    replace hL0 := hL0.call hb
    clear hb P2
    replace hL0 := (hL0.new rfl pn 32)
    generalize hweq : (x16.alloc (.cells #[.int .u64 ((lo pn : Nat) : Int), .string (hs pn)] 32)) = x17 at hL0
    go_upto_region 12 with fail
    clear hweq
    have c1' := c1.out
    have c2' := c2.out
    have c3' := c3.out
    obtain ⟨α, iα, F, hF1, hF2⟩ := cls x17
    obtain ⟨q9, s9⟩ := cls_get hF1 hL0 (x2.heap.size) a (by (repeat (first | with_reducible exact List.mem_cons_self | with_reducible refine List.mem_cons_of_mem _ ?_)))
    obtain ⟨q10, s10⟩ := cls_get hF1 hL0 (x11.heap.size) r (by (repeat (first | with_reducible exact List.mem_cons_self | with_reducible refine List.mem_cons_of_mem _ ?_)))
    obtain ⟨q11, s11⟩ := cls_get hF1 hL0 (k13_12) r1 (by (repeat (first | with_reducible exact List.mem_cons_self | with_reducible refine List.mem_cons_of_mem _ ?_)))
    obtain ⟨q12, s12⟩ := cls_get hF1 hL0 (x16.heap.size) pn (by (repeat (first | with_reducible exact List.mem_cons_self | with_reducible refine List.mem_cons_of_mem _ ?_)))
    refine region_cls (F := F) (by kernel_rfl) (by kernel_rfl) (cls_drew hF2) ?_
    repeat (go_big_quiet_step (first
      | (go_at_call 58; with_reducible exact cls_call hF1 hF2 Mr.out _)
      | (go_at_call 58; with_reducible exact cls_call hF1 hF2 Mr1.out _)
      | (go_at_call 55; with_reducible exact cls_call hF1 hF2 Cr.out _)
      | (go_at_call 55; with_reducible exact cls_call hF1 hF2 Cr1.out _)
      | (go_at_call 55; with_reducible exact cls_call hF1 hF2 C2.out _)))
    refine wpQuiet_nil ?_
    intro wq hwq
    obtain ⟨xq, rfl⟩ := hwq
    have hLq := hL0.call (hF1 xq)
    generalize F xq = x18 at hLq ⊢
    replace hL0 := hLq
    clear hLq hF1 hF2 q9 s9 q10 s10 q11 s11 q12 s12
    have HW := Lib.hid (fun w h => works_any w h)
    have P3' := P3.out
    clear P3 c1 c2 c3 c1' c2' c3' key hsa hsb Mr Mr1 Cr Cr1 C2 Ta Tb
    rcases fin.out with ⟨rfl, rfl⟩ | ⟨m, rfl, hle⟩
    · have P4 := Lib.hid (fun w => pow_neg 2 (-1) (by omega) w)
      have z1 : (((lo 0 : Nat) : Int) == 0) = true := by rw [lo_zero]; rfl
      have z2 : ((hs 0).toList == []) = true := by rw [hs_zero, ByteArray.toList_eq]; rfl
      clear P3' fin
      obtain ⟨p13, r13⟩ := hL0.get (x2.heap.size) 0 (by (repeat (first | with_reducible exact List.mem_cons_self | with_reducible refine List.mem_cons_of_mem _ ?_)))
      go_wp2_with fail
      with_reducible refine Calls.mono (O2.out _) ?_
      rintro e x19 ⟨rfl, hb⟩
      replace hL0 := hL0.call hb
      clear hb O2
      go_wp2_with fail
      with_reducible refine Calls.mono (P4.out _) ?_
      rintro e x20 ⟨rfl, hb⟩
      replace hL0 := hL0.call hb
      clear hb P4
      replace hL0 := hL0.new rfl 0 32
      generalize hweq : x20.alloc (.cells #[.int .u64 ((lo 0 : Nat) : Int), .string (hs 0)] 32) = x21 at hL0
      obtain ⟨p14, r14⟩ := hL0.get (x20.heap.size) 0 (by (repeat (first | with_reducible exact List.mem_cons_self | with_reducible refine List.mem_cons_of_mem _ ?_)))
      obtain ⟨p15, r15⟩ := hL0.get (x2.heap.size) 0 (by (repeat (first | with_reducible exact List.mem_cons_self | with_reducible refine List.mem_cons_of_mem _ ?_)))
      go_wp2_with fail
      with_reducible refine Calls.mono (HW.out _ (htab.below hL0.bl)) ?_
      rintro e x22 ⟨rfl, hb⟩
      replace hL0 := hL0.call hb
      clear hb HW hweq
      go_wp2_with fail
      exact bodyPost_ret (v := .bool true) (by simp [results, Tryz.results10, go_sem]) rfl ⟨rfl, hL0.bl⟩
    · have P4 := fun w => P3' m w (by omega)
      have C3 := fun w => cmp_any (2 ^ m) a w
      have c5 : decide (cmpI (2 ^ m) a ≤ 0) = true := decide_eq_true (by unfold cmpI; split <;> (try split) <;> omega)
      have c6 : (((m : Int) + 1) == 0) = false := beq_eq_false_iff_ne.2 (by omega)
      have hmB : (m : Int) + 1 ≤ 4096 := by have := hnl.out; omega
      generalize 2 ^ m = qm at *
      replace P4 := Lib.hid P4
      replace C3 := Lib.hid C3
      clear P3' fin hle
      obtain ⟨p16, r16⟩ := hL0.get (x2.heap.size) a (by (repeat (first | with_reducible exact List.mem_cons_self | with_reducible refine List.mem_cons_of_mem _ ?_)))
      go_wp2_with fail
      with_reducible refine Calls.mono (O2.out _) ?_
      rintro e x23 ⟨rfl, hb⟩
      replace hL0 := hL0.call hb
      clear hb O2
      go_wp2_with fail
      with_reducible refine Calls.mono (P4.out _) ?_
      rintro e x24 ⟨rfl, hb⟩
      replace hL0 := hL0.call hb
      clear hb P4
      replace hL0 := (hL0.new rfl qm 32)
      generalize hweq : (x24.alloc (.cells #[.int .u64 ((lo qm : Nat) : Int), .string (hs qm)] 32)) = x25 at hL0
      obtain ⟨p17, r17⟩ := hL0.get (x24.heap.size) qm (by (repeat (first | with_reducible exact List.mem_cons_self | with_reducible refine List.mem_cons_of_mem _ ?_)))
      obtain ⟨p18, r18⟩ := hL0.get (x2.heap.size) a (by (repeat (first | with_reducible exact List.mem_cons_self | with_reducible refine List.mem_cons_of_mem _ ?_)))
      go_wp2_with fail
      with_reducible refine Calls.mono (C3.out _) ?_
      rintro e x26 ⟨rfl, hb⟩
      replace hL0 := hL0.call hb
      clear hb C3 hweq
      go_wp2_with fail
      with_reducible refine Calls.mono (HW.out _ (htab.below hL0.bl)) ?_
      rintro e x27 ⟨rfl, hb⟩
      replace hL0 := hL0.call hb
      clear hb HW
      go_wp2_with fail
      exact bodyPost_ret (v := .bool true) (by simp [results, Tryz.results10, go_sem]) rfl ⟨rfl, hL0.bl⟩

theorem texts_any (vx vy : Value) (lx ly : List Nat) (w : World) (htab : Tab w) (hx : Ws w vx lx) (hy : Ws w vy ly) :
    Calls Tryz.prog 10 #[vx, vy] w fun e w' => e = .returned (.bool true) ∧ Below w.heap.size w w' := by
  by_cases h : 20 < lx.length ∨ 20 < ly.length
  · obtain ⟨ax, cx, rfl⟩ := hx.form
    obtain ⟨ay, cy, rfl⟩ := hy.form
    exact texts_big ax ay cx cy _ _ h w htab
  · exact texts_small vx vy lx ly w htab hx hy (by omega) (by omega)
end Go.Proofs.YthehcjfmokabfaaGreatDoor

/-
  Layer 1, law K: NatsKnown: the numbers that it lays, and its loops, from the other laws' answers.
-/
namespace Go.Proofs.YthehcjfmokabfaaGreatDoor
open Go.RowKit

def wv (d : Nat) : Value := .int .u32 (d : Int)
def obW (l : List Nat) : Obj := .cells (l.map wv).toArray 22
def layAll (w : World) : List (List Nat) → World
  | [] => w
  | l :: r => layAll (w.alloc (obW l)) r
def laidV (B : Nat) : List (List Nat) → List Value
  | [] => []
  | l :: r => .slice (some ⟨B, 0, none⟩) l.length l.length :: laidV (B + 1) r
theorem lay_below (ls : List (List Nat)) (w : World) : Below w.heap.size w (layAll w ls) := by
  induction ls generalizing w with
  | nil => exact Below.refl _ _
  | cons l r ih =>
    have h := ih (w.alloc (obW l))
    have h0 := (Below.refl w.heap.size w).alloc (Nat.le_refl _) (obW l)
    exact h0.trans (h.mono h0.size)
theorem obW_ws (w : World) (l : List Nat) (hl : ∀ x ∈ l, x < 4294967296) : Ws (w.alloc (obW l)) (.slice (some ⟨w.heap.size, 0, none⟩) l.length l.length) l := by
  refine .inr ⟨_, _, rfl, hl, fun i hi => ?_, by rw [World.size_alloc]; exact Nat.lt_succ_self _⟩
  have e : (⟨w.heap.size, 0, none⟩ : Addr).add i = ⟨w.heap.size, i, none⟩ := by
    unfold Addr.add; by_cases h : i = 0
    · subst h; simp
    · simp [h]
  rw [e, cell_of_row _ w.heap.size i _ _ _ (heap_alloc_new w (obW l))]
  simp [wv, hi]
theorem lay_ws (ls : List (List Nat)) (w : World) (h : ∀ l ∈ ls, ∀ x ∈ l, x < 4294967296) : ∀ (j : Nat) (l : List Nat) (v : Value), ls[j]? = some l → (laidV w.heap.size ls)[j]? = some v → Ws (layAll w ls) v l := by
  induction ls generalizing w with
  | nil => intro j l v hj; simp at hj
  | cons l0 r ih =>
    intro j l v hj hv
    cases j with
    | zero =>
      simp [laidV] at hj hv
      subst hj hv
      have h0 := obW_ws w l0 (h l0 List.mem_cons_self)
      exact h0.below (lay_below r (w.alloc (obW l0)))
    | succ j =>
      refine ih (w.alloc (obW l0)) (fun l hl => h l (List.mem_cons_of_mem _ hl)) j l v (by simpa using hj) ?_
      rw [World.size_alloc]
      simpa [laidV] using hv
def endsT : List (List Nat) := [[0], [1], [2], [4294967295], [0, 1], [1, 1], [4294967295, 4294967295], [0, 0, 1], [1, 0, 1], [4294967295, 4294967295, 4294967295], [0, 0, 0, 2147483648], [0, 4294967295, 2147483648], [4294967295, 0, 2147483648], [3, 0, 2147483648, 0, 5], [0, 0, 2147483648, 2147483647]]
def endsV (B : Nat) : List Value := .slice none 0 0 :: laidV B endsT
def endsO (B : Nat) : Obj := .cells (endsV B).toArray 23
def endsW (w : World) : World := (layAll w endsT).alloc (endsO w.heap.size)
theorem lay_size (ls : List (List Nat)) (w : World) : (layAll w ls).heap.size = w.heap.size + ls.length := by
  induction ls generalizing w with
  | nil => rfl
  | cons l r ih => rw [layAll, ih, World.size_alloc, List.length_cons]; omega
theorem ends_below (w : World) : Below w.heap.size w (endsW w) := (lay_below endsT w).alloc (lay_below endsT w).size _
/-- What the loops read. -/
structure Ends (w : World) (g : Nat) (vf : Nat → Value) (lf : Nat → List Nat) : Prop where
  cell : ∀ i, i < 16 → w.cell? ⟨g, i, none⟩ = some (vf i)
  ws : ∀ i, i < 16 → Ws w (vf i) (lf i)
  lt : g < w.heap.size
theorem Ends.below {w w' : World} {g : Nat} {vf : Nat → Value} {lf : Nat → List Nat} (h : Ends w g vf lf) (hb : Below w.heap.size w w') : Ends w' g vf lf :=
  ⟨fun i hi => (hb.cell (p := ⟨g, i, none⟩) h.lt).trans (h.cell i hi), fun i hi => (h.ws i hi).below hb, Nat.lt_of_lt_of_le h.lt hb.size⟩
theorem ends_ok (w : World) : ∃ vf lf, Ends (endsW w) (w.heap.size + 15) vf lf := by
  have hg : (layAll w endsT).heap.size = w.heap.size + 15 := by rw [lay_size]; rfl
  have hlen : (endsV w.heap.size).length = 16 := rfl
  refine ⟨fun i => (endsV w.heap.size).getD i (.slice none 0 0), fun i => ([] :: endsT).getD i [], fun i hi => ?_, fun i hi => ?_, ?_⟩
  · have h := heap_alloc_new (layAll w endsT) (endsO w.heap.size)
    rw [hg] at h
    rw [show endsW w = (layAll w endsT).alloc (endsO w.heap.size) from rfl, cell_of_row _ (w.heap.size + 15) i _ _ _ h]
    simp [hlen, hi]
  · cases i with
    | zero => exact .inl ⟨none, 0, rfl, rfl⟩
    | succ j =>
      have hj : j < endsT.length := by show j < 15; omega
      have hj2 : j < (laidV w.heap.size endsT).length := by show j < 15; omega
      have := lay_ws endsT w (by decide) j (endsT[j]) ((laidV w.heap.size endsT)[j]) (List.getElem?_eq_getElem hj) (List.getElem?_eq_getElem hj2)
      have h1 : (endsV w.heap.size).getD (j + 1) (.slice none 0 0) = (laidV w.heap.size endsT)[j] := by simp [endsV, hj2] <;> rfl
      have h2 : ([] :: endsT).getD (j + 1) [] = endsT[j] := by simp [hj] <;> rfl
      show Ws _ ((endsV w.heap.size).getD (j + 1) (.slice none 0 0)) (([] :: endsT).getD (j + 1) [])
      rw [h1, h2]
      exact this.below ((Below.refl _ _).alloc (Nat.le_refl _) _)
  · show w.heap.size + 15 < ((layAll w endsT).alloc (endsO w.heap.size)).heap.size
    rw [World.size_alloc, hg]; exact Nat.lt_succ_self _
theorem cls_ret {α : Type} {F : α → World} {w0 : World} (h1 : ∀ x, Below w0.heap.size w0 (F x)) (h2 : ∀ W, Below w0.heap.size w0 W → ∃ x, W = F x) {P : Program} {f : FuncId} {args : Array Value} {v : Value} {x : α}
    (h : Calls P f args (F x) fun e w' => e = .returned v ∧ Below (F x).heap.size (F x) w') : Calls P f args (F x) fun e w'' => e = .returned v ∧ ∃ y, w'' = F y :=
  h.mono fun _ _ ⟨he, hb⟩ => ⟨he, h2 _ ((h1 x).trans (hb.mono (h1 x).size))⟩
theorem natV0_ne {d : Nat} (h : d ≠ 0) : (((lo d : Nat) : Int) == 0) = false ∨ ((((lo d : Nat) : Int) == 0) = true ∧ ((hs d).toList == []) = false) := by
  have e := natV_ne h
  rwa [show ((lo 0 : Nat) : Int) = 0 by rw [lo_small Bs_pos]; rfl, show (hs 0).toList = [] by rw [hs_small Bs_pos, ByteArray.toList_eq]] at e
/-- Strings, as they grow. -/
def nine : List UInt8 := [57, 56, 55, 54, 53, 52, 51, 50, 49, 48]
theorem nine_fin : ∀ k : Fin 11, (⟨#[57, 56, 55, 54, 53, 52, 51, 50, 49, 48]⟩ : ByteArray).extract k.val 10 = ⟨(nine.drop k.val).toArray⟩ := by decide +kernel
theorem nine_ext (m : Nat) (h : m ≤ 10) : (⟨#[57, 56, 55, 54, 53, 52, 51, 50, 49, 48]⟩ : ByteArray).extract m 10 = st (nine.drop m) := nine_fin ⟨m, by omega⟩
theorem st_join (l r : List UInt8) : st l ++ st r = st (l ++ r) := by
  apply ByteArray.ext
  rw [ByteArray.data_append]
  simp [st]
theorem nine_dig : ∀ c ∈ nine, isDig c := by
  intro c hc
  simp only [nine, List.mem_cons, List.not_mem_nil, or_false] at hc
  unfold isDig
  rcases hc with rfl | rfl | rfl | rfl | rfl | rfl | rfl | rfl | rfl | rfl <;> decide
theorem nine_next {l : List UInt8} {m : Nat} (hl : l.length < 4096) (hm : m = l.length % 7) (hd : ∀ c ∈ l, isDig c) (h57 : l = [] ∨ l.head? = some 57) :
    (l ++ nine.drop m).length ≤ 4105 ∧ (∀ c ∈ l ++ nine.drop m, isDig c) ∧ (l ++ nine.drop m).head? = some 57 ∧ l.length < (l ++ nine.drop m).length := by
  have hn : (nine.drop m).length = 10 - m := by rw [List.length_drop]; rfl
  refine ⟨by rw [List.length_append]; omega, fun c hc => ?_, ?_, by rw [List.length_append]; omega⟩
  · rcases List.mem_append.1 hc with hc | hc
    · exact hd c hc
    · exact nine_dig c (List.mem_of_mem_drop hc)
  · rcases h57 with rfl | h
    · simp at hm; subst hm; rfl
    · cases l with
      | nil => simp at h
      | cons c r => simpa using h
theorem st_take' (r : List UInt8) (k : Nat) : (st r).extract 0 k = st (r.take k) := by
  apply ByteArray.ext
  rw [ByteArray.data_extract]
  show r.toArray.extract 0 k = (r.take k).toArray
  simp
def isStr : Value → Bool
  | .string _ => true
  | _ => false
theorem strs_ok (w : World) (arr : Array Value) (T : TypeId) (h : arr.all isStr = true) (j : Nat) (hj : j < arr.size) : ∃ s, (w.alloc (.cells arr T)).cell? ⟨w.heap.size, j, none⟩ = some (.string s) := by
  rw [cell_of_row _ w.heap.size j _ _ _ (heap_alloc_new w _)]
  have h1 := (Array.all_eq_true.1 h) j hj
  have h2 : arr[j]? = some arr[j] := Array.getElem?_eq_getElem hj
  generalize arr[j] = v at *
  cases v <;> simp [isStr] at h1
  exact ⟨_, h2⟩
theorem long_dec {l : List UInt8} (hl : 4096 ≤ l.length) (hd : ∀ c ∈ l, isDig c) (h57 : l = [] ∨ l.head? = some 57) : isDec (l.take 4096) ∧ (l.take 4096).length ≤ 4096 ∧ dval (l.take 4096) ≠ 0 := by
  have h1 : ∀ c ∈ l.take 4096, isDig c := fun c hc => hd c (List.mem_of_mem_take hc)
  cases l with
  | nil => simp at hl
  | cons c r =>
    have hc : c = 57 := by
      rcases h57 with h | h
      · cases h
      · simpa using h
    subst hc
    have h0 : List.take 4096 (57 :: r) ≠ [] := by simp
    have h2 : (List.take 4096 (57 :: r)).head? ≠ some 48 := by simp
    exact ⟨⟨h1, .inr ⟨h0, h2⟩⟩, by rw [List.length_take]; omega, Nat.ne_of_gt (dval_pos h1 h0 h2)⟩
end Go.Proofs.YthehcjfmokabfaaGreatDoor

/-
  A quicker look whether the order of the text may be walked for every order.
-/
namespace Go.Proofs.YthehcjfmokabfaaGreatDoor

/-- Every operation waits for earlier ones alone, and what comes behind it waits for it or is apart from it. -/
def fastFrom (md : Region.Mode) (ops : Array Oper) : Nat → List Oper → Bool
  | _, [] => true
  | k, o :: l => (o.after.all fun e => !Region.binds md e || decide (e.on < k)) &&
      (l.all fun oj => (oj.after.any fun e => Region.binds md e && e.on == k) || o.apart ops oj) && fastFrom md ops (k + 1) l
def fastB (md : Region.Mode) (l : List Oper) : Bool := Region.noSelect l.toArray && fastFrom md l.toArray 0 l

def preL (s n : Nat) : Array Bool := ((List.range s).map fun i => decide (i < n)).toArray
theorem preL_get (s n i : Nat) (d : Bool) : (preL s n).getD i d = if i < s then decide (i < n) else d := by
  unfold preL
  by_cases h : i < s
  · simp [h]
  · simp [h]
theorem preL_set (s n : Nat) : (preL s n).setIfInBounds n true = preL s (n + 1) := by
  apply Array.ext
  · simp [preL]
  · intro i h1 h2
    simp only [preL, List.setIfInBounds_toArray, List.getElem_toArray]
    by_cases e : n = i
    · subst e; simp
    · rw [List.getElem_set_ne e]
      simp only [List.getElem_map, List.getElem_range]
      by_cases h : i < n
      · rw [decide_eq_true h, decide_eq_true (by omega)]
      · rw [decide_eq_false h, decide_eq_false (by omega)]
theorem preL_zero (s : Nat) : preL s 0 = Array.replicate s false := by
  apply Array.ext
  · simp [preL]
  · intro i h1 h2; simp [preL]
theorem lexFrom_of_fast {md : Region.Mode} {ops : Array Oper} : ∀ (l : List Oper) (k : Nat), (∀ j, l[j]? = ops[k + j]?) → k + l.length = ops.size → fastFrom md ops k l = true → Region.lexFrom md ops l.length k (preL ops.size k) = true
  | [], k, hl, hs, _ => by
    have : Region.ready md ops (preL ops.size k) = [] := by
      apply List.eq_nil_iff_forall_not_mem.2
      intro j hj
      obtain ⟨h1, o, ho, -⟩ := mem_ready.1 hj
      have hj' : j < ops.size := (Array.getElem?_eq_some_iff.1 ho).1
      rw [preL_get, if_pos hj', decide_eq_true (by simp at hs; omega)] at h1
      cases h1
    simp [Region.lexFrom, this]
  | o :: l, k, hl, hs, h => by
    have h0 : ops[k]? = some o := by simpa using (hl 0).symm
    have hk : k < ops.size := (Array.getElem?_eq_some_iff.1 h0).1
    simp only [fastFrom, Bool.and_eq_true] at h
    obtain ⟨⟨hw, hf⟩, hr⟩ := h
    simp only [List.length_cons, Region.lexFrom, Bool.and_eq_true]
    refine ⟨⟨List.contains_iff_mem.2 (mem_ready.2 ⟨by rw [preL_get, if_pos hk, decide_eq_false (by omega)], o, h0, fun e he hb => ?_⟩), ?_⟩, ?_⟩
    · have h1 := (Array.all_eq_true_iff_forall_mem.1 hw) e he
      simp only [hb, Bool.not_true, Bool.false_or, decide_eq_true_eq] at h1
      rw [preL_get, if_pos (by omega), decide_eq_true h1]
    · simp only [Region.free, h0, List.all_eq_true, List.mem_range]
      intro j hj
      by_cases e : j = k
      · simp [e]
      · by_cases hjk : j < k
        · rw [preL_get, if_pos hj, decide_eq_true hjk]; simp
        · have h2 : l[j - k - 1]? = ops[j]? := by
            have := hl (j - k)
            rw [show k + (j - k) = j by omega] at this
            rw [← this, show j - k = (j - k - 1) + 1 by omega, List.getElem?_cons_succ]
            rfl
          rw [Array.getElem?_eq_getElem hj] at h2
          have h3 := (List.all_eq_true.1 hf) ops[j] (List.mem_of_getElem? h2)
          rw [Array.getElem?_eq_getElem hj]
          simp only [Bool.or_eq_true] at h3 ⊢
          exact .inr h3
    · rw [preL_set]
      exact lexFrom_of_fast l (k + 1) (fun j => by have := hl (j + 1); simpa [Nat.add_assoc, Nat.add_comm 1 j] using this) (by simp at hs; omega) hr
theorem lexB_of_fast {md : Region.Mode} {l : List Oper} (h : fastB md l = true) : Region.lexB md l.toArray = true := by
  simp only [fastB, Bool.and_eq_true] at h
  simp only [Region.lexB, Bool.and_eq_true]
  refine ⟨h.1, ?_⟩
  have := lexFrom_of_fast (md := md) (ops := l.toArray) l 0 (fun j => by simp) (by simp) h.2
  rw [preL_zero] at this
  simpa using this
end Go.Proofs.YthehcjfmokabfaaGreatDoor

/-
  Regions that draw their order, whose first operations only read and call (their callees may make memory), and whose last ones (stores into boxes that were there) stand behind all of those, in one order: ONE walk serves every order.
-/
namespace Go.Proofs.YthehcjfmokabfaaGreatDoor
open Go.RowKit

section
variable {P : Program} {ops : Array Oper} {md : Region.Mode} {C : World → Prop}

def doneN (n : Nat) (listed : Array Bool) : Bool := (List.range n).all fun i => listed.getD i false
theorem doneN_iff {n : Nat} {listed : Array Bool} : doneN n listed = true ↔ ∀ i, i < n → listed.getD i false = true := by
  simp only [doneN, List.all_eq_true, List.mem_range]
theorem unl {listed : Array Bool} {i : Nat} (h : listed.getD i true = false) : listed.getD i false = false := by
  rcases Nat.lt_or_ge i listed.size with h' | h'
  · simpa [h'] using h
  · simp [Array.getElem?_eq_none h'] at h
/-- What has come up has what it waits for behind it. -/
def closedL (md : Region.Mode) (ops : Array Oper) (listed : Array Bool) : Prop := ∀ j o, ops[j]? = some o → listed.getD j false = true → ∀ e ∈ o.after, Region.binds md e = true → listed.getD e.on false = true
theorem closedL.set {listed : Array Bool} {j : Nat} (h : closedL md ops listed) (hj : j ∈ Region.ready md ops listed) : closedL md ops (listed.setIfInBounds j true) := by
  intro k o hk hl e he hb
  by_cases hkj : j = k
  · subst hkj
    obtain ⟨-, o', ho', hall⟩ := mem_ready.1 hj
    rw [hk] at ho'
    obtain rfl := Option.some.inj ho'
    exact getD_set_true (hall e he hb)
  · rw [getD_set_ne false hkj] at hl
    exact getD_set_true (h k o hk hl e he hb)
/-- What an operation waits for. -/
def predsOf (md : Region.Mode) (ops : Array Oper) (i : Nat) : List Nat := match ops[i]? with
  | none => []
  | some o => (o.after.toList.filter fun e => Region.binds md e).map fun e => e.on
def ancOf (md : Region.Mode) (ops : Array Oper) (j : Nat) : List Nat := (List.range ops.size).reverse.foldl (fun S i => if S.contains i then S ++ predsOf md ops i else S) (predsOf md ops j)
theorem preds_listed {listed : Array Bool} (h : closedL md ops listed) {i : Nat} (hi : listed.getD i false = true) : ∀ x ∈ predsOf md ops i, listed.getD x false = true := by
  intro x hx
  unfold predsOf at hx
  cases ho : ops[i]? with
  | none => simp [ho] at hx
  | some o =>
    simp only [ho, List.mem_map, List.mem_filter] at hx
    obtain ⟨e, ⟨he, hb⟩, rfl⟩ := hx
    exact h i o ho hi e (by simpa using he) hb
theorem fold_listed {listed : Array Bool} (h : closedL md ops listed) : ∀ (r S : List Nat), (∀ x ∈ S, listed.getD x false = true) →
    ∀ x ∈ r.foldl (fun S i => if S.contains i then S ++ predsOf md ops i else S) S, listed.getD x false = true
  | [], S, hS => hS
  | i :: r, S, hS => by
    rw [List.foldl_cons]
    refine fold_listed h r _ ?_
    by_cases hc : S.contains i = true
    · rw [if_pos hc]
      intro x hx
      rcases List.mem_append.1 hx with hx | hx
      · exact hS x hx
      · exact preds_listed h (hS i (by simpa using hc)) x hx
    · rw [if_neg hc]; exact hS
/-- The last operations wait for the first n. -/
def barB (md : Region.Mode) (ops : Array Oper) (n : Nat) : Bool := (List.range ops.size).all fun j => decide (j < n) || (List.range n).all fun i => (ancOf md ops j).contains i
theorem bar {n : Nat} {listed : Array Bool} {j : Nat} (hB : barB md ops n = true) (h : closedL md ops listed) (hj : j ∈ Region.ready md ops listed) (hd : doneN n listed = false) : j < n := by
  rcases Nat.lt_or_ge j n with hn | hn
  · exact hn
  · exfalso
    obtain ⟨-, o, ho, hall⟩ := mem_ready.1 hj
    have hjs : j < ops.size := (Array.getElem?_eq_some_iff.1 ho).1
    simp only [barB, List.all_eq_true, List.mem_range, Bool.or_eq_true, decide_eq_true_eq] at hB
    rcases hB j hjs with h1 | h1
    · omega
    · have hp : ∀ x ∈ predsOf md ops j, listed.getD x false = true := by
        intro x hx
        unfold predsOf at hx
        simp only [ho, List.mem_map, List.mem_filter] at hx
        obtain ⟨e, ⟨he, hb⟩, rfl⟩ := hx
        exact hall e (by simpa using he) hb
      have h2 : doneN n listed = true := doneN_iff.2 fun i hi => fold_listed h _ _ hp i (List.contains_iff_mem.1 (h1 i hi))
      rw [h2] at hd; cases hd

/-- Whatever order is picked from here on, till the first n have come up. -/
def wpAnyB (P : Program) (md : Region.Mode) (ops : Array Oper) (C : World → Prop) (n : Nat) (Q : Act → Prop) : Nat → Array Bool → Act → Prop
  | 0, listed, a => doneN n listed = true ∧ Q a
  | fuel + 1, listed, a => doneN n listed = false ∧ Region.ready md ops listed ≠ [] ∧ ∀ i ∈ Region.ready md ops listed, qOp P ops C i (wpAnyB P md ops C n Q fuel (listed.setIfInBounds i true)) a

theorem wpAnyB_first {n : Nat} {Q : Act → Prop} {i : Nat} {oi : Oper} {v : Value} (hi : ops[i]? = some oi) (hin : i < n) (hB : barB md ops n = true) (hsel : ∀ (j : Nat) (o : Oper) cs b, ops[j]? = some o → o.op ≠ .select cs b) :
    ∀ (fuel : Nat) (listed : Array Bool) (a : Act), closedL md ops listed →
      (∀ j oj, ops[j]? = some oj → j ≠ i → listed.getD j true = false → (∀ e ∈ oj.after, Region.binds md e = true → e.on ≠ i) → oi.apart ops oj = true) →
      i ∈ Region.ready md ops listed → YieldsIn P ops C oi v a →
      wpAnyB P md ops C n Q fuel (listed.setIfInBounds i true) (a.put oi.dst v) → wpAnyB P md ops C n Q (fuel + 1) listed a := by
  intro fuel
  induction fuel with
  | zero =>
    intro listed a hc _ hr hy H
    have hiu := (mem_ready.1 hr).1
    have hnd : doneN n listed = false := Bool.eq_false_iff.2 fun h => by have := doneN_iff.1 h i hin; rw [unl hiu] at this; cases this
    refine ⟨hnd, List.ne_nil_of_mem hr, fun j hj => ?_⟩
    by_cases hji : j = i
    · subst hji; exact hy.qOp hi H
    · have hjn := bar hB hc hj hnd
      have h1 := doneN_iff.1 H.1 j hjn
      rw [getD_set_ne false (fun e => hji e.symm), unl (mem_ready.1 hj).1] at h1
      cases h1
  | succ fuel ih =>
    intro listed a hc hfree hr hy H
    have hiu := (mem_ready.1 hr).1
    have hnd : doneN n listed = false := Bool.eq_false_iff.2 fun h => by have := doneN_iff.1 h i hin; rw [unl hiu] at this; cases this
    refine ⟨hnd, List.ne_nil_of_mem hr, fun j hj => ?_⟩
    by_cases hji : j = i
    · subst hji; exact hy.qOp hi H
    · have h1 := H.2.2 j (ready_mono hj hji)
      obtain ⟨hjun, oj, hoj, hall⟩ := mem_ready.1 hj
      have hnot : ∀ e ∈ oj.after, Region.binds md e = true → e.on ≠ i := fun e he hb heq => by
        have h1 := hall e he hb
        rw [heq, unl hiu] at h1
        cases h1
      have h2 := qOp_put hoj (hfree j oj hoj hji hjun hnot) (fun cs b => hsel i oi cs b hi) (fun cs b => hsel j oj cs b hoj) hy h1
      have hfree' : ∀ k ok, ops[k]? = some ok → k ≠ i → (listed.setIfInBounds j true).getD k true = false →
          (∀ e ∈ ok.after, Region.binds md e = true → e.on ≠ i) → oi.apart ops ok = true := fun k ok hk hki hun hno => by
        refine hfree k ok hk hki ?_ hno
        by_cases hjk : j = k
        · subst hjk; exact hjun
        · rw [getD_set_ne true hjk] at hun; exact hun
      refine qOp_mono (fun a' h3 => ih (listed.setIfInBounds j true) a' (hc.set hj) hfree' (ready_mono hr (Ne.symm hji)) h3.1 ?_) h2
      rw [Array.setIfInBounds_comm _ _ hji]
      exact h3.2

def lexTo (md : Region.Mode) (ops : Array Oper) (n : Nat) : Nat → Nat → Array Bool → Bool
  | 0, _, listed => doneN n listed
  | fuel + 1, k, listed => (Region.ready md ops listed).contains k && Region.free md ops listed k && decide (k < n) && lexTo md ops n fuel (k + 1) (listed.setIfInBounds k true)

theorem wpAnyB_lex {n : Nat} {Q : Act → Prop} (hs : Region.noSelect ops = true) (hB : barB md ops n = true) : ∀ (l : List Oper) (k : Nat) (listed : Array Bool) (a : Act), (∀ j, j < l.length → l[j]? = ops[k + j]?) → closedL md ops listed →
    lexTo md ops n l.length k listed = true → wpQuiet P ops C Q l a → wpAnyB P md ops C n Q l.length listed a
  | [], _, _, _, _, _, hL, h => ⟨hL, h⟩
  | o :: l, k, listed, a, hl, hc, hL, h => by
    have h0 : ops[k]? = some o := by simpa using (hl 0 (by simp)).symm
    simp only [List.length_cons, lexTo, Bool.and_eq_true, decide_eq_true_eq] at hL
    obtain ⟨⟨⟨hr, hf⟩, hk⟩, hL'⟩ := hL
    have hr' : k ∈ Region.ready md ops listed := by simpa using hr
    have hq : qOp P ops C k (wpQuiet P ops C Q l) a := by unfold qOp; simp only [h0]; exact h
    obtain ⟨v, hy, hK⟩ := yieldsIn_of_qOp h0 hq
    exact wpAnyB_first h0 hk hB (Region.noSelect_spec hs) l.length listed a hc (Region.free_spec h0 hf) hr' hy
      (wpAnyB_lex hs hB l (k + 1) _ _ (fun j hj => by have := hl (j + 1) (by rw [List.length_cons]; omega); simpa [Nat.add_assoc, Nat.add_comm 1 j] using this) (hc.set hr') hL' hK)

/-- The first n have come up, and no other. -/
def canonL (s n : Nat) : Array Bool := ((List.range s).map fun i => decide (i < n)).toArray
def sufL (n : Nat) (ops : Array Oper) (listed : Array Bool) : Prop := listed.size = ops.size ∧ ∀ j, n ≤ j → j < ops.size → listed.getD j true = false
theorem canon_of {n : Nat} {listed : Array Bool} (h : sufL n ops listed) (hd : doneN n listed = true) : listed = canonL ops.size n := by
  apply Array.ext
  · simp [canonL, h.1]
  · intro i h1 h2
    have hs : i < ops.size := h.1 ▸ h1
    simp only [canonL, List.getElem_toArray, List.getElem_map, List.getElem_range]
    by_cases hi : i < n
    · have := doneN_iff.1 hd i hi
      simpa [h1, hi] using this
    · have := h.2 i (by omega) hs
      simpa [h1, hi] using this

theorem wpAny_of_B {n m : Nat} {Q : Act → Prop} {Q' : Exit → Act → World → Prop} (hB : barB md ops n = true) (hQ : ∀ a w, C w → Q a → wpAny P md ops Q' m (canonL ops.size n) a w) :
    ∀ (fuel : Nat) (listed : Array Bool) (a : Act) (w : World), C w → closedL md ops listed → sufL n ops listed → wpAnyB P md ops C n Q fuel listed a → wpAny P md ops Q' (m + fuel) listed a w
  | 0, listed, a, w, hw, hc, hu, h => by rw [canon_of hu h.1]; exact hQ a w hw h.2
  | fuel + 1, listed, a, w, hw, hc, hu, h => ⟨fun h0 => absurd h0 h.2.1, fun i hi => by
      have hin := bar hB hc hi h.1
      refine wpOp_of_qOp hw (fun a' w' hw' hh => wpAny_of_B hB hQ fuel _ a' w' hw' (hc.set hi) ⟨by simpa using hu.1, fun j hj hjs => ?_⟩ hh) (h.2.2 i hi)
      rw [getD_set_ne true (by omega)]; exact hu.2 j hj hjs⟩

theorem wpQuiet_mono {Q Q' : Act → Prop} (h : ∀ a, Q a → Q' a) : ∀ (l : List Oper) (a : Act), wpQuiet P ops C Q l a → wpQuiet P ops C Q' l a
  | [], a, hh => h a hh
  | o :: l, a, hh => by
    simp only [wpQuiet] at hh ⊢
    split
    · rename_i hw
      simp only [hw, if_true] at hh
      exact Oper.quiet_mono (fun a' => wpQuiet_mono h l a') hh
    · rename_i hw
      simp only [hw] at hh
      exact wpQuiet_mono h l _ hh

/-- One order only. -/
def seqB (md : Region.Mode) (ops : Array Oper) : Nat → Nat → Array Bool → Bool
  | 0, _, listed => (Region.ready md ops listed).isEmpty
  | fuel + 1, k, listed => Region.ready md ops listed == [k] && seqB md ops fuel (k + 1) (listed.setIfInBounds k true)
theorem wpAny_of_seq {Q' : Exit → Act → World → Prop} : ∀ (l : List Oper) (k : Nat) (listed : Array Bool) (a : Act) (w : World), (∀ j, j < l.length → l[j]? = ops[k + j]?) → seqB md ops l.length k listed = true →
    wpList P ops Q' l a w → wpAny P md ops Q' l.length listed a w
  | [], _, _, _, _, _, hS, h => ⟨by simpa [seqB] using hS, h⟩
  | o :: l, k, listed, a, w, hl, hS, h => by
    have h0 : ops[k]? = some o := by simpa using (hl 0 (by simp)).symm
    simp only [List.length_cons, seqB, Bool.and_eq_true, beq_iff_eq] at hS
    obtain ⟨hr, hS'⟩ := hS
    have ih := fun a w => wpAny_of_seq (Q' := Q') l (k + 1) (listed.setIfInBounds k true) a w (fun j hj => by have := hl (j + 1) (by rw [List.length_cons]; omega); simpa [Nat.add_assoc, Nat.add_comm 1 j] using this) hS'
    rw [List.length_cons]
    unfold wpAny
    refine ⟨fun h1 => absurd h1 (by rw [hr]; simp), fun i hi => ?_⟩
    rw [hr] at hi
    obtain rfl := List.mem_singleton.1 hi
    unfold wpOp
    simp only [h0]
    simp only [wpList] at h
    split
    · rename_i hw
      simp only [hw, if_true] at h
      rcases h with h | h
      · exact .inl (Oper.wp_mono ih h)
      · exact .inr h
    · rename_i hw
      simp only [hw] at h
      exact ih _ _ h

def qaB (n : Nat) (l : List Oper) : Bool :=
  Region.noSelect l.toArray && decide (n ≤ l.length) && barB .any l.toArray n && lexTo .any l.toArray n n 0 (Array.replicate l.length false)
/-- **First what only reads and calls, in any order; then the others, in any order of theirs.** -/
theorem region_qa (n : Nat) {id : Nat} {Q : Exit → Act → World → Prop} {a : Act} {w : World} {l : List Oper} (hm : P.follows .mixedOrders = true) (hB : qaB n l = true) (hC : C w.drew)
    (h : wpQuiet P l.toArray C (fun a' => ∀ w', C w' → wpAny P .any l.toArray Q (l.length - n) (canonL l.length n) a' w') (l.take n) a) : (Code.region id l.toArray true).wp P Q a w := by
  simp only [qaB, Bool.and_eq_true, decide_eq_true_eq] at hB
  obtain ⟨⟨⟨hs, hn⟩, hb⟩, hl⟩ := hB
  refine wp_region_any hm ?_
  have hlen : (l.take n).length = n := by rw [List.length_take]; omega
  have h0 : closedL .any l.toArray (Array.replicate l.length false) := fun j o _ hl => by
    rcases Nat.lt_or_ge j l.length with h' | h' <;> simp [h'] at hl
  have h1 := wpAnyB_lex (md := .any) (n := n) hs hb (l.take n) 0 (Array.replicate l.length false) a (fun j hj => by rw [hlen] at hj; simp [List.getElem?_take, hj]) h0 (by rw [hlen]; exact hl) h
  rw [hlen] at h1
  have h2 := wpAny_of_B (m := l.length - n) (Q' := Q) hb (fun a' w' hw' hh => by simpa using hh w' hw') n (Array.replicate l.length false) a w.drew hC h0 ⟨by simp, fun j _ hj => by simp at hj; simp [hj]⟩ h1
  rw [Nat.sub_add_cancel hn] at h2
  simpa using h2

def qsB (n : Nat) (l : List Oper) : Bool := qaB n l && seqB .any l.toArray (l.length - n) n (canonL l.length n)

/-- **First what only reads and calls, in any order; then the stores.** -/
theorem region_qs (n : Nat) {id : Nat} {Q : Exit → Act → World → Prop} {a : Act} {w : World} {l : List Oper} (hm : P.follows .mixedOrders = true) (hB : qsB n l = true) (hC : C w.drew)
    (h : wpQuiet P l.toArray C (fun a' => ∀ w', C w' → wpList P l.toArray Q (l.drop n) a' w') (l.take n) a) : (Code.region id l.toArray true).wp P Q a w := by
  simp only [qsB, Bool.and_eq_true] at hB
  refine region_qa n hm hB.1 hC ?_
  refine wpQuiet_mono (fun a' hh w' hw' => ?_) _ _ h
  have h3 := wpAny_of_seq (md := .any) (P := P) (Q' := Q) (l.drop n) n (canonL l.length n) a' w' (fun j hj => by simp [List.getElem?_drop]) (by rw [List.length_drop]; exact hB.2) (hh w' hw')
  rw [List.length_drop] at h3
  exact h3
/-- One pure operation ahead. -/
theorem any_pure {i m : Nat} {listed : Array Bool} {l : List Oper} {Q : Exit → Act → World → Prop} {a : Act} {w : World} (oi : Oper) (v : Value) (hi : l.toArray[i]? = some oi) (hg : oi.guard = none)
    (hB : (Region.noSelect l.toArray && Region.free .any l.toArray listed i && (Region.ready .any l.toArray listed).contains i) = true)
    (hQ : ∀ c a w, Q (.panic c) (a.put oi.dst v) w → Q (.panic c) a w) (hy : ∀ w, (execOp a.eval oi).run P w = .ok (.value v) w)
    (h : wpAny P .any l.toArray Q m (listed.setIfInBounds i true) (a.put oi.dst v) w) : wpAny P .any l.toArray Q (m + 1) listed a w := by
  simp only [Bool.and_eq_true] at hB
  exact wpAny_take hi hB.1.1 hB.1.2 hB.2 hQ (.inl ⟨by unfold Region.wanted; rw [hg], hy⟩) h
theorem any_seq (k : Nat) {m : Nat} {listed : Array Bool} {l : List Oper} {Q : Exit → Act → World → Prop} {a : Act} {w : World} (hm : (l.drop k).length = m) (hB : seqB .any l.toArray m k listed = true)
    (h : wpList P l.toArray Q (l.drop k) a w) : wpAny P .any l.toArray Q m listed a w := by
  subst hm
  exact wpAny_of_seq (md := .any) (P := P) (Q' := Q) (l.drop k) k listed a w (fun j hj => by simp [List.getElem?_drop]) hB h
end
end Go.Proofs.YthehcjfmokabfaaGreatDoor

/-
  Boxes of any cells: what a call has made, with what they hold (layers 2 and on).
-/
namespace Go.Proofs.YthehcjfmokabfaaGreatDoor
open Go.RowKit

/-- Cells stored one behind the other. -/
def setAll (W : World) (k : Nat) : Nat → List Value → World
  | _, [] => W
  | i, v :: vs => setAll (W.setCell ⟨k, i, none⟩ v) k (i + 1) vs
theorem setAll_upd (k : Nat) : ∀ (c : List Value) (i : Nat) (W : World), Upd k W (setAll W k i c)
  | [], _, W => Upd.refl k W
  | v :: vs, i, W => by
    have h1 := (Upd.refl k W).setCell i v
    have h2 := setAll_upd k vs (i + 1) (W.setCell ⟨k, i, none⟩ v)
    exact ⟨h2.os.trans h1.os, h2.tape.trans h1.tape, h2.output.trans h1.output, h2.size.trans h1.size, fun j hj => (h2.block j hj).trans (h1.block j hj)⟩
theorem hd_set {W : World} {k : Nat} {c : List Value} (h : Hd W k c) (i : Nat) (v : Value) (hi : i < c.length) : Hd (W.setCell ⟨k, i, none⟩ v) k (c.set i v) := by
  refine ⟨fun j hj => ?_, fun j => by simp [go_sem, h.frz j], by simp [World.setCell]; exact h.lt⟩
  rw [List.length_set] at hj
  by_cases e : i = j
  · subst e
    rw [World.cell?_setCell_same _ _ _ (h.cell i hi)]
    simp
  · rw [World.cell?_setCell_other _ _ _ _ (by intro h; simp only [Addr.mk.injEq] at h; omega), h.cell j hj]
    simp [e]
theorem setAll_hd : ∀ (c : List Value) (i : Nat) (W : World) (k : Nat) (p s : List Value), p.length = i → s.length = c.length → Hd W k (p ++ s) → Hd (setAll W k i c) k (p ++ c)
  | [], i, W, k, p, s, hp, hs, h => by
    rw [List.length_nil, List.length_eq_zero_iff] at hs
    subst hs; exact h
  | v :: vs, i, W, k, p, s, hp, hs, h => by
    cases s with
    | nil => simp at hs
    | cons s0 s =>
      have h1 := hd_set h i v (by rw [List.length_append, List.length_cons]; omega)
      rw [show (p ++ s0 :: s).set i v = (p ++ [v]) ++ s by subst hp; simp] at h1
      have h2 := setAll_hd vs (i + 1) (W.setCell ⟨k, i, none⟩ v) k (p ++ [v]) s (by simp [hp]) (by simpa using hs) h1
      rw [List.append_assoc] at h2
      exact h2

/-- The boxes that a call has made, with what they hold. -/
structure GL (w0 W : World) (L : List (Nat × List Value)) : Prop where
  bl : Below w0.heap.size w0 W
  all : ∀ p ∈ L, w0.heap.size ≤ p.1 ∧ Hd W p.1 p.2
  nd : (L.map (·.1)).Nodup

theorem GL.start (w : World) : GL w w [] := ⟨Below.refl _ _, (fun p hp => by cases hp), List.nodup_nil⟩
theorem GL.call {w0 W W' : World} {L : List (Nat × List Value)} (h : GL w0 W L) (hb : Below W.heap.size W W') : GL w0 W' L :=
  ⟨h.bl.trans (hb.mono h.bl.size), fun p hp => ⟨(h.all p hp).1, (h.all p hp).2.below hb⟩, h.nd⟩
theorem GL.drew {w0 W : World} {L : List (Nat × List Value)} (h : GL w0 W L) : GL w0 W.drew L :=
  ⟨h.bl.drew, fun p hp => ⟨(h.all p hp).1, (h.all p hp).2.cell, (h.all p hp).2.frz, (h.all p hp).2.lt⟩, h.nd⟩
theorem hd_new (W : World) (c : List Value) (t : TypeId) : Hd (W.alloc (.cells c.toArray t)) W.heap.size c := by
  have hrow := heap_alloc_new W (.cells c.toArray t)
  exact ⟨fun i hi => by rw [cell_of_row _ _ i _ _ _ hrow]; simp [hi], fun j => frozen_of_row _ _ j _ _ hrow, by rw [World.size_alloc]; omega⟩
theorem GL.new {w0 W : World} {L : List (Nat × List Value)} {K : Nat} (h : GL w0 W L) (hK : W.heap.size = K) (c : List Value) (t : TypeId) : GL w0 (W.alloc (.cells c.toArray t)) ((K, c) :: L) := by
  subst hK
  have hb : Below W.heap.size W (W.alloc (.cells c.toArray t)) := (Below.refl _ _).alloc (Nat.le_refl _) _
  refine ⟨h.bl.trans (hb.mono h.bl.size), fun p hp => ?_, ?_⟩
  · rcases List.mem_cons.1 hp with rfl | hp
    · exact ⟨h.bl.size, hd_new W c t⟩
    · exact ⟨(h.all p hp).1, (h.all p hp).2.below hb⟩
  · rw [List.map_cons, List.nodup_cons]
    refine ⟨fun hm => ?_, h.nd⟩
    obtain ⟨p, hp, he⟩ := List.mem_map.1 hm
    have := (h.all p hp).2.lt
    simp only at he
    omega
theorem GL.put {w0 W : World} {L : List (Nat × List Value)} (h : GL w0 W L) (i k : Nat) (c0 : List Value) (hi : L[i]? = some (k, c0)) (c : List Value) (hc : c.length = c0.length) :
    GL w0 (setAll W k 0 c) (L.set i (k, c)) := by
  have hu := setAll_upd k c 0 W
  obtain ⟨hil, he⟩ := List.getElem?_eq_some_iff.1 hi
  have hm : (k, c0) ∈ L := he ▸ List.getElem_mem hil
  have hk := h.all _ hm
  have hd := setAll_hd c 0 W k [] c0 rfl hc.symm hk.2
  have hmap : (L.set i (k, c)).map (·.1) = L.map (·.1) := by
    rw [List.map_set]
    apply List.ext_getElem?
    intro j
    by_cases e : i = j
    · subst e
      rw [List.getElem?_set_self (by simpa using hil), List.getElem?_map, hi]; rfl
    · rw [List.getElem?_set_ne e]
  refine ⟨h.bl.trans (hu.below hk.1), fun p hp => ?_, by rw [hmap]; exact h.nd⟩
  obtain ⟨j, hj, hpj⟩ := List.getElem_of_mem hp
  by_cases e : i = j
  · subst e
    rw [List.getElem_set_self] at hpj
    subst hpj
    exact ⟨hk.1, hd⟩
  · rw [List.getElem_set_ne e] at hpj
    rw [List.length_set] at hj
    have hp' : p ∈ L := hpj ▸ List.getElem_mem hj
    have hne : p.1 ≠ k := fun e2 => by
      have h1 : (L.map (·.1))[i]? = some k := by rw [List.getElem?_map, hi]; rfl
      have h2 : (L.map (·.1))[j]? = some k := by rw [List.getElem?_map, List.getElem?_eq_getElem hj, hpj]; simp [e2]
      exact e ((List.getElem?_inj (by simpa using hil) h.nd).1 (h1.trans h2.symm))
    exact ⟨(h.all p hp').1, hu.hd hne (h.all p hp').2⟩
theorem GL.get {w0 W : World} {L : List (Nat × List Value)} (h : GL w0 W L) (k : Nat) (c : List Value) (hm : (k, c) ∈ L) : Hd W k c := (h.all _ hm).2
theorem GL.weak {w0 W : World} {L L' : List (Nat × List Value)} (h : GL w0 W L) (hs : L'.Sublist L) : GL w0 W L' :=
  ⟨h.bl, fun p hp => h.all p (hs.subset hp), h.nd.sublist (hs.map _)⟩

/-- What cells hold, one fact each. -/
def cellsF (W : World) (k : Nat) : Nat → List Value → Prop
  | _, [] => True
  | i, v :: vs => W.cell? ⟨k, i, none⟩ = some v ∧ cellsF W k (i + 1) vs
theorem cells_of {W : World} {k : Nat} : ∀ (c : List Value) (i : Nat) (p : List Value), p.length = i → Hd W k (p ++ c) → cellsF W k i c
  | [], _, _, _, _ => trivial
  | v :: vs, i, p, hp, h => ⟨by have := h.cell i (by rw [List.length_append, List.length_cons]; omega); rw [this]; subst hp; simp,
      cells_of vs (i + 1) (p ++ [v]) (by simp [hp]) (by rw [List.append_assoc]; exact h)⟩
def neK (k : Nat) : List (Nat × List Value) → Prop
  | [] => True
  | p :: L => k ≠ p.1 ∧ p.1 ≠ k ∧ neK k L
theorem neK_of {k : Nat} : ∀ {L : List (Nat × List Value)}, k ∉ L.map (·.1) → neK k L
  | [], _ => trivial
  | p :: L, h => by
    simp only [List.map_cons, List.mem_cons, not_or] at h
    exact ⟨h.1, fun e => h.1 e.symm, neK_of h.2⟩
def fcG (W : World) : List (Nat × List Value) → Prop
  | [] => True
  | p :: L => cellsF W p.1 0 p.2 ∧ (∀ j, W.frozen? ⟨p.1, j, none⟩ = false) ∧ neK p.1 L ∧ fcG W L
theorem GL.fc {w0 W : World} : ∀ {L : List (Nat × List Value)}, GL w0 W L → fcG W L
  | [], _ => trivial
  | p :: L, h => ⟨cells_of p.2 0 [] rfl (h.all p List.mem_cons_self).2, (h.all p List.mem_cons_self).2.frz, neK_of (List.nodup_cons.1 h.nd).1,
      GL.fc (L := L) ⟨h.bl, fun q hq => h.all q (List.mem_cons_of_mem _ hq), (List.nodup_cons.1 h.nd).2⟩⟩

/-! In a class of worlds that keep what z holds. -/
def cellsC {α : Type} (F : α → World) (k : Nat) : Nat → List Value → Prop
  | _, [] => True
  | i, v :: vs => (∀ x, (F x).cell? ⟨k, i, none⟩ = some v) ∧ cellsC F k (i + 1) vs
theorem cellsC_of {α : Type} {F : α → World} {k : Nat} : ∀ (c : List Value) (i : Nat), (∀ x, cellsF (F x) k i c) → cellsC F k i c
  | [], _, _ => trivial
  | v :: vs, i, h => ⟨fun x => (h x).1, cellsC_of vs (i + 1) fun x => (h x).2⟩
def fcC {α : Type} (F : α → World) : List (Nat × List Value) → Prop
  | [] => True
  | p :: L => cellsC F p.1 0 p.2 ∧ fcC F L
theorem GL.fcC {α : Type} {F : α → World} {z : World} (h1 : ∀ x, Below z.heap.size z (F x)) {w : World} : ∀ {L : List (Nat × List Value)}, GL w z L → fcC F L
  | [], _ => trivial
  | p :: L, h => ⟨cellsC_of p.2 0 fun x => cells_of p.2 0 [] rfl ((h.all p List.mem_cons_self).2.below (h1 x)), GL.fcC h1 (L := L) ⟨h.bl, fun q hq => h.all q (List.mem_cons_of_mem _ hq), (List.nodup_cons.1 h.nd).2⟩⟩

/-- The boxes that a region has made. -/
theorem GL.ghs {w x W : World} {L : List (Nat × List Value)} {g : Gh} {κ : Nat → Nat} (h : GL w x L) (hS : Sim x.drew g κ W) : ∀ (ds : List (Nat × List Value)), (ds.map (·.1)).Nodup → (∀ p ∈ ds, ∃ b, g p.1 = some (p.2, b)) →
    GL w W (ds.map (fun p => (κ p.1, p.2)) ++ L)
  | [], _, _ => h.call (below_drew hS.base)
  | p :: ds, hn, hg => by
    rw [List.map_cons, List.nodup_cons] at hn
    have ih := GL.ghs h hS ds hn.2 fun q hq => hg q (List.mem_cons_of_mem _ hq)
    obtain ⟨b, hb⟩ := hg p List.mem_cons_self
    obtain ⟨h1, h2⟩ := hS.hd _ _ _ hb
    refine ⟨ih.bl, fun q hq => ?_, ?_⟩
    · rw [List.map_cons, List.cons_append] at hq
      rcases List.mem_cons.1 hq with rfl | hq
      · exact ⟨Nat.le_trans h.bl.size h1, h2⟩
      · exact ih.all q hq
    · rw [List.map_cons, List.cons_append, List.map_cons, List.nodup_cons]
      refine ⟨fun hm => ?_, ih.nd⟩
      obtain ⟨q, hq, he⟩ := List.mem_map.1 hm
      rcases List.mem_append.1 hq with hq | hq
      · obtain ⟨r, hr, rfl⟩ := List.mem_map.1 hq
        obtain ⟨b', hb'⟩ := hg r (List.mem_cons_of_mem _ hr)
        exact hS.inj _ _ (by rw [hb']; rfl) (by rw [hb]; rfl) (fun e => hn.1 (List.mem_map.2 ⟨r, hr, e⟩)) he
      · have := (h.all q hq).2.lt
        have h1' : x.heap.size ≤ κ p.1 := h1
        simp only at he
        omega
theorem GL.seg {α : Type} {F : α → World} {x : World} (h1 : ∀ y, Below x.drew.heap.size x.drew (F y)) {w : World} {L : List (Nat × List Value)} (hL : GL w x L) : Go.Proofs.YthehcjfmokabfaaGreatDoor.fcC F L := GL.fcC (fun y => below_drew (h1 y)) hL
end Go.Proofs.YthehcjfmokabfaaGreatDoor

/-
  Layer 1, law K: NatsKnown, from the other laws' answers.
-/
namespace Go.Proofs.YthehcjfmokabfaaGreatDoor
open Go.RowKit
attribute [local irreducible] lo hs val hiB str isq decB dval

set_option maxHeartbeats 2000000 in
theorem number_ok (l : List UInt8) (h : l.length ≤ 4096) (hd : isDec l) (w : World) :
    Calls Tryz.prog 15 #[.string (st l)] w fun e w' => e = .returned (natV (dval l)) ∧ Below w.heap.size w w' := by
  have hL0 : GL w w [] := GL.start w
  have C := Lib.hid (fun w => parse_ok l h hd w)
  clear h hd
  generalize dval l = d at *
  generalize st l = s at *
  replace hL0 := (hL0.new rfl [.int .u64 0, .string ⟨#[]⟩] 32)
  generalize hweq : (w.alloc (.cells #[.int .u64 0, .string ⟨#[]⟩] 32)) = x1 at hL0
  go_enter Tryz.func15, Tryz.ntmps15
  have hA := hL0.fc
  simp only [fcG, cellsF, neK, and_true, ne_eq, Nat.zero_add, Nat.reduceAdd] at hA
  go_wp2_with fail
  clear hA
  with_reducible refine Calls.mono (C.out _) ?_
  rintro e x2 ⟨rfl, hb⟩
  replace hL0 := hL0.call hb
  clear hb hweq
  replace hL0 := (hL0.new rfl [.int .u64 ((lo d : Nat) : Int), .string (hs d)] 32)
  generalize hweq : (x2.alloc (.cells #[.int .u64 ((lo d : Nat) : Int), .string (hs d)] 32)) = x3 at hL0
  have hA := hL0.fc
  simp only [fcG, cellsF, neK, and_true, ne_eq, Nat.zero_add, Nat.reduceAdd] at hA
  have hP := hL0.put 1 (w.heap.size) _ rfl [.int .u64 ((lo d : Nat) : Int), .string (hs d)] rfl
  simp only [setAll, List.set_cons_zero, List.set_cons_succ] at hP
  generalize hput1 : ((x3.setCell ⟨w.heap.size, 0, none⟩ (.int .u64 ((lo d : Nat) : Int))).setCell ⟨w.heap.size, 1, none⟩ (.string (hs d))) = x4 at hP
  have hB1 := hP.fc
  simp only [fcG, cellsF, neK, and_true, ne_eq, Nat.zero_add, Nat.reduceAdd] at hB1
  replace hL0 := hP
  go_wp2_with fail
  exact bodyPost_ret (v := natV d) (by simp [results, Tryz.results15, go_sem, hB1]) rfl ⟨rfl, hL0.bl⟩

/-- What a law says of its words. -/
abbrev Says2 (f : FuncId) : Prop := ∀ (vx vy : Value) (lx ly : List Nat) (w : World), Tab w → Ws w vx lx → Ws w vy ly → Calls Tryz.prog f #[vx, vy] w fun e w' => e = .returned (.bool true) ∧ Below w.heap.size w w'
abbrev Says3 (f : FuncId) : Prop := ∀ (vx vy vz : Value) (lx ly lz : List Nat) (w : World), Tab w → Ws w vx lx → Ws w vy ly → Ws w vz lz → Calls Tryz.prog f #[vx, vy, vz] w fun e w' => e = .returned (.bool true) ∧ Below w.heap.size w w'

set_option maxHeartbeats 8000000 in
set_option maxRecDepth 100000 in
theorem known_of (HS : Says2 7) (HP : Says2 8) (HD : Says3 9) (HT : Says2 10) (HR : Says3 11) (HV : Says3 12)
    (HO : ∀ (vx : Value) (lx : List Nat) (n : Int), n < 9223372036854775808 → ∀ w, Tab w → Ws w vx lx → Calls Tryz.prog 13 #[vx, .int .i64 n] w fun e w' => e = .returned (.bool true) ∧ Below w.heap.size w w')
    (HE : ∀ (s : ByteArray) w, Tab w → Calls Tryz.prog 14 #[.string s] w fun e w' => e = .returned (.bool true) ∧ Below w.heap.size w w')
    (HN : ∀ l : List UInt8, l.length ≤ 4096 → isDec l → ∀ w, Calls Tryz.prog 15 #[.string (st l)] w fun e w' => e = .returned (natV (dval l)) ∧ Below w.heap.size w w')
    (HW : ∀ w, Tab w → Calls Tryz.prog 16 #[] w fun e w' => e = .returned (.bool true) ∧ Below w.heap.size w w')
    (w : World) (htab : Tab w) :
    Calls Tryz.prog 3 #[] w fun e w' => e = .returned (.bool true) ∧ Below w.heap.size w w' := by
  replace HS := Lib.hid HS
  replace HP := Lib.hid HP
  replace HD := Lib.hid HD
  replace HT := Lib.hid HT
  replace HR := Lib.hid HR
  replace HV := Lib.hid HV
  replace HO := Lib.hid HO
  replace HE := Lib.hid HE
  replace HW := Lib.hid HW
  replace HN := Lib.hid HN
  obtain ⟨vf, lf, hE⟩ := ends_ok w
  obtain ⟨W1, hW1⟩ : ∃ W1, W1 = endsW w := ⟨_, rfl⟩
  have hb1 : Below w.heap.size w W1 := by rw [hW1]; exact ends_below w
  rw [← hW1] at hE
  replace hE := Lib.hid hE
  replace hW1 := Lib.hid hW1
  go_enter Tryz.func3, Tryz.ntmps3
  go_wp2_with fail
  obtain ⟨g, hg⟩ : ∃ g, g = w.heap.size + 1 + 1 + 1 + 1 + 1 + 1 + 1 + 1 + 1 + 1 + 1 + 1 + 1 + 1 + 1 := ⟨_, rfl⟩
  rw [← hg]
  rw [show w.heap.size + 15 = g from hg.symm] at hE
  go_loopw [2] (fun iv wr => ∃ i : Nat, iv = .int .i64 (i : Int) ∧ i ≤ 16 ∧ Below W1.heap.size W1 wr) (fun iv _ => 16 - (intOf iv).toNat)
  case atStart => exact ⟨0, rfl, by omega, by rw [hW1.out]; exact Below.refl _ (endsW w)⟩
  case round =>
    obtain ⟨i, rfl, hi, hb⟩ := hrel
    clear hW1 hg
    rcases Nat.lt_or_ge i 16 with h16 | h16
    · have k1 : (i : Int) < 16 := by omega
      go_wp2_with fail
      go_loopw [3] (fun kv wr => ∃ k : Nat, kv = .int .i64 (k : Int) ∧ k ≤ 16 ∧ Below W1.heap.size W1 wr) (fun kv _ => 16 - (intOf kv).toNat)
      case atStart => exact ⟨0, rfl, by omega, hb⟩
      case round =>
        obtain ⟨k, rfl, hk, hb⟩ := hrel
        rcases Nat.lt_or_ge k 16 with k16 | k16
        · have k2 : (k : Int) < 16 := by omega
          obtain ⟨α, iα, F, hF1, hF2⟩ := cls wr
          have hX := fun x => hb.trans ((hF1 x).mono hb.size)
          have hT := fun x => htab.below (hb1.trans ((hX x).mono hb1.size))
          have hQ := fun x => hE.out.below (hX x)
          obtain ⟨j1, e1⟩ : ∃ j, j = (i + k) % 16 := ⟨_, rfl⟩
          obtain ⟨j2, e2⟩ : ∃ j, j = (i * k) % 16 := ⟨_, rfl⟩
          obtain ⟨j3, e3⟩ : ∃ j, j = (i + 2 * k) % 16 := ⟨_, rfl⟩
          have hik : i * k ≤ 225 := Nat.mul_le_mul (show i ≤ 15 by omega) (show k ≤ 15 by omega)
          have hikI : (i : Int) * (k : Int) ≤ 225 := by rw [← Int.natCast_mul]; omega
          have hik0 : (0 : Int) ≤ (i : Int) * (k : Int) := by rw [← Int.natCast_mul]; omega
          have f1 : ((i : Int) + (k : Int)) % 16 = (j1 : Int) := by omega
          have f2 : ((i : Int) * (k : Int)) % 16 = (j2 : Int) := by rw [← Int.natCast_mul]; omega
          have f3 : ((i : Int) + 2 * (k : Int)) % 16 = (j3 : Int) := by omega
          have g1 : j1 < 16 := by omega
          have g2 : j2 < 16 := by omega
          have g3 : j3 < 16 := by omega
          have q0 : ∀ x, (F x).cell? ⟨g, i, none⟩ = some (vf i) := fun x => (hQ x).cell i h16
          have q4 : ∀ x, (F x).cell? ⟨g, k, none⟩ = some (vf k) := fun x => (hQ x).cell k k16
          have q1 : ∀ x, (F x).cell? ⟨g, j1, none⟩ = some (vf j1) := fun x => (hQ x).cell j1 g1
          have q2 : ∀ x, (F x).cell? ⟨g, j2, none⟩ = some (vf j2) := fun x => (hQ x).cell j2 g2
          have q3 : ∀ x, (F x).cell? ⟨g, j3, none⟩ = some (vf j3) := fun x => (hQ x).cell j3 g3
          have cS := Lib.hid (fun x => cls_ret hF1 hF2 (HS.out _ _ _ _ (F x) (hT x) ((hQ x).ws i h16) ((hQ x).ws k k16)))
          have cP := Lib.hid (fun x => cls_ret hF1 hF2 (HP.out _ _ _ _ (F x) (hT x) ((hQ x).ws i h16) ((hQ x).ws k k16)))
          have cD := Lib.hid (fun x => cls_ret hF1 hF2 (HD.out _ _ _ _ _ _ (F x) (hT x) ((hQ x).ws i h16) ((hQ x).ws k k16) ((hQ x).ws j1 g1)))
          have cT := Lib.hid (fun x => cls_ret hF1 hF2 (HT.out _ _ _ _ (F x) (hT x) ((hQ x).ws i h16) ((hQ x).ws k k16)))
          have cR := Lib.hid (fun x => cls_ret hF1 hF2 (HR.out _ _ _ _ _ _ (F x) (hT x) ((hQ x).ws i h16) ((hQ x).ws k k16) ((hQ x).ws j2 g2)))
          have cV := Lib.hid (fun x => cls_ret hF1 hF2 (HV.out _ _ _ _ _ _ (F x) (hT x) ((hQ x).ws i h16) ((hQ x).ws k k16) ((hQ x).ws j3 g3)))
          have hX' := Lib.hid hX
          clear hX hT hQ e1 e2 e3
          have b1 : (j1 : Int) < 16 := by omega
          have b2 : (j2 : Int) < 16 := by omega
          have b3 : (j3 : Int) < 16 := by omega
          clear g1 g2 g3 hik
          go_wp2_with fail
          refine region_cls (F := F) (by kernel_rfl) (lexB_of_fast (by kernel_rfl)) (cls_drew hF2) ?_
          simp only [List.append]
          repeat (go_big_quiet_step (first
            | (go_at_call 7; with_reducible exact cS.out _)
            | (go_at_call 8; with_reducible exact cP.out _)
            | (go_at_call 9; with_reducible exact cD.out _)
            | (go_at_call 10; with_reducible exact cT.out _)
            | (go_at_call 11; with_reducible exact cR.out _)
            | (go_at_call 12; with_reducible exact cV.out _)))
          refine wpQuiet_nil ?_
          intro wq hwq
          obtain ⟨xq, rfl⟩ := hwq
          have hb8 := hX'.out xq
          generalize F xq = w8 at hb8 ⊢
          clear cS cP cD cT cR cV hX' hF1 hF2 q0 q1 q2 q3 q4
          go_wp2_with fail
          go_roundw
          case rel => exact ⟨k + 1, by first | rfl | go_num, by omega, hb8⟩
          case measure => simp [intOf]; omega
        · obtain rfl : k = 16 := by omega
          have k2 : ¬ ((16 : Nat) : Int) < 16 := by omega
          have hE1 := Lib.hid (hE.out.below hb)
          have c0 := hE1.out.cell i h16
          have D1 := hb1.trans (hb.mono hb1.size)
          go_wp2_with fail
          with_reducible refine Calls.mono (HO.out _ _ _ (by omega) _ (htab.below D1) (hE1.out.ws i h16)) ?_
          rintro e x1 ⟨rfl, hc⟩
          have D2 := D1.trans (hc.mono D1.size)
          have h2 := hb.trans (hc.mono hb.size)
          have E2 := Lib.hid (hE1.out.below hc)
          have c2 := E2.out.cell i h16
          clear hc c0 hE1
          go_wp2_with fail
          with_reducible refine Calls.mono (HO.out _ _ _ (by omega) _ (htab.below D2) (E2.out.ws i h16)) ?_
          rintro e x2 ⟨rfl, hc⟩
          have D3 := D2.trans (hc.mono D2.size)
          have h3 := h2.trans (hc.mono h2.size)
          have E3 := Lib.hid (E2.out.below hc)
          have c3 := E3.out.cell i h16
          clear hc c2 E2
          go_wp2_with fail
          with_reducible refine Calls.mono (HO.out _ _ _ (by omega) _ (htab.below D3) (E3.out.ws i h16)) ?_
          rintro e x3 ⟨rfl, hc⟩
          have h4 := h3.trans (hc.mono h3.size)
          clear hc c3 E3
          go_wp2_with fail
          go_roundw
          case rel => exact ⟨i + 1, by first | rfl | go_num, by omega, h4⟩
          case measure => simp [intOf]; omega
    · obtain rfl : i = 16 := by omega
      have k1 : ¬ ((16 : Nat) : Int) < 16 := by omega
      clear HS HP HD HT HR HV HO hE
      go_wp2_with fail
      go_loopw [4] (fun sv wr => ∃ l : List UInt8, sv = .string (st l) ∧ l.length ≤ 4105 ∧ (∀ c ∈ l, isDig c) ∧ (l = [] ∨ l.head? = some 57) ∧ Below W1.heap.size W1 wr) (fun sv _ => match sv with | .string s => 4096 - s.size | _ => 0)
      case atStart => exact ⟨[], rfl, by simp, by simp, .inl rfl, hb⟩
      case round =>
        obtain ⟨l, rfl, hl, hd, h57, hb⟩ := hrel
        rcases Nat.lt_or_ge l.length 4096 with hlt | hge
        · have s1 : (((st l).size : Nat) : Int) < 4096 := by rw [st_size]; omega
          have s2 : (((st l).size : Nat) : Int) ≤ 4105 := by rw [st_size]; omega
          have s3 : (st l).size < 4096 := by rw [st_size]; omega
          obtain ⟨m, hm⟩ : ∃ m, m = l.length % 7 := ⟨_, rfl⟩
          have hm7 : (((st l).size : Nat) : Int) % 7 = (m : Int) := by rw [st_size]; omega
          have hm6 : (m : Int) ≤ 10 := by omega
          replace hm := Lib.hid hm
          replace hd := Lib.hid hd
          replace h57 := Lib.hid h57
          have nx := nine_next hlt hm.out hd.out h57.out
          have hm9 : m ≤ 10 := by have := hm.out; omega
          go_wp2_with fail
          rw [nine_ext m hm9, st_join]
          exact ⟨⟨_, rfl, nx.1, nx.2.1, .inr nx.2.2.1, hb⟩, by simp only [st_size]; have := nx.2.2.2; omega⟩
        · have s1 : ¬ (((st l).size : Nat) : Int) < 4096 := by rw [st_size]; omega
          have s2 : (((st l).size : Nat) : Int) ≤ 4105 := by rw [st_size]; omega
          have s3 : ¬ (st l).size < 4096 := by rw [st_size]; omega
          have hD := hb1.trans (hb.mono hb1.size)
          obtain ⟨nd, nl, nz⟩ := long_dec hge hd h57
          have s4 : (4096 : Int) ≤ (((st l).size : Nat) : Int) := by rw [st_size]; omega
          have mn1 : min 4096 (st l).size = 4096 := Nat.min_eq_left (by rw [st_size]; exact hge)
          have mn2 : min 4095 (st l).size = 4095 := Nat.min_eq_left (by rw [st_size]; omega)
          have s5 : (4095 : Int) ≤ (((st l).size : Nat) : Int) := by omega
          replace nd := Lib.hid nd
          replace nl := Lib.hid nl
          replace nz := Lib.hid nz
          clear hd h57 hge
          go_wp2_with fail
          go_region_held3 (fun w' => True)
            (trivial)
            (fail)
          go_wp2_with fail
          go_loopw [180] (fun iv wx => ∃ i : Nat, iv = .int .i64 (i : Int) ∧ i ≤ 20 ∧ (∀ j, j < 20 → ∃ s, wx.cell? ⟨wr.heap.size, j, none⟩ = some (.string s)) ∧ wr.heap.size < wx.heap.size ∧ Below W1.heap.size W1 wx) (fun iv _ => 20 - (intOf iv).toNat)
          case atStart => exact ⟨0, rfl, by omega, fun j hj => strs_ok wr _ _ (by simp [isStr]) j hj, Nat.lt_of_lt_of_le (Nat.lt_succ_self _) (Nat.le_of_eq (World.size_alloc wr _).symm), (hb.alloc hb.size _).drew⟩
          case round =>
            obtain ⟨i, rfl, hi, hcs, hgl, hb⟩ := hrel
            replace hcs := Lib.hid hcs
            have D := hb1.trans (hb.mono hb1.size)
            rcases Nat.lt_or_ge i 20 with h20 | h20
            · have k3 : (i : Int) < 20 := by omega
              obtain ⟨s, cs⟩ := hcs.out i h20
              go_wp2_with fail
              with_reducible refine Calls.mono (HE.out s _ (htab.below D)) ?_
              rintro e x1 ⟨rfl, hc⟩
              have hs1 := Lib.hid (fun j (hj : j < 20) => (hcs.out j hj).imp fun s h => (hc.cell (p := ⟨_, j, none⟩) hgl).trans h)
              have h4 := hb.trans (hc.mono hb.size)
              have hgl1 := Nat.lt_of_lt_of_le hgl hc.size
              clear hc cs hcs hgl
              go_wp2_with fail
              go_roundw
              case rel => exact ⟨i + 1, by first | rfl | go_num, by omega, hs1.out, hgl1, h4⟩
              case measure => simp [intOf]; omega
            · obtain rfl : i = 20 := by omega
              have k3 : ¬ ((20 : Nat) : Int) < 20 := by omega
              have hx := st_take' l 4096
              have C := Lib.hid (fun wx => HN.out _ nl.out nd.out wx)
              generalize dval (l.take 4096) = d at *
              rw [← hx] at C
              clear hx
              have WK := Lib.hid (fun wx ht => HW.out wx ht)
              go_wp2_with fail
              with_reducible refine Calls.mono (C.out _) ?_
              rintro e x1 ⟨rfl, hc⟩
              have D1 := D.trans (hc.mono D.size)
              clear hc C
              rcases natV0_ne nz.out with z1 | ⟨z1, z2⟩
              · go_wp2_with fail
                with_reducible refine Calls.mono (WK.out _ (htab.below D1)) ?_
                rintro e x2 ⟨rfl, hc⟩
                have D2 := D1.trans (hc.mono D1.size)
                clear hc
                go_wp2_with fail
                go_ret
                exact ⟨rfl, D2⟩
              · go_wp2_with fail
                with_reducible refine Calls.mono (WK.out _ (htab.below D1)) ?_
                rintro e x2 ⟨rfl, hc⟩
                have D2 := D1.trans (hc.mono D1.size)
                clear hc
                go_wp2_with fail
                go_ret
                exact ⟨rfl, D2⟩
end Go.Proofs.YthehcjfmokabfaaGreatDoor

/-
  Layer 1, law D: NatsDivisors.
-/
namespace Go.Proofs.YthehcjfmokabfaaGreatDoor
open Go.RowKit
attribute [local irreducible] lo hs sm s64 c64 d64 b64 mh ml pd pc qd qc val hiB str cmpI srD lz nb isq decB

/-- The three ways in which a number stands to 0, as the walk tests it. -/
theorem zt (x : Nat) : (x = 0 ∧ (((lo x : Nat) : Int) == ((lo 0 : Nat) : Int)) = true ∧ ((hs x).toList == (hs 0).toList) = true) ∨ (0 < x ∧ (((lo x : Nat) : Int) == ((lo 0 : Nat) : Int)) = false) ∨ (0 < x ∧ (((lo x : Nat) : Int) == ((lo 0 : Nat) : Int)) = true ∧ ((hs x).toList == (hs 0).toList) = false) := by
  rcases Nat.eq_zero_or_pos x with rfl | h
  · exact .inl ⟨rfl, by simp, by simp⟩
  · rcases eq_zero h with h1 | ⟨h1, h2⟩
    · exact .inr (.inl ⟨h, h1⟩)
    · exact .inr (.inr ⟨h, h1, h2⟩)

set_option maxHeartbeats 4000000 in
set_option maxRecDepth 100000 in
theorem divisors_big (ax ay az : Option Addr) (cx cy cz nx ny nz : Nat) (h : 12 < nx ∨ 12 < ny ∨ 6 < nz) (w : World) (htab : Tab w) :
    Calls Tryz.prog 12 #[.slice ax nx cx, .slice ay ny cy, .slice az nz cz] w fun e w' => e = .returned (.bool true) ∧ Below w.heap.size w w' := by
  have HW := Lib.hid (works_any w htab)
  have key : (decide ((12 : Int) < (nx : Int)) = true) ∨ (decide ((12 : Int) < (nx : Int)) = false ∧ decide ((12 : Int) < (ny : Int)) = true) ∨ (decide ((12 : Int) < (nx : Int)) = false ∧ decide ((12 : Int) < (ny : Int)) = false ∧ decide ((6 : Int) < (nz : Int)) = true) := by
    by_cases h0 : 12 < nx
    · exact .inl (decide_eq_true (by omega))
    · skip
      by_cases h1 : 12 < ny
      · exact .inr (.inl ⟨decide_eq_false (by omega), decide_eq_true (by omega)⟩)
      · exact .inr (.inr (⟨decide_eq_false (by omega), decide_eq_false (by omega), decide_eq_true (by omega)⟩))
  clear h
  rcases key with k0 | ⟨k0, k1⟩ | ⟨k0, k1, k2⟩
  all_goals (
    go_enter Tryz.func12, Tryz.ntmps12
    go_wp2_with fail
    with_reducible refine Calls.mono HW.out ?_
    rintro e w1 ⟨rfl, hb⟩
    go_wp2_with fail
    exact bodyPost_ret (v := .bool true) (by simp [results, Tryz.results12, go_sem]) rfl ⟨rfl, hb⟩)

set_option maxHeartbeats 16000000 in
set_option maxRecDepth 100000 in
theorem divisors_small (vx vy vz : Value) (lx ly lz : List Nat) (w : World) (htab : Tab w) (hx : Ws w vx lx) (hy : Ws w vy ly) (hz : Ws w vz lz) (nx : lx.length ≤ 12) (ny : ly.length ≤ 12) (nz : lz.length ≤ 6) :
    Calls Tryz.prog 12 #[vx, vy, vz] w fun e w' => e = .returned (.bool true) ∧ Below w.heap.size w w' := by
  have MX := fun w h => made_any vx lx (by omega) w h
  have MY := fun w h => made_any vy ly (by omega) w h
  have MZ := fun w h => made_any vz lz (by omega) w h
  obtain ⟨ax, cx, ex⟩ := hx.form
  obtain ⟨ay, cy, ey⟩ := hy.form
  obtain ⟨az, cz, ez⟩ := hz.form
  have dx := Nat.le_trans (made_digs hx.lt) nx
  have dy := Nat.le_trans (made_digs hy.lt) ny
  have dz := Nat.le_trans (made_digs hz.lt) nz
  subst ex ey ez
  have kx : decide ((12 : Int) < (lx.length : Int)) = false := decide_eq_false (by omega)
  have ky : decide ((12 : Int) < (ly.length : Int)) = false := decide_eq_false (by omega)
  have kz : decide ((6 : Int) < (lz.length : Int)) = false := decide_eq_false (by omega)
  generalize made lx = a at *
  generalize made ly = b at *
  generalize made lz = n at *
  replace hx := Lib.hid hx
  replace MX := Lib.hid MX
  replace hy := Lib.hid hy
  replace MY := Lib.hid MY
  replace hz := Lib.hid hz
  replace MZ := Lib.hid MZ
  generalize lx.length = Nx at *
  generalize ly.length = Ny at *
  generalize lz.length = Nz at *
  obtain ⟨g, hg⟩ : ∃ g, g = Nat.gcd a b := ⟨_, rfl⟩
  have dg : (digs g).length ≤ 12 := by
    rw [hg]
    rcases Nat.eq_zero_or_pos a with h | h
    · rw [h, Nat.gcd_zero_left]; exact dy
    · exact Nat.le_trans (digs_mono (Nat.gcd_le_left _ h)) dx
  have dna : (digs (n * a)).length ≤ 18 := Nat.le_trans (digs_mul_le dz dx) (by omega)
  have dnb : (digs (n * b)).length ≤ 18 := Nat.le_trans (digs_mul_le dz dy) (by omega)
  have G4 := fun w => gcd_any a b (by omega) (by omega) w
  rw [← hg] at G4
  have G6a := fun w => gcd_any b a (by omega) (by omega) w
  rw [Nat.gcd_comm, ← hg] at G6a
  have G6b := fun w => gcd_any a 0 (by omega) (by rw [digs_zero]; exact Nat.zero_le _) w
  rw [Nat.gcd_zero_right] at G6b
  have M6a := fun w => mul_any n a (by omega) (by omega) w
  have M6b := fun w => mul_any n b (by omega) (by omega) w
  have G6c := fun w => gcd_any (n * a) (n * b) (by omega) (by omega) w
  rw [Nat.gcd_mul_left, ← hg] at G6c
  have M6c := fun w => mul_any n g (by omega) (by omega) w
  have hab : g = 0 → a = 0 ∧ b = 0 := fun h => by rw [hg] at h; exact ⟨Nat.eq_zero_of_gcd_eq_zero_left h, Nat.eq_zero_of_gcd_eq_zero_right h⟩
  have hnab : g = 0 → n * b = n * a := fun h => by rw [hg] at h; rw [Nat.eq_zero_of_gcd_eq_zero_left h, Nat.eq_zero_of_gcd_eq_zero_right h]
  have hba : a = 0 → b = 0 → g = 0 := fun h1 h2 => by rw [hg, h1, h2]; rfl
  generalize n * a = na at *
  generalize n * b = nb1 at *
  generalize n * g = ng at *
  replace G4 := Lib.hid G4
  replace G6a := Lib.hid G6a
  replace G6b := Lib.hid G6b
  replace M6a := Lib.hid M6a
  replace M6b := Lib.hid M6b
  replace G6c := Lib.hid G6c
  replace M6c := Lib.hid M6c
  have HG := Lib.hid hg
  clear hg dna dnb
  have hL0 : NL w w [] := NL.start w
  go_enter Tryz.func12, Tryz.ntmps12
  go_wp2_with fail
  with_reducible refine Calls.mono (MX.out _ hx.out) ?_
  rintro e x1 ⟨rfl, hb⟩
  replace hL0 := hL0.call hb
  clear hb MX
  go_wp2_with fail
  with_reducible refine Calls.mono (MY.out _ (hy.out.below hL0.bl)) ?_
  rintro e x2 ⟨rfl, hb⟩
  replace hL0 := hL0.call hb
  clear hb MY
  go_wp2_with fail
  with_reducible refine Calls.mono (MZ.out _ (hz.out.below hL0.bl)) ?_
  rintro e x3 ⟨rfl, hb⟩
  replace hL0 := hL0.call hb
  clear hb MZ
  replace hL0 := (((hL0.new rfl a 32).new (szA _ _) b 32).new (szA2 _ _ _) n 32)
  generalize hweq : (((x3.alloc (.cells #[.int .u64 ((lo a : Nat) : Int), .string (hs a)] 32)).alloc (.cells #[.int .u64 ((lo b : Nat) : Int), .string (hs b)] 32)).alloc (.cells #[.int .u64 ((lo n : Nat) : Int), .string (hs n)] 32)) = x4 at hL0
  obtain ⟨p1, r1⟩ := hL0.get (x3.heap.size) a (by (repeat (first | with_reducible exact List.mem_cons_self | with_reducible refine List.mem_cons_of_mem _ ?_)))
  obtain ⟨p2, r2⟩ := hL0.get (x3.heap.size + 1) b (by (repeat (first | with_reducible exact List.mem_cons_self | with_reducible refine List.mem_cons_of_mem _ ?_)))
  go_wp2_with fail
  with_reducible refine Calls.mono (G4.out _) ?_
  rintro e x5 ⟨rfl, hb⟩
  replace hL0 := hL0.call hb
  clear hb G4 hweq
  replace hL0 := (hL0.new rfl g 32)
  generalize hweq : (x5.alloc (.cells #[.int .u64 ((lo g : Nat) : Int), .string (hs g)] 32)) = x6 at hL0
  go_upto_region 6 with fail
  replace hL0 := hL0.new0 rfl 32
  generalize hz : x6.alloc (.cells #[.int .u64 0, .string ⟨#[]⟩] 32) = wz at hL0 ⊢
  clear hz hweq
  go_cut [82] from 44 to 82 (fun t82 wx => t82 = .bool false ∧ NL w wx [(x6.heap.size, 0), (x5.heap.size, g), (x3.heap.size + 1 + 1, n), (x3.heap.size + 1, b), (x3.heap.size, a)])
  case first =>
    rcases zt g with ⟨zg, zg1, zg2⟩ | ⟨zg, zg1⟩ | ⟨zg, zg1, zg2⟩
    · obtain ⟨rfl, rfl⟩ := hab zg
      obtain rfl := hnab zg
      clear zg hab hba hnab
      have za1 : (((lo 0 : Nat) : Int) == ((lo 0 : Nat) : Int)) = true := by simp
      have za2 : ((hs 0).toList == (hs 0).toList) = true := by simp
      obtain ⟨α, iα, F, hF1, hF2⟩ := cls wz
      obtain ⟨q3, s3⟩ := cls_get hF1 hL0 (x5.heap.size) g (by (repeat (first | with_reducible exact List.mem_cons_self | with_reducible refine List.mem_cons_of_mem _ ?_)))
      obtain ⟨q4, s4⟩ := cls_get hF1 hL0 (x3.heap.size + 1) 0 (by (repeat (first | with_reducible exact List.mem_cons_self | with_reducible refine List.mem_cons_of_mem _ ?_)))
      obtain ⟨q5, s5⟩ := cls_get hF1 hL0 (x3.heap.size) 0 (by (repeat (first | with_reducible exact List.mem_cons_self | with_reducible refine List.mem_cons_of_mem _ ?_)))
      obtain ⟨q6, s6⟩ := cls_get hF1 hL0 (x6.heap.size) 0 (by (repeat (first | with_reducible exact List.mem_cons_self | with_reducible refine List.mem_cons_of_mem _ ?_)))
      obtain ⟨q7, s7⟩ := cls_get hF1 hL0 (x3.heap.size + 1 + 1) n (by (repeat (first | with_reducible exact List.mem_cons_self | with_reducible refine List.mem_cons_of_mem _ ?_)))
      refine region_cls (F := F) (by kernel_rfl) (by kernel_rfl) (cls_drew hF2) ?_
      repeat (go_big_quiet_step (first
        | (go_at_call 60; with_reducible exact cls_call hF1 hF2 G6a.out _)
        | (go_at_call 60; with_reducible exact cls_call hF1 hF2 G6b.out _)
        | (go_at_call 58; with_reducible exact cls_call hF1 hF2 M6a.out _)
        | (go_at_call 58; with_reducible exact cls_call hF1 hF2 M6b.out _)
        | (go_at_call 60; with_reducible exact cls_call hF1 hF2 G6c.out _)
        | (go_at_call 58; with_reducible exact cls_call hF1 hF2 M6c.out _)))
      refine wpQuiet_nil ?_
      intro wq hwq
      obtain ⟨xq, rfl⟩ := hwq
      have hLq := hL0.call (hF1 xq)
      go_wp2_with fail
      go_meet
      exact ⟨rfl, hLq⟩
    all_goals (
      rcases zt a with ⟨za, za1, za2⟩ | ⟨za, za1⟩ | ⟨za, za1, za2⟩
      · rcases zt b with ⟨zb, zb1, zb2⟩ | ⟨zb, zb1⟩ | ⟨zb, zb1, zb2⟩
        · exact absurd (hba za zb) (by omega)
        all_goals (
          clear za
          obtain ⟨α, iα, F, hF1, hF2⟩ := cls wz
          obtain ⟨q8, s8⟩ := cls_get hF1 hL0 (x5.heap.size) g (by (repeat (first | with_reducible exact List.mem_cons_self | with_reducible refine List.mem_cons_of_mem _ ?_)))
          obtain ⟨q9, s9⟩ := cls_get hF1 hL0 (x3.heap.size + 1) b (by (repeat (first | with_reducible exact List.mem_cons_self | with_reducible refine List.mem_cons_of_mem _ ?_)))
          obtain ⟨q10, s10⟩ := cls_get hF1 hL0 (x3.heap.size) a (by (repeat (first | with_reducible exact List.mem_cons_self | with_reducible refine List.mem_cons_of_mem _ ?_)))
          obtain ⟨q11, s11⟩ := cls_get hF1 hL0 (x6.heap.size) 0 (by (repeat (first | with_reducible exact List.mem_cons_self | with_reducible refine List.mem_cons_of_mem _ ?_)))
          obtain ⟨q12, s12⟩ := cls_get hF1 hL0 (x3.heap.size + 1 + 1) n (by (repeat (first | with_reducible exact List.mem_cons_self | with_reducible refine List.mem_cons_of_mem _ ?_)))
          refine region_cls (F := F) (by kernel_rfl) (by kernel_rfl) (cls_drew hF2) ?_
          repeat (go_big_quiet_step (first
            | (go_at_call 60; with_reducible exact cls_call hF1 hF2 G6a.out _)
            | (go_at_call 60; with_reducible exact cls_call hF1 hF2 G6b.out _)
            | (go_at_call 58; with_reducible exact cls_call hF1 hF2 M6a.out _)
            | (go_at_call 58; with_reducible exact cls_call hF1 hF2 M6b.out _)
            | (go_at_call 60; with_reducible exact cls_call hF1 hF2 G6c.out _)
            | (go_at_call 58; with_reducible exact cls_call hF1 hF2 M6c.out _)))
          refine wpQuiet_nil ?_
          intro wq hwq
          obtain ⟨xq, rfl⟩ := hwq
          have hLq := hL0.call (hF1 xq)
          go_wp2_with fail
          go_meet
          exact ⟨rfl, hLq⟩)
      all_goals (
        obtain ⟨α, iα, F, hF1, hF2⟩ := cls wz
        obtain ⟨q13, s13⟩ := cls_get hF1 hL0 (x5.heap.size) g (by (repeat (first | with_reducible exact List.mem_cons_self | with_reducible refine List.mem_cons_of_mem _ ?_)))
        obtain ⟨q14, s14⟩ := cls_get hF1 hL0 (x3.heap.size + 1) b (by (repeat (first | with_reducible exact List.mem_cons_self | with_reducible refine List.mem_cons_of_mem _ ?_)))
        obtain ⟨q15, s15⟩ := cls_get hF1 hL0 (x3.heap.size) a (by (repeat (first | with_reducible exact List.mem_cons_self | with_reducible refine List.mem_cons_of_mem _ ?_)))
        obtain ⟨q16, s16⟩ := cls_get hF1 hL0 (x6.heap.size) 0 (by (repeat (first | with_reducible exact List.mem_cons_self | with_reducible refine List.mem_cons_of_mem _ ?_)))
        obtain ⟨q17, s17⟩ := cls_get hF1 hL0 (x3.heap.size + 1 + 1) n (by (repeat (first | with_reducible exact List.mem_cons_self | with_reducible refine List.mem_cons_of_mem _ ?_)))
        refine region_cls (F := F) (by kernel_rfl) (by kernel_rfl) (cls_drew hF2) ?_
        repeat (go_big_quiet_step (first
          | (go_at_call 60; with_reducible exact cls_call hF1 hF2 G6a.out _)
          | (go_at_call 60; with_reducible exact cls_call hF1 hF2 G6b.out _)
          | (go_at_call 58; with_reducible exact cls_call hF1 hF2 M6a.out _)
          | (go_at_call 58; with_reducible exact cls_call hF1 hF2 M6b.out _)
          | (go_at_call 60; with_reducible exact cls_call hF1 hF2 G6c.out _)
          | (go_at_call 58; with_reducible exact cls_call hF1 hF2 M6c.out _)))
        refine wpQuiet_nil ?_
        intro wq hwq
        obtain ⟨xq, rfl⟩ := hwq
        have hLq := hL0.call (hF1 xq)
        go_wp2_with fail
        go_meet
        exact ⟨rfl, hLq⟩))
  case rest =>
    clear hL0 G6a G6b M6a M6b G6c M6c
    obtain ⟨rfl, hL0⟩ := hcut
    obtain ⟨p18, r18⟩ := hL0.get (x5.heap.size) g (by (repeat (first | with_reducible exact List.mem_cons_self | with_reducible refine List.mem_cons_of_mem _ ?_)))
    obtain ⟨p19, r19⟩ := hL0.get (x6.heap.size) 0 (by (repeat (first | with_reducible exact List.mem_cons_self | with_reducible refine List.mem_cons_of_mem _ ?_)))
    obtain ⟨p20, r20⟩ := hL0.get (x3.heap.size) a (by (repeat (first | with_reducible exact List.mem_cons_self | with_reducible refine List.mem_cons_of_mem _ ?_)))
    obtain ⟨p21, r21⟩ := hL0.get (x3.heap.size + 1) b (by (repeat (first | with_reducible exact List.mem_cons_self | with_reducible refine List.mem_cons_of_mem _ ?_)))
    rcases zt g with ⟨zg, zg1, zg2⟩ | ⟨hg0, zg1⟩ | ⟨hg0, zg1, zg2⟩
    · have HW := Lib.hid (works_any _ (htab.below hL0.bl))
      go_wp2_with fail
      with_reducible refine Calls.mono HW.out ?_
      rintro e x7 ⟨rfl, hb⟩
      replace hL0 := hL0.call hb
      clear hb HW
      go_wp2_with fail
      exact bodyPost_ret (v := .bool true) (by simp [results, Tryz.results12, go_sem]) rfl ⟨rfl, hL0.bl⟩
    · have da : g ∣ a := by rw [HG.out]; exact Nat.gcd_dvd_left a b
      have db : g ∣ b := by rw [HG.out]; exact Nat.gcd_dvd_right a b
      obtain ⟨p, hp⟩ : ∃ p, p = a / g := ⟨_, rfl⟩
      obtain ⟨q, hq⟩ : ∃ q, q = b / g := ⟨_, rfl⟩
      have D10 := fun w => div_pos a g hg0 (by omega) w
      rw [← hp, Nat.mod_eq_zero_of_dvd da] at D10
      have D11 := fun w => div_pos b g hg0 (by omega) w
      rw [← hq, Nat.mod_eq_zero_of_dvd db] at D11
      have hpq : Nat.gcd p q = 1 := by rw [hp, hq, HG.out]; exact Nat.coprime_div_gcd_div_gcd (by rw [← HG.out]; exact hg0)
      have dp : (digs p).length ≤ 12 := by rw [hp]; exact Nat.le_trans (digs_mono (Nat.div_le_self _ _)) dx
      have dq : (digs q).length ≤ 12 := by rw [hq]; exact Nat.le_trans (digs_mono (Nat.div_le_self _ _)) dy
      have G15 := fun w => gcd_any p q (by omega) (by omega) w
      rw [hpq] at G15
      replace G15 := Lib.hid G15
      have O15 := Lib.hid (fun w => of_val 1 1 rfl (by unfold Bs; omega) w)
      replace D10 := Lib.hid D10
      replace D11 := Lib.hid D11
      clear hp hq hpq da db dp dq
      go_wp2_with fail
      with_reducible refine Calls.mono (D10.out _) ?_
      rintro e x8 ⟨rfl, hb⟩
      replace hL0 := hL0.call hb
      clear hb D10
      replace hL0 := ((hL0.new rfl p 32).new (szA _ _) 0 32)
      generalize hweq : ((x8.alloc (.cells #[.int .u64 ((lo p : Nat) : Int), .string (hs p)] 32)).alloc (.cells #[.int .u64 ((lo 0 : Nat) : Int), .string (hs 0)] 32)) = x9 at hL0
      obtain ⟨p22, r22⟩ := hL0.get (x3.heap.size + 1) b (by (repeat (first | with_reducible exact List.mem_cons_self | with_reducible refine List.mem_cons_of_mem _ ?_)))
      obtain ⟨p23, r23⟩ := hL0.get (x5.heap.size) g (by (repeat (first | with_reducible exact List.mem_cons_self | with_reducible refine List.mem_cons_of_mem _ ?_)))
      go_wp2_with fail
      with_reducible refine Calls.mono (D11.out _) ?_
      rintro e x10 ⟨rfl, hb⟩
      replace hL0 := hL0.call hb
      clear hb D11 hweq
      replace hL0 := ((hL0.new rfl q 32).new (szA _ _) 0 32)
      generalize hweq : ((x10.alloc (.cells #[.int .u64 ((lo q : Nat) : Int), .string (hs q)] 32)).alloc (.cells #[.int .u64 ((lo 0 : Nat) : Int), .string (hs 0)] 32)) = x11 at hL0
      obtain ⟨p24, r24⟩ := hL0.get (x3.heap.size) a (by (repeat (first | with_reducible exact List.mem_cons_self | with_reducible refine List.mem_cons_of_mem _ ?_)))
      obtain ⟨p25, r25⟩ := hL0.get (x3.heap.size + 1) b (by (repeat (first | with_reducible exact List.mem_cons_self | with_reducible refine List.mem_cons_of_mem _ ?_)))
      rcases Nat.eq_zero_or_pos b with hb0 | hb0
      · have D12 : ∀ w, Calls Tryz.prog 57 #[natV a, natV b] w fun e w' => e = .returned (.tuple #[natV 0, natV 0, .bool false]) ∧ Below w.heap.size w w' := fun w => by rw [hb0]; exact div_zero a w
        replace D12 := Lib.hid D12
        clear hb0
        go_wp2_with fail
        with_reducible refine Calls.mono (D12.out _) ?_
        rintro e x12 ⟨rfl, hb⟩
        replace hL0 := hL0.call hb
        clear hb D12 hweq
        replace hL0 := ((hL0.new rfl 0 32).new (szA _ _) 0 32)
        generalize hweq : ((x12.alloc (.cells #[.int .u64 ((lo 0 : Nat) : Int), .string (hs 0)] 32)).alloc (.cells #[.int .u64 ((lo 0 : Nat) : Int), .string (hs 0)] 32)) = x13 at hL0
        go_upto_region 13 with fail
        clear hweq
        obtain ⟨α, iα, F, hF1, hF2⟩ := cls x13
        obtain ⟨q26, s26⟩ := cls_get hF1 hL0 (x3.heap.size + 1) b (by (repeat (first | with_reducible exact List.mem_cons_self | with_reducible refine List.mem_cons_of_mem _ ?_)))
        obtain ⟨q27, s27⟩ := cls_get hF1 hL0 (x12.heap.size + 1) 0 (by (repeat (first | with_reducible exact List.mem_cons_self | with_reducible refine List.mem_cons_of_mem _ ?_)))
        obtain ⟨q28, s28⟩ := cls_get hF1 hL0 (x5.heap.size) g (by (repeat (first | with_reducible exact List.mem_cons_self | with_reducible refine List.mem_cons_of_mem _ ?_)))
        refine region_cls (F := F) (by kernel_rfl) (by kernel_rfl) (cls_drew hF2) ?_
        repeat (go_big_quiet_step (first
          | fail))
        refine wpQuiet_nil ?_
        intro wq hwq
        obtain ⟨xq, rfl⟩ := hwq
        have hLq := hL0.call (hF1 xq)
        generalize F xq = wq at hLq ⊢
        replace hL0 := hLq
        clear hLq hF1 hF2
        obtain ⟨p29, r29⟩ := hL0.get (x8.heap.size + 1) 0 (by (repeat (first | with_reducible exact List.mem_cons_self | with_reducible refine List.mem_cons_of_mem _ ?_)))
        obtain ⟨p30, r30⟩ := hL0.get (x6.heap.size) 0 (by (repeat (first | with_reducible exact List.mem_cons_self | with_reducible refine List.mem_cons_of_mem _ ?_)))
        obtain ⟨p31, r31⟩ := hL0.get (x10.heap.size + 1) 0 (by (repeat (first | with_reducible exact List.mem_cons_self | with_reducible refine List.mem_cons_of_mem _ ?_)))
        obtain ⟨p32, r32⟩ := hL0.get (x8.heap.size) p (by (repeat (first | with_reducible exact List.mem_cons_self | with_reducible refine List.mem_cons_of_mem _ ?_)))
        obtain ⟨p33, r33⟩ := hL0.get (x10.heap.size) q (by (repeat (first | with_reducible exact List.mem_cons_self | with_reducible refine List.mem_cons_of_mem _ ?_)))
        go_wp2_with fail
        with_reducible refine Calls.mono (G15.out _) ?_
        rintro e x14 ⟨rfl, hb⟩
        replace hL0 := hL0.call hb
        clear hb G15
        go_wp2_with fail
        with_reducible refine Calls.mono (O15.out _) ?_
        rintro e x15 ⟨rfl, hb⟩
        replace hL0 := hL0.call hb
        clear hb O15
        have HW := Lib.hid (works_any _ (htab.below hL0.bl))
        go_wp2_with fail
        with_reducible refine Calls.mono HW.out ?_
        rintro e x16 ⟨rfl, hb⟩
        replace hL0 := hL0.call hb
        clear hb HW
        go_wp2_with fail
        exact bodyPost_ret (v := .bool true) (by simp [results, Tryz.results12, go_sem]) rfl ⟨rfl, hL0.bl⟩
      · have D12 := fun w => div_pos a b hb0 (by omega) w
        have hm : (a % b) < b := Nat.mod_lt _ hb0
        have dm : (digs (a % b)).length ≤ 12 := Nat.le_trans (digs_mono (Nat.le_of_lt hm)) dy
        have G13 := fun w => gcd_any b (a % b) (by omega) (by omega) w
        rw [Nat.gcd_comm b, ← Nat.gcd_rec, Nat.gcd_comm b, ← HG.out] at G13
        generalize a / b = q2 at *
        generalize a % b = r2 at *
        replace G13 := Lib.hid G13
        replace D12 := Lib.hid D12
        clear hb0 hm dm
        go_wp2_with fail
        with_reducible refine Calls.mono (D12.out _) ?_
        rintro e x17 ⟨rfl, hb⟩
        replace hL0 := hL0.call hb
        clear hb D12 hweq
        replace hL0 := ((hL0.new rfl q2 32).new (szA _ _) r2 32)
        generalize hweq : ((x17.alloc (.cells #[.int .u64 ((lo q2 : Nat) : Int), .string (hs q2)] 32)).alloc (.cells #[.int .u64 ((lo r2 : Nat) : Int), .string (hs r2)] 32)) = x18 at hL0
        go_upto_region 13 with fail
        clear hweq
        obtain ⟨α, iα, F, hF1, hF2⟩ := cls x18
        obtain ⟨q34, s34⟩ := cls_get hF1 hL0 (x3.heap.size + 1) b (by (repeat (first | with_reducible exact List.mem_cons_self | with_reducible refine List.mem_cons_of_mem _ ?_)))
        obtain ⟨q35, s35⟩ := cls_get hF1 hL0 (x17.heap.size + 1) r2 (by (repeat (first | with_reducible exact List.mem_cons_self | with_reducible refine List.mem_cons_of_mem _ ?_)))
        obtain ⟨q36, s36⟩ := cls_get hF1 hL0 (x5.heap.size) g (by (repeat (first | with_reducible exact List.mem_cons_self | with_reducible refine List.mem_cons_of_mem _ ?_)))
        refine region_cls (F := F) (by kernel_rfl) (by kernel_rfl) (cls_drew hF2) ?_
        repeat (go_big_quiet_step (first
          | (go_at_call 60; with_reducible exact cls_call hF1 hF2 G13.out _)))
        refine wpQuiet_nil ?_
        intro wq hwq
        obtain ⟨xq, rfl⟩ := hwq
        have hLq := hL0.call (hF1 xq)
        generalize F xq = wq at hLq ⊢
        replace hL0 := hLq
        clear hLq hF1 hF2
        obtain ⟨p37, r37⟩ := hL0.get (x8.heap.size + 1) 0 (by (repeat (first | with_reducible exact List.mem_cons_self | with_reducible refine List.mem_cons_of_mem _ ?_)))
        obtain ⟨p38, r38⟩ := hL0.get (x6.heap.size) 0 (by (repeat (first | with_reducible exact List.mem_cons_self | with_reducible refine List.mem_cons_of_mem _ ?_)))
        obtain ⟨p39, r39⟩ := hL0.get (x10.heap.size + 1) 0 (by (repeat (first | with_reducible exact List.mem_cons_self | with_reducible refine List.mem_cons_of_mem _ ?_)))
        obtain ⟨p40, r40⟩ := hL0.get (x8.heap.size) p (by (repeat (first | with_reducible exact List.mem_cons_self | with_reducible refine List.mem_cons_of_mem _ ?_)))
        obtain ⟨p41, r41⟩ := hL0.get (x10.heap.size) q (by (repeat (first | with_reducible exact List.mem_cons_self | with_reducible refine List.mem_cons_of_mem _ ?_)))
        go_wp2_with fail
        with_reducible refine Calls.mono (G15.out _) ?_
        rintro e x19 ⟨rfl, hb⟩
        replace hL0 := hL0.call hb
        clear hb G15
        go_wp2_with fail
        with_reducible refine Calls.mono (O15.out _) ?_
        rintro e x20 ⟨rfl, hb⟩
        replace hL0 := hL0.call hb
        clear hb O15
        have HW := Lib.hid (works_any _ (htab.below hL0.bl))
        go_wp2_with fail
        with_reducible refine Calls.mono HW.out ?_
        rintro e x21 ⟨rfl, hb⟩
        replace hL0 := hL0.call hb
        clear hb HW
        go_wp2_with fail
        exact bodyPost_ret (v := .bool true) (by simp [results, Tryz.results12, go_sem]) rfl ⟨rfl, hL0.bl⟩
    · have da : g ∣ a := by rw [HG.out]; exact Nat.gcd_dvd_left a b
      have db : g ∣ b := by rw [HG.out]; exact Nat.gcd_dvd_right a b
      obtain ⟨p, hp⟩ : ∃ p, p = a / g := ⟨_, rfl⟩
      obtain ⟨q, hq⟩ : ∃ q, q = b / g := ⟨_, rfl⟩
      have D10 := fun w => div_pos a g hg0 (by omega) w
      rw [← hp, Nat.mod_eq_zero_of_dvd da] at D10
      have D11 := fun w => div_pos b g hg0 (by omega) w
      rw [← hq, Nat.mod_eq_zero_of_dvd db] at D11
      have hpq : Nat.gcd p q = 1 := by rw [hp, hq, HG.out]; exact Nat.coprime_div_gcd_div_gcd (by rw [← HG.out]; exact hg0)
      have dp : (digs p).length ≤ 12 := by rw [hp]; exact Nat.le_trans (digs_mono (Nat.div_le_self _ _)) dx
      have dq : (digs q).length ≤ 12 := by rw [hq]; exact Nat.le_trans (digs_mono (Nat.div_le_self _ _)) dy
      have G15 := fun w => gcd_any p q (by omega) (by omega) w
      rw [hpq] at G15
      replace G15 := Lib.hid G15
      have O15 := Lib.hid (fun w => of_val 1 1 rfl (by unfold Bs; omega) w)
      replace D10 := Lib.hid D10
      replace D11 := Lib.hid D11
      clear hp hq hpq da db dp dq
      go_wp2_with fail
      with_reducible refine Calls.mono (D10.out _) ?_
      rintro e x22 ⟨rfl, hb⟩
      replace hL0 := hL0.call hb
      clear hb D10
      replace hL0 := ((hL0.new rfl p 32).new (szA _ _) 0 32)
      generalize hweq : ((x22.alloc (.cells #[.int .u64 ((lo p : Nat) : Int), .string (hs p)] 32)).alloc (.cells #[.int .u64 ((lo 0 : Nat) : Int), .string (hs 0)] 32)) = x23 at hL0
      obtain ⟨p42, r42⟩ := hL0.get (x3.heap.size + 1) b (by (repeat (first | with_reducible exact List.mem_cons_self | with_reducible refine List.mem_cons_of_mem _ ?_)))
      obtain ⟨p43, r43⟩ := hL0.get (x5.heap.size) g (by (repeat (first | with_reducible exact List.mem_cons_self | with_reducible refine List.mem_cons_of_mem _ ?_)))
      go_wp2_with fail
      with_reducible refine Calls.mono (D11.out _) ?_
      rintro e x24 ⟨rfl, hb⟩
      replace hL0 := hL0.call hb
      clear hb D11 hweq
      replace hL0 := ((hL0.new rfl q 32).new (szA _ _) 0 32)
      generalize hweq : ((x24.alloc (.cells #[.int .u64 ((lo q : Nat) : Int), .string (hs q)] 32)).alloc (.cells #[.int .u64 ((lo 0 : Nat) : Int), .string (hs 0)] 32)) = x25 at hL0
      obtain ⟨p44, r44⟩ := hL0.get (x3.heap.size) a (by (repeat (first | with_reducible exact List.mem_cons_self | with_reducible refine List.mem_cons_of_mem _ ?_)))
      obtain ⟨p45, r45⟩ := hL0.get (x3.heap.size + 1) b (by (repeat (first | with_reducible exact List.mem_cons_self | with_reducible refine List.mem_cons_of_mem _ ?_)))
      rcases Nat.eq_zero_or_pos b with hb0 | hb0
      · have D12 : ∀ w, Calls Tryz.prog 57 #[natV a, natV b] w fun e w' => e = .returned (.tuple #[natV 0, natV 0, .bool false]) ∧ Below w.heap.size w w' := fun w => by rw [hb0]; exact div_zero a w
        replace D12 := Lib.hid D12
        clear hb0
        go_wp2_with fail
        with_reducible refine Calls.mono (D12.out _) ?_
        rintro e x26 ⟨rfl, hb⟩
        replace hL0 := hL0.call hb
        clear hb D12 hweq
        replace hL0 := ((hL0.new rfl 0 32).new (szA _ _) 0 32)
        generalize hweq : ((x26.alloc (.cells #[.int .u64 ((lo 0 : Nat) : Int), .string (hs 0)] 32)).alloc (.cells #[.int .u64 ((lo 0 : Nat) : Int), .string (hs 0)] 32)) = x27 at hL0
        go_upto_region 13 with fail
        clear hweq
        obtain ⟨α, iα, F, hF1, hF2⟩ := cls x27
        obtain ⟨q46, s46⟩ := cls_get hF1 hL0 (x3.heap.size + 1) b (by (repeat (first | with_reducible exact List.mem_cons_self | with_reducible refine List.mem_cons_of_mem _ ?_)))
        obtain ⟨q47, s47⟩ := cls_get hF1 hL0 (x26.heap.size + 1) 0 (by (repeat (first | with_reducible exact List.mem_cons_self | with_reducible refine List.mem_cons_of_mem _ ?_)))
        obtain ⟨q48, s48⟩ := cls_get hF1 hL0 (x5.heap.size) g (by (repeat (first | with_reducible exact List.mem_cons_self | with_reducible refine List.mem_cons_of_mem _ ?_)))
        refine region_cls (F := F) (by kernel_rfl) (by kernel_rfl) (cls_drew hF2) ?_
        repeat (go_big_quiet_step (first
          | fail))
        refine wpQuiet_nil ?_
        intro wq hwq
        obtain ⟨xq, rfl⟩ := hwq
        have hLq := hL0.call (hF1 xq)
        generalize F xq = wq at hLq ⊢
        replace hL0 := hLq
        clear hLq hF1 hF2
        obtain ⟨p49, r49⟩ := hL0.get (x22.heap.size + 1) 0 (by (repeat (first | with_reducible exact List.mem_cons_self | with_reducible refine List.mem_cons_of_mem _ ?_)))
        obtain ⟨p50, r50⟩ := hL0.get (x6.heap.size) 0 (by (repeat (first | with_reducible exact List.mem_cons_self | with_reducible refine List.mem_cons_of_mem _ ?_)))
        obtain ⟨p51, r51⟩ := hL0.get (x24.heap.size + 1) 0 (by (repeat (first | with_reducible exact List.mem_cons_self | with_reducible refine List.mem_cons_of_mem _ ?_)))
        obtain ⟨p52, r52⟩ := hL0.get (x22.heap.size) p (by (repeat (first | with_reducible exact List.mem_cons_self | with_reducible refine List.mem_cons_of_mem _ ?_)))
        obtain ⟨p53, r53⟩ := hL0.get (x24.heap.size) q (by (repeat (first | with_reducible exact List.mem_cons_self | with_reducible refine List.mem_cons_of_mem _ ?_)))
        go_wp2_with fail
        with_reducible refine Calls.mono (G15.out _) ?_
        rintro e x28 ⟨rfl, hb⟩
        replace hL0 := hL0.call hb
        clear hb G15
        go_wp2_with fail
        with_reducible refine Calls.mono (O15.out _) ?_
        rintro e x29 ⟨rfl, hb⟩
        replace hL0 := hL0.call hb
        clear hb O15
        have HW := Lib.hid (works_any _ (htab.below hL0.bl))
        go_wp2_with fail
        with_reducible refine Calls.mono HW.out ?_
        rintro e x30 ⟨rfl, hb⟩
        replace hL0 := hL0.call hb
        clear hb HW
        go_wp2_with fail
        exact bodyPost_ret (v := .bool true) (by simp [results, Tryz.results12, go_sem]) rfl ⟨rfl, hL0.bl⟩
      · have D12 := fun w => div_pos a b hb0 (by omega) w
        have hm : (a % b) < b := Nat.mod_lt _ hb0
        have dm : (digs (a % b)).length ≤ 12 := Nat.le_trans (digs_mono (Nat.le_of_lt hm)) dy
        have G13 := fun w => gcd_any b (a % b) (by omega) (by omega) w
        rw [Nat.gcd_comm b, ← Nat.gcd_rec, Nat.gcd_comm b, ← HG.out] at G13
        generalize a / b = q2 at *
        generalize a % b = r2 at *
        replace G13 := Lib.hid G13
        replace D12 := Lib.hid D12
        clear hb0 hm dm
        go_wp2_with fail
        with_reducible refine Calls.mono (D12.out _) ?_
        rintro e x31 ⟨rfl, hb⟩
        replace hL0 := hL0.call hb
        clear hb D12 hweq
        replace hL0 := ((hL0.new rfl q2 32).new (szA _ _) r2 32)
        generalize hweq : ((x31.alloc (.cells #[.int .u64 ((lo q2 : Nat) : Int), .string (hs q2)] 32)).alloc (.cells #[.int .u64 ((lo r2 : Nat) : Int), .string (hs r2)] 32)) = x32 at hL0
        go_upto_region 13 with fail
        clear hweq
        obtain ⟨α, iα, F, hF1, hF2⟩ := cls x32
        obtain ⟨q54, s54⟩ := cls_get hF1 hL0 (x3.heap.size + 1) b (by (repeat (first | with_reducible exact List.mem_cons_self | with_reducible refine List.mem_cons_of_mem _ ?_)))
        obtain ⟨q55, s55⟩ := cls_get hF1 hL0 (x31.heap.size + 1) r2 (by (repeat (first | with_reducible exact List.mem_cons_self | with_reducible refine List.mem_cons_of_mem _ ?_)))
        obtain ⟨q56, s56⟩ := cls_get hF1 hL0 (x5.heap.size) g (by (repeat (first | with_reducible exact List.mem_cons_self | with_reducible refine List.mem_cons_of_mem _ ?_)))
        refine region_cls (F := F) (by kernel_rfl) (by kernel_rfl) (cls_drew hF2) ?_
        repeat (go_big_quiet_step (first
          | (go_at_call 60; with_reducible exact cls_call hF1 hF2 G13.out _)))
        refine wpQuiet_nil ?_
        intro wq hwq
        obtain ⟨xq, rfl⟩ := hwq
        have hLq := hL0.call (hF1 xq)
        generalize F xq = wq at hLq ⊢
        replace hL0 := hLq
        clear hLq hF1 hF2
        obtain ⟨p57, r57⟩ := hL0.get (x22.heap.size + 1) 0 (by (repeat (first | with_reducible exact List.mem_cons_self | with_reducible refine List.mem_cons_of_mem _ ?_)))
        obtain ⟨p58, r58⟩ := hL0.get (x6.heap.size) 0 (by (repeat (first | with_reducible exact List.mem_cons_self | with_reducible refine List.mem_cons_of_mem _ ?_)))
        obtain ⟨p59, r59⟩ := hL0.get (x24.heap.size + 1) 0 (by (repeat (first | with_reducible exact List.mem_cons_self | with_reducible refine List.mem_cons_of_mem _ ?_)))
        obtain ⟨p60, r60⟩ := hL0.get (x22.heap.size) p (by (repeat (first | with_reducible exact List.mem_cons_self | with_reducible refine List.mem_cons_of_mem _ ?_)))
        obtain ⟨p61, r61⟩ := hL0.get (x24.heap.size) q (by (repeat (first | with_reducible exact List.mem_cons_self | with_reducible refine List.mem_cons_of_mem _ ?_)))
        go_wp2_with fail
        with_reducible refine Calls.mono (G15.out _) ?_
        rintro e x33 ⟨rfl, hb⟩
        replace hL0 := hL0.call hb
        clear hb G15
        go_wp2_with fail
        with_reducible refine Calls.mono (O15.out _) ?_
        rintro e x34 ⟨rfl, hb⟩
        replace hL0 := hL0.call hb
        clear hb O15
        have HW := Lib.hid (works_any _ (htab.below hL0.bl))
        go_wp2_with fail
        with_reducible refine Calls.mono HW.out ?_
        rintro e x35 ⟨rfl, hb⟩
        replace hL0 := hL0.call hb
        clear hb HW
        go_wp2_with fail
        exact bodyPost_ret (v := .bool true) (by simp [results, Tryz.results12, go_sem]) rfl ⟨rfl, hL0.bl⟩

theorem divisors_any (vx vy vz : Value) (lx ly lz : List Nat) (w : World) (htab : Tab w) (hx : Ws w vx lx) (hy : Ws w vy ly) (hz : Ws w vz lz) :
    Calls Tryz.prog 12 #[vx, vy, vz] w fun e w' => e = .returned (.bool true) ∧ Below w.heap.size w w' := by
  by_cases h : 12 < lx.length ∨ 12 < ly.length ∨ 6 < lz.length
  · obtain ⟨ax, cx, rfl⟩ := hx.form
    obtain ⟨ay, cy, rfl⟩ := hy.form
    obtain ⟨az, cz, rfl⟩ := hz.form
    exact divisors_big ax ay az cx cy cz _ _ _ h w htab
  · exact divisors_small vx vy vz lx ly lz w htab hx hy hz (by omega) (by omega) (by omega)
end Go.Proofs.YthehcjfmokabfaaGreatDoor
