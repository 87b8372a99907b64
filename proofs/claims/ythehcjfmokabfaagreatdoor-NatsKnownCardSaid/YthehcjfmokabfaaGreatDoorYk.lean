/-
  Layer 1, walks Zb: Parse.
-/
import Derived.Test.YthehcjfmokabfaaGreatDoorYi
import Derived.Test.YthehcjfmokabfaaGreatDoorYj
set_option linter.unusedVariables false
set_option linter.unusedSimpArgs false
namespace Go.Proofs.YthehcjfmokabfaaGreatDoor
open Go.RowKit
attribute [local irreducible] lo hs sm s64 c64 d64 b64 mh ml pd pc qd qc val hiB str cmpI srD lz nb isq decB

set_option maxHeartbeats 2000000 in
set_option maxRecDepth 100000 in
theorem parse_long (l : List UInt8) (h : 4096 < l.length) (hl : l.length ≤ 1000000) (w : World) :
    Calls Tryz.prog 63 #[.string (st l)] w fun e w' => e = .returned (.tuple #[natV 0, .int .i64 3]) ∧ Below w.heap.size w w' := by
  obtain ⟨w0, hw0, hA, hb0, hsz0⟩ := boxes1 w (.int .u64 0) (.string ⟨#[]⟩) 32
  obtain ⟨a0, a1, af⟩ := id hA
  have h1 : decide ((4096 : Int) < ((st l).size : Int)) = true := decide_eq_true (by rw [st_size]; omega)
  have h2 : decide (4096 < (st l).size) = true := decide_eq_true (by rw [st_size]; omega)
  go_enter Tryz.func63, Tryz.ntmps63
  go_wp2_with fail
  exact bodyPost_ret (v := .tuple #[natV 0, .int .i64 3]) (by rw [natV_zero]; simp [results, Tryz.results63, go_sem, a0, a1]) rfl ⟨rfl, (hb0.setCell (by simp <;> omega) _).setCell (by simp <;> omega) _⟩

set_option maxHeartbeats 2000000 in
set_option maxRecDepth 100000 in
theorem parse_form (l : List UInt8) (h : l.length ≤ 4096) (hd : ¬ isDec l) (w : World) :
    Calls Tryz.prog 63 #[.string (st l)] w fun e w' => e = .returned (.tuple #[natV 0, .int .i64 4]) ∧ Below w.heap.size w w' := by
  obtain ⟨w0, hw0, hA, hb0, hsz0⟩ := boxes1 w (.int .u64 0) (.string ⟨#[]⟩) 32
  have h1 : decide ((4096 : Int) < ((st l).size : Int)) = false := decide_eq_false (by rw [st_size]; omega)
  have h2 : decide (4096 < (st l).size) = false := decide_eq_false (by rw [st_size]; omega)
  have HF := Lib.hid (fun w => form_any l (by omega) w)
  rw [decB_false hd] at HF
  go_enter Tryz.func63, Tryz.ntmps63
  go_wp2_with fail
  refine (HF.out _).mono ?_
  rintro e w1 ⟨rfl, hb1⟩
  obtain ⟨a0, a1, af⟩ := hA.below hb1 hsz0
  have hB1 := hb0.trans (hb1.mono hb0.size)
  go_wp2_with fail
  exact bodyPost_ret (v := .tuple #[natV 0, .int .i64 4]) (by rw [natV_zero]; simp [results, Tryz.results63, go_sem, a0, a1]) rfl ⟨rfl, (hB1.setCell (by simp <;> omega) _).setCell (by simp <;> omega) _⟩

/-- The length of a string, out of its value. -/
def strL : Value → Nat
  | .string s => s.size
  | _ => 0

theorem row_below {w w' : World} {B n : Nat} {v : Value} {xs : List Value} (h : w.ownsRow B 30 1 v n xs) (hb : Below w.heap.size w w') : w'.ownsRow B 30 1 v n xs := by
  refine h.kept (row := none) ⟨hb.os, hb.tape, hb.output, hb.size, fun k hk _ => hb.block k hk⟩ ?_
  cases v.ownBlock with
  | none => exact .inl rfl
  | some x => exact .inr (by simp)

theorem pack_row (B n : Nat) (v : Value) (l : List Nat) (hn : l.length = n) (hd : Dig l) (hl : n ≤ 1000000) (w : World) (h : w.ownsRow B 30 1 v n (l.map u64V)) :
    Calls Tryz.prog 94 #[v] w fun e w' => e = .returned (natV (val l)) ∧ Below w.heap.size w w' := by
  subst hn
  rcases id h with ⟨h1, ⟨rfl, h0⟩ | ⟨g, c, cur, rfl, hb, hg, hnc, hcm, hcs, ht⟩⟩
  · have : l = [] := List.length_eq_zero_iff.1 h0
    subst this
    rw [show val [] = 0 by simp [val]]
    exact pack_nil w
  · refine pack_any g 0 c l hd (by omega) hnc w (Array.getElem?_eq_some_iff.1 hg).1 fun i hi => ?_
    rw [Nat.zero_add, h.cellAt i (by omega), List.getElem?_map, List.getElem?_eq_getElem hi]
    rfl

theorem ba_ext {a b : ByteArray} (h : a.data = b.data) : a = b := by
  cases a; cases b; simp_all
theorem st_take (r : List UInt8) (k : Nat) : (st r).extract 0 k = st (r.take k) := by
  apply ba_ext
  rw [ByteArray.data_extract]
  show r.toArray.extract 0 k = (r.take k).toArray
  simp
theorem st_drop (r : List UInt8) (k : Nat) : (st r).extract k (st r).size = st (r.drop k) := by
  apply ba_ext
  rw [ByteArray.data_extract]
  show r.toArray.extract k r.length = (r.drop k).toArray
  simp
  exact List.take_of_length_le (by rw [List.length_drop]; exact Nat.le_refl _)

set_option maxHeartbeats 2000000 in
set_option maxRecDepth 100000 in
theorem parse_ok (l : List UInt8) (h : l.length ≤ 4096) (hd : isDec l) (w : World) :
    Calls Tryz.prog 63 #[.string (st l)] w fun e w' => e = .returned (.tuple #[natV (dval l), .int .i64 0]) ∧ Below w.heap.size w w' := by
  obtain ⟨w0, hw0, hA, hb0, hsz0⟩ := boxes1 w (.int .u64 0) (.string ⟨#[]⟩) 32
  have h1 : decide ((4096 : Int) < ((st l).size : Int)) = false := decide_eq_false (by rw [st_size]; omega)
  have h2 : decide (4096 < (st l).size) = false := decide_eq_false (by rw [st_size]; omega)
  have HF := Lib.hid (fun w => form_any l (by omega) w)
  rw [decB_true hd] at HF
  go_enter Tryz.func63, Tryz.ntmps63
  go_wp2_with fail
  refine (HF.out _).mono ?_
  rintro e w1 ⟨rfl, hb1⟩
  have hA1 := hA.below hb1 hsz0
  have hB1 := hb0.trans (hb1.mono hb0.size)
  have hs1 := Nat.lt_of_lt_of_le hsz0 hb1.size
  clear hA hb1 hb0 hw0 hsz0 h1 h2 HF
  obtain ⟨K, hK⟩ : ∃ K, K = w.heap.size := ⟨_, rfl⟩
  go_wp2_with fail
  go_loopw [0, 4] (fun x y wr => ∃ (j : Nat) (dl : List Nat), j ≤ l.length ∧ x = .string (st (l.drop j)) ∧ Dig dl ∧ val dl = dval (l.take j) ∧ dl.length ≤ j ∧ wr.ownsRow (K + 1) 30 1 y dl.length (dl.map u64V) ∧ Bx wr w.heap.size (.int .u64 0) (.string ⟨#[]⟩) ∧ Below w.heap.size w wr ∧ w.heap.size < wr.heap.size) (fun x _ _ => strL x)
  case atStart => exact ⟨0, [], Nat.zero_le _, rfl, Dig.nil, by rw [List.take_zero, dval_nil]; unfold val; rfl, Nat.zero_le _, ⟨rfl, .inl ⟨rfl, rfl⟩⟩, hA1, hB1, hs1⟩
  case round =>
    obtain ⟨j, dl, hj, rfl, hdl, hv, hjl, hown, hAr, hBr, hsr⟩ := hrel
    clear hA1 hB1 hs1
    obtain ⟨r, hr⟩ : ∃ r, r = l.drop j := ⟨_, rfl⟩
    have hrl : r.length = l.length - j := by rw [hr, List.length_drop]
    rw [← hr]
    rcases Nat.eq_zero_or_pos r.length with h0 | h0
    · have hrn : r = [] := List.length_eq_zero_iff.1 h0
      have hjn : j = l.length := by omega
      rw [hjn, List.take_length] at hv
      have HP := Lib.hid (pack_row _ _ _ dl rfl hdl (by omega) wr hown)
      obtain ⟨V, hV⟩ : ∃ V, V = dval l := ⟨_, rfl⟩
      rw [hv, ← hV] at HP
      have HVV := Lib.hid hV
      clear hV
      subst hrn
      have hz : (st []).size = 0 := rfl
      clear hr hown hv hdl hj hjl
      go_wp2_with fail
      refine (HP.out).mono ?_
      rintro e w2 ⟨rfl, hb2⟩
      obtain ⟨a0, a1, af⟩ := hAr.below hb2 hsr
      have hB2 := hBr.trans (hb2.mono hBr.size)
      clear HP hb2 hAr
      go_wp2_with fail
      exact bodyPost_ret (v := .tuple #[natV V, .int .i64 0]) (by simp [results, Tryz.results63, go_sem, a0, a1]) rfl ⟨by rw [HVV.out], (hB2.setCell (by simp <;> omega) _).setCell (by simp <;> omega) _⟩
    · obtain ⟨k, hk⟩ : ∃ k, k = min r.length 19 := ⟨_, rfl⟩
      have hk1 : 0 < k := by omega
      have hk2 : k ≤ r.length := by omega
      have hk3 : k ≤ 19 := by omega
      have g1 : decide ((0 : Int) < ((st r).size : Int)) = true := decide_eq_true (by rw [st_size]; omega)
      have g2 : decide (0 < (st r).size) = true := decide_eq_true (by rw [st_size]; omega)
      have HC := Lib.hid (fun w => chunkOf_any (r.take k) (fun c hc => hd.1 c (List.mem_of_mem_drop (by rw [← hr]; exact List.mem_of_mem_take hc))) (by rw [List.length_take]; omega) w)
      have hr' := hr
      have hx1 := st_take r k
      have hx2 := st_drop r k
      have hm1 : min ((st r).size : Int) 19 = (k : Int) := by rw [st_size]; omega
      have hk4 : (k : Int) ≤ ((st r).size : Int) := by rw [st_size]; omega
      clear hr
      have htl : (r.take k).length = k := by rw [List.length_take]; omega
      rw [htl] at HC
      have hfB : 10 ^ k < Bs := Nat.lt_of_le_of_lt (pow10_le k hk3) (by unfold CB Bs; omega)
      have hsB : dval (r.take k) < Bs := by
        have h1 := dval_lt (l := r.take k) (fun c hc => hd.1 c (List.mem_of_mem_drop (by rw [← hr']; exact List.mem_of_mem_take hc)))
        rw [htl] at h1
        omega
      have hvn : dval (l.take (j + k)) = val dl * 10 ^ k + dval (r.take k) := by rw [hv, List.take_add, ← hr', dval_append, htl]
      have hrn : r.drop k = l.drop (j + k) := by rw [hr', List.drop_drop]
      generalize 10 ^ k = f at *
      generalize dval (r.take k) = s at *
      have HV := Lib.hid hvn
      have HN := Lib.hid hrn
      clear hk hr' hvn hrn htl hv
      go_wp2_with fail
      refine (HC.out _).mono ?_
      rintro e w2 ⟨rfl, hb2⟩
      have hown2 := row_below hown hb2
      have hA2 := hAr.below hb2 hsr
      have hB2 := hBr.trans (hb2.mono hBr.size)
      have hs2 := Nat.lt_of_lt_of_le hsr hb2.size
      have HT := Lib.hid (timesPlus_any (K + 1) f s dl.length _ dl rfl hdl hfB hsB (by omega) w2 (by omega) hown2)
      clear HC hown hb2 hAr hBr hsr hfB hsB
      go_wp2_with fail
      refine (HT.out).mono ?_
      rintro e w3 ⟨v', l', rfl, hl1, hl2, hl3, hown3, hb3⟩
      have hA3 := hA2.below hb3 (by omega)
      have hB3 := hB2.trans (hb3.mono (by omega))
      have hs3 := Nat.lt_of_lt_of_le hs2 hb3.size
      clear HT hown2 hA2 hB2 hs2 hb3
      go_wp2_with fail
      go_roundw
      case rel => exact ⟨j + k, l', by omega, by rw [HN.out], hl1, by rw [hl2, HV.out], by omega, hown3, hA3, hB3, hs3⟩
      case measure => simp only [strL, st_size, List.length_drop]; omega
end Go.Proofs.YthehcjfmokabfaaGreatDoor

/-
  Layer 1, law A: Made.
-/
namespace Go.Proofs.YthehcjfmokabfaaGreatDoor
open Go.RowKit
attribute [local irreducible] lo hs sm s64 c64 d64 b64 mh ml pd pc qd qc val hiB str cmpI srD lz nb isq decB

/-- The number with the given 32-bit words, the least first. -/
def made : List Nat → Nat
  | [] => 0
  | x :: l => x + 4294967296 * made l

theorem made_lt {l : List Nat} (h : ∀ x ∈ l, x < 4294967296) : made l < Bs ^ l.length := by
  induction l with
  | nil => exact Nat.one_pos
  | cons x l ih =>
    have h1 := ih fun y hy => h y (List.mem_cons_of_mem _ hy)
    have h2 := h x (List.mem_cons_self)
    rw [made, List.length_cons, Nat.pow_succ]
    have hB : 4294967296 * 2 ≤ Bs := by unfold Bs; omega
    have h3 : Bs ^ l.length * (4294967296 * 2) ≤ Bs ^ l.length * Bs := Nat.mul_le_mul_left _ hB
    generalize Bs ^ l.length = X at *
    generalize X * Bs = Y at *
    omega
theorem made_digs {l : List Nat} (h : ∀ x ∈ l, x < 4294967296) : (digs (made l)).length ≤ l.length := digs_length_iff.2 (made_lt h)

/-- A slice of 32-bit words. -/
structure Wd (w : World) (a : Addr) (l : List Nat) : Prop where
  lt : ∀ x ∈ l, x < 4294967296
  cell : ∀ (i : Nat) (h : i < l.length), w.cell? (a.add i) = some (.int .u32 ((l[i] : Nat) : Int))
  blk : a.block < w.heap.size
theorem Wd.below {w w' : World} {a : Addr} {l : List Nat} (h : Wd w a l) (hb : Below w.heap.size w w') : Wd w' a l :=
  ⟨h.lt, fun i hi => (hb.cell (p := a.add i) (by rw [show (a.add i).block = a.block from by unfold Addr.add; split <;> rfl]; exact h.blk)).trans (h.cell i hi), Nat.lt_of_lt_of_le h.blk hb.size⟩

theorem of_val (z : Int) (d : Nat) (hz : z = (d : Int)) (hd : d < Bs) (w : World) :
    Calls Tryz.prog 65 #[.int .u64 z] w fun e w' => e = .returned (natV d) ∧ Below w.heap.size w w' := by rw [hz]; exact of_any d hd w

/-- What Made's rounds keep. -/
structure MS (w w' : World) (a : Addr) (l : List Nat) (m : Nat) : Prop where
  O : Bx w' (w.heap.size + 1) (.int .u64 ((lo m : Nat) : Int)) (.string (hs m))
  R : Bx w' w.heap.size (.int .u64 0) (.string ⟨#[]⟩)
  W : Wd w' a l
  sz : w.heap.size + 2 ≤ w'.heap.size
  bl : Below w.heap.size w w'
theorem MS.below {w w' w'' : World} {a : Addr} {l : List Nat} {m : Nat} (h : MS w w' a l m) (hb : Below w'.heap.size w' w'') : MS w w'' a l m :=
  ⟨h.O.below hb (by have := h.sz; omega), h.R.below hb (by have := h.sz; omega), h.W.below hb, Nat.le_trans h.sz hb.size, h.bl.trans (hb.mono (by have := h.sz; omega))⟩
theorem MS.drew {w w' : World} {a : Addr} {l : List Nat} {m : Nat} (h : MS w w' a l m) : MS w w'.drew a l m := ⟨h.O, h.R, ⟨h.W.lt, h.W.cell, h.W.blk⟩, h.sz, h.bl.drew⟩
theorem MS.put {w w' : World} {a : Addr} {l : List Nat} {m : Nat} (h : MS w w' a l m) (ha : a.block < w.heap.size) (m' : Nat) :
    MS w ((w'.setCell ⟨w.heap.size + 1, 0, none⟩ (.int .u64 ((lo m' : Nat) : Int))).setCell ⟨w.heap.size + 1, 1, none⟩ (.string (hs m'))) a l m' := by
  have hb : Below (w.heap.size + 1) w' ((w'.setCell ⟨w.heap.size + 1, 0, none⟩ (.int .u64 ((lo m' : Nat) : Int))).setCell ⟨w.heap.size + 1, 1, none⟩ (.string (hs m'))) := ((Below.refl _ _).setCell (p := ⟨w.heap.size + 1, 0, none⟩) (Nat.le_refl _) _).setCell (p := ⟨w.heap.size + 1, 1, none⟩) (Nat.le_refl _) _
  refine ⟨put2 h.O _ _, h.R.below hb (by omega), ⟨h.W.lt, fun i hi => ?_, Nat.lt_of_lt_of_le h.W.blk hb.size⟩, Nat.le_trans h.sz hb.size, h.bl.trans (hb.mono (by omega))⟩
  exact (hb.cell (p := a.add i) (by rw [show (a.add i).block = a.block from by unfold Addr.add; split <;> rfl]; omega)).trans (h.W.cell i hi)
theorem MS.cells {w w' : World} {a : Addr} {l : List Nat} {m : Nat} (h : MS w w' a l m) (i x : Nat) (hi : i < l.length) (hx : x = l[i]) :
    w'.cell? ⟨w.heap.size + 1, 0, none⟩ = some (.int .u64 ((lo m : Nat) : Int)) ∧ w'.cell? ⟨w.heap.size + 1, 1, none⟩ = some (.string (hs m)) ∧ w'.cell? (a.add i) = some (.int .u32 (x : Int)) :=
  ⟨h.O.1, h.O.2.1, by rw [hx]; exact h.W.cell i hi⟩

set_option maxHeartbeats 2000000 in
set_option maxRecDepth 100000 in
theorem made_row (a : Addr) (c : Nat) (l : List Nat) (hl : l.length ≤ 1000) (w : World) (hw : Wd w a l) :
    Calls Tryz.prog 48 #[.slice (some a) l.length c] w fun e w' => e = .returned (natV (made l)) ∧ Below w.heap.size w w' := by
  obtain ⟨w0, hw0, hR, hO, hb0, hsz0⟩ := boxes2 w (.int .u64 0) (.string ⟨#[]⟩) (.int .u64 0) (.string ⟨#[]⟩) 32
  obtain ⟨n, hn⟩ : ∃ n, n = l.length := ⟨_, rfl⟩
  have hln := hl
  rw [← hn] at hl
  have hM0 : MS w w0 a l 0 := ⟨by rw [lo_small Bs_pos, hs_small Bs_pos]; exact hO, hR, hw.below hb0, hsz0, hb0⟩
  have hab := hw.blk
  have hlt := hw.lt
  clear hw hR hO hb0 hsz0
  go_enter Tryz.func48, Tryz.ntmps48
  simp only [← hn]
  have HNn := Lib.hid hn
  have hst : made (l.drop n) = 0 := by rw [List.drop_eq_nil_of_le (by omega)]; rfl
  replace hst := Lib.hid hst
  clear hn
  go_wp2_with fail
  go_loopw [4] (fun z wr => ∃ (j m : Nat), j ≤ n ∧ z = .int .i64 ((j : Int) - 1) ∧ m = made (l.drop j) ∧ MS w wr a l m) (fun z _ => (intOf z + 1).toNat)
  case atStart => exact ⟨n, 0, Nat.le_refl _, by first | rfl | go_num, hst.out.symm, hM0⟩
  case round =>
    obtain ⟨j, m, hj, rfl, hm, hS⟩ := hrel
    clear hw0 hM0
    have hn := HNn.out
    cases j with
    | zero =>
      rw [List.drop_zero] at hm
      have HM := Lib.hid hm
      obtain ⟨⟨o0, o1, of⟩, ⟨r0, r1, rf⟩, -, hsz, hB⟩ := id hS
      clear hm hS hn
      go_wp2_with fail
      exact bodyPost_ret (v := natV m) (by simp [results, Tryz.results48, go_sem, r0, r1]) rfl ⟨by rw [HM.out], (hB.setCell (by simp <;> omega) _).setCell (by simp <;> omega) _⟩
    | succ i =>
      have hi : i < l.length := by omega
      obtain ⟨x, hx⟩ : ∃ x, x = l[i] := ⟨_, rfl⟩
      have hx32 : x < 4294967296 := by rw [hx]; exact hlt _ (List.getElem_mem hi)
      have hlm : (digs m).length ≤ 1000 := by
        rw [hm]; exact Nat.le_trans (made_digs fun y hy => hlt y (List.mem_of_mem_drop hy)) (by rw [List.length_drop]; omega)
      have hmd : made (l.drop i) = m * 4294967296 + x := by
        rw [List.drop_eq_getElem_cons hi, made, ← hm, ← hx]; omega
      have hdm : ∀ k, (digs (made (l.drop k))).length ≤ 1000 := fun k => Nat.le_trans (made_digs fun y hy => hlt y (List.mem_of_mem_drop hy)) (by rw [List.length_drop]; omega)
      have hxB : x < Bs := by unfold Bs; omega
      have hlx : (digs x).length ≤ 1 := digs_length_iff.2 (by rw [Nat.pow_one]; exact hxB)
      obtain ⟨C, hC⟩ : ∃ C, C = 4294967296 := ⟨_, rfl⟩
      have hCB : C < Bs := by rw [hC]; unfold Bs; omega
      have hlC : (digs C).length ≤ 1 := digs_length_iff.2 (by rw [Nat.pow_one]; exact hCB)
      have HO1 := Lib.hid (fun w => of_val 4294967296 C (by rw [hC]; rfl) hCB w)
      have HO2 := Lib.hid (fun w => of_any x hxB w)
      have HM := Lib.hid (fun w => mul_any m C (by omega) (by omega) w)
      have hlmc : (digs (m * C)).length ≤ 1000 + 1 := digs_mul_le hlm hlC
      have HA := fun w => add_any (m * C) x (by omega) (by omega) w
      rw [show m * C + x = made (l.drop i) by rw [hmd, hC]] at HA
      obtain ⟨m2, hm2⟩ : ∃ m2, m2 = made (l.drop i) := ⟨_, rfl⟩
      rw [← hm2] at HA
      generalize m * C = mc at *
      replace HA := Lib.hid HA
      have HM2 := Lib.hid hm2
      have hS' := hS.drew
      have h0 := hS.cells i x hi hx
      have h0' := hS'.cells i x hi hx
      have HX := Lib.hid hx
      have e1 : (((i + 1 : Nat) : Int) - 1) = (i : Int) := by omega
      have hwx : IntKind.u64.wrap (x : Int) = (x : Int) := wrapN _ (by omega)
      have hin : (i : Int) < (n : Int) := by omega
      clear hn hx hm hm2 hmd hdm hlm hlmc hlx hlC hC hCB hxB hx32 hlt
      rw [e1]
      go_wp2_with fail
      obtain ⟨o0, o1, of⟩ := id hS'.O
      obtain ⟨g0, g1, g2⟩ := id h0'
      go_region_with
        (first
          | (go_at_call 65; ((with_reducible refine Calls.mono (HO1.out _) ?_); rintro e w1 ⟨rfl, hb1⟩; have hS1 : MS w w1 a l m := (by first | exact hS'.below hb1 | exact hS1.below hb1 | exact hS2.below hb1 | exact hS3.below hb1 | exact hS4.below hb1); obtain ⟨o01, o11, of1⟩ := id hS1.O; have h1 := (hS1.cells i x hi HX.out).2.2))
          | (go_at_call 65; ((with_reducible refine Calls.mono (HO2.out _) ?_); rintro e w2 ⟨rfl, hb2⟩; have hS2 : MS w w2 a l m := (by first | exact hS'.below hb2 | exact hS1.below hb2 | exact hS2.below hb2 | exact hS3.below hb2 | exact hS4.below hb2); obtain ⟨o02, o12, of2⟩ := id hS2.O; have h2 := (hS2.cells i x hi HX.out).2.2))
          | (go_at_call 58; ((with_reducible refine Calls.mono (HM.out _) ?_); rintro e w3 ⟨rfl, hb3⟩; have hS3 : MS w w3 a l m := (by first | exact hS'.below hb3 | exact hS1.below hb3 | exact hS2.below hb3 | exact hS3.below hb3 | exact hS4.below hb3); obtain ⟨o03, o13, of3⟩ := id hS3.O; have h3 := (hS3.cells i x hi HX.out).2.2))
          | (go_at_call 53; ((with_reducible refine Calls.mono (HA.out _) ?_); rintro e w4 ⟨rfl, hb4⟩; have hS4 : MS w w4 a l m := (by first | exact hS'.below hb4 | exact hS1.below hb4 | exact hS2.below hb4 | exact hS3.below hb4 | exact hS4.below hb4); obtain ⟨o04, o14, of4⟩ := id hS4.O; have h4 := (hS4.cells i x hi HX.out).2.2; have hS5 := hS4.put hab m2; have h5 := (hS5.cells i x hi HX.out).2.2)))
      all_goals (
        have HS5 := Lib.hid hS5
        clear hS5 h5 hS h0 h0' hS' o0 o1 of
        go_wp2_with fail
        go_roundw
        case rel => exact ⟨i, m2, by omega, by first | rfl | go_num, HM2.out, HS5.out⟩
        case measure => simp [intOf])

set_option maxHeartbeats 2000000 in
set_option maxRecDepth 100000 in
theorem made_nil (ao : Option Addr) (c : Nat) (w : World) :
    Calls Tryz.prog 48 #[.slice ao 0 c] w fun e w' => e = .returned (natV 0) ∧ Below w.heap.size w w' := by
  obtain ⟨w0, hw0, hR, hO, hb0, hsz0⟩ := boxes2 w (.int .u64 0) (.string ⟨#[]⟩) (.int .u64 0) (.string ⟨#[]⟩) 32
  obtain ⟨o0, o1, of⟩ := id hO
  obtain ⟨r0, r1, rf⟩ := id hR
  rw [natV_zero]
  go_enter Tryz.func48, Tryz.ntmps48
  go_wp2_with fail
  go_loopw [4] (fun z wr => z = .int .i64 (-1) ∧ wr = w0) (fun z _ => (intOf z + 1).toNat)
  case atStart => exact ⟨rfl, rfl⟩
  case round =>
    obtain ⟨rfl, rfl⟩ := hrel
    go_wp2_with fail
    exact bodyPost_ret (v := .agg #[.int .u64 0, .string ⟨#[]⟩]) (by simp [results, Tryz.results48, go_sem, r0, r1]) rfl ⟨rfl, (hb0.setCell (by simp <;> omega) _).setCell (by simp <;> omega) _⟩

/-- A slice of words, nil or not. -/
def Ws (w : World) (v : Value) (l : List Nat) : Prop := (∃ ao c, v = .slice ao 0 c ∧ l = []) ∨ ∃ a c, v = .slice (some a) l.length c ∧ Wd w a l
theorem Ws.below {w w' : World} {v : Value} {l : List Nat} (h : Ws w v l) (hb : Below w.heap.size w w') : Ws w' v l := by
  rcases h with h | ⟨a, c, h1, h2⟩
  · exact .inl h
  · exact .inr ⟨a, c, h1, h2.below hb⟩
theorem Ws.lt {w : World} {v : Value} {l : List Nat} (h : Ws w v l) : ∀ x ∈ l, x < 4294967296 := by
  rcases h with ⟨_, _, _, rfl⟩ | ⟨a, c, _, h2⟩
  · intro x hx; cases hx
  · exact h2.lt
theorem made_any (v : Value) (l : List Nat) (hl : l.length ≤ 1000) (w : World) (h : Ws w v l) :
    Calls Tryz.prog 48 #[v] w fun e w' => e = .returned (natV (made l)) ∧ Below w.heap.size w w' := by
  rcases h with ⟨ao, c, rfl, rfl⟩ | ⟨a, c, rfl, h2⟩
  · exact made_nil ao c w
  · exact made_row a c l hl w h2
end Go.Proofs.YthehcjfmokabfaaGreatDoor

/-
  Layer 1, law: the boxes of a law's numbers.
-/
namespace Go.Proofs.YthehcjfmokabfaaGreatDoor
open Go.RowKit
attribute [local irreducible] lo hs sm s64 c64 d64 b64 mh ml pd pc qd qc val hiB str cmpI srD lz nb isq decB

/-- Whether bytes are a decimal form, by computation. -/
def decC (l : List UInt8) : Bool := l.all (fun c => decide (48 ≤ c.toNat) && decide (c.toNat ≤ 57)) && (l == [48] || (!l.isEmpty && l.head? != some 48))
theorem decC_iff (l : List UInt8) : decC l = true ↔ isDec l := by
  unfold decC isDec isDig
  simp only [Bool.and_eq_true, List.all_eq_true, decide_eq_true_eq, Bool.or_eq_true, beq_iff_eq, Bool.not_eq_true', bne_iff_ne, List.isEmpty_eq_false_iff]
theorem isDec_yes {l : List UInt8} (h : decC l = true) : isDec l := (decC_iff l).1 h
theorem isDec_no {l : List UInt8} (h : decC l = false) : ¬ isDec l := fun h' => by rw [(decC_iff l).2 h'] at h; cases h

/-- A box that holds a number. -/
structure NX (w : World) (k n : Nat) : Prop where
  b : Bx w k (.int .u64 ((lo n : Nat) : Int)) (.string (hs n))
  lt : k < w.heap.size
theorem NX.below {w w' : World} {k n : Nat} (h : NX w k n) (hb : Below w.heap.size w w') : NX w' k n := ⟨h.b.below hb h.lt, Nat.lt_of_lt_of_le h.lt hb.size⟩

/-- The boxes that a call has made, with what they hold. -/
structure NL (w0 W : World) (L : List (Nat × Nat)) : Prop where
  bl : Below w0.heap.size w0 W
  all : ∀ p ∈ L, w0.heap.size ≤ p.1 ∧ NX W p.1 p.2
  nd : (L.map (·.1)).Nodup

theorem NL.start (w : World) : NL w w [] := ⟨Below.refl _ _, (fun p hp => by cases hp), List.nodup_nil⟩
theorem NL.call {w0 W W' : World} {L : List (Nat × Nat)} (h : NL w0 W L) (hb : Below W.heap.size W W') : NL w0 W' L :=
  ⟨h.bl.trans (hb.mono h.bl.size), fun p hp => ⟨(h.all p hp).1, (h.all p hp).2.below hb⟩, h.nd⟩
theorem NL.drew {w0 W : World} {L : List (Nat × Nat)} (h : NL w0 W L) : NL w0 W.drew L :=
  ⟨h.bl.drew, fun p hp => ⟨(h.all p hp).1, (h.all p hp).2.b, (h.all p hp).2.lt⟩, h.nd⟩
theorem szA (W : World) (o : Obj) : (W.alloc o).heap.size = W.heap.size + 1 := World.size_alloc _ _
theorem szAD (W : World) (o : Obj) : (W.drew.alloc o).heap.size = W.heap.size + 1 := World.size_alloc _ _
theorem szD (W : World) : W.drew.heap.size = W.heap.size := rfl
theorem NL.new {w0 W : World} {L : List (Nat × Nat)} {K : Nat} (h : NL w0 W L) (hK : W.heap.size = K) (n : Nat) (t : TypeId) : NL w0 (W.alloc (.cells #[.int .u64 ((lo n : Nat) : Int), .string (hs n)] t)) ((K, n) :: L) := by
  subst hK
  obtain ⟨w1, h1, h2, h3, h4⟩ := boxes1 W (.int .u64 ((lo n : Nat) : Int)) (.string (hs n)) t
  rw [h1]
  refine ⟨h.bl.trans (h3.mono h.bl.size), fun p hp => ?_, ?_⟩
  · rcases List.mem_cons.1 hp with rfl | hp
    · exact ⟨h.bl.size, h2, h4⟩
    · exact ⟨(h.all p hp).1, (h.all p hp).2.below h3⟩
  · rw [List.map_cons, List.nodup_cons]
    refine ⟨fun hm => ?_, h.nd⟩
    obtain ⟨p, hp, he⟩ := List.mem_map.1 hm
    have := (h.all p hp).2.lt
    simp only at he
    omega
theorem NL.new0 {w0 W : World} {L : List (Nat × Nat)} {K : Nat} (h : NL w0 W L) (hK : W.heap.size = K) (t : TypeId) : NL w0 (W.alloc (.cells #[.int .u64 0, .string ⟨#[]⟩] t)) ((K, 0) :: L) := by
  have := h.new hK 0 t
  rw [lo_small Bs_pos, hs_small Bs_pos] at this
  exact this
theorem NL.tail {w0 W : World} {L : List (Nat × Nat)} {x : Nat × Nat} (h : NL w0 W (x :: L)) : NL w0 W L :=
  ⟨h.bl, fun p hp => h.all p (List.mem_cons_of_mem _ hp), (List.nodup_cons.1 h.nd).2⟩
theorem NL.swap {w0 W : World} {L : List (Nat × Nat)} {x y : Nat × Nat} (h : NL w0 W (x :: y :: L)) : NL w0 W (y :: x :: L) := by
  refine ⟨h.bl, fun p hp => h.all p ?_, ?_⟩
  · simp only [List.mem_cons] at hp ⊢
    rcases hp with h | h | h
    · exact .inr (.inl h)
    · exact .inl h
    · exact .inr (.inr h)
  · have := h.nd
    simp only [List.map_cons, List.nodup_cons, List.mem_cons, not_or] at this ⊢
    exact ⟨⟨fun e => this.1.1 e.symm, this.2.1⟩, this.1.2, this.2.2⟩
theorem NL.put0 {w0 W : World} {L : List (Nat × Nat)} {k n0 : Nat} (h : NL w0 W ((k, n0) :: L)) (n : Nat) :
    NL w0 ((W.setCell ⟨k, 0, none⟩ (.int .u64 ((lo n : Nat) : Int))).setCell ⟨k, 1, none⟩ (.string (hs n))) ((k, n) :: L) := by
  have hk := h.all (k, n0) (List.mem_cons_self)
  have hb : ∀ B, B ≤ k → Below B W ((W.setCell ⟨k, 0, none⟩ (.int .u64 ((lo n : Nat) : Int))).setCell ⟨k, 1, none⟩ (.string (hs n))) := fun B hB =>
    ((Below.refl _ _).setCell (p := ⟨k, 0, none⟩) hB _).setCell (p := ⟨k, 1, none⟩) hB _
  have hsz : W.heap.size = ((W.setCell ⟨k, 0, none⟩ (.int .u64 ((lo n : Nat) : Int))).setCell ⟨k, 1, none⟩ (.string (hs n))).heap.size := by simp [World.setCell]
  refine ⟨h.bl.trans (hb _ hk.1), fun p hp => ?_, h.nd⟩
  rcases List.mem_cons.1 hp with rfl | hp
  · exact ⟨hk.1, put2 hk.2.b _ _, by rw [← hsz]; exact hk.2.lt⟩
  · have hp' := h.all p (List.mem_cons_of_mem _ hp)
    have hne : p.1 ≠ k := fun e => by
      have := (List.nodup_cons.1 h.nd).1
      exact this (List.mem_map.2 ⟨p, hp, e⟩)
    refine ⟨hp'.1, ?_, by rw [← hsz]; exact hp'.2.lt⟩
    obtain ⟨c0, c1, cf⟩ := hp'.2.b
    exact ⟨by rw [World.cell?_setCell_other _ _ _ _ (by first | exact fun e => hne (congrArg Addr.block e) | exact fun e => hne (congrArg Addr.block e).symm), World.cell?_setCell_other _ _ _ _ (by first | exact fun e => hne (congrArg Addr.block e) | exact fun e => hne (congrArg Addr.block e).symm)]; exact c0,
      by rw [World.cell?_setCell_other _ _ _ _ (by first | exact fun e => hne (congrArg Addr.block e) | exact fun e => hne (congrArg Addr.block e).symm), World.cell?_setCell_other _ _ _ _ (by first | exact fun e => hne (congrArg Addr.block e) | exact fun e => hne (congrArg Addr.block e).symm)]; exact c1,
      fun j => by simp [go_sem, cf j]⟩
theorem NL.put1 {w0 W : World} {L : List (Nat × Nat)} {k n0 : Nat} {x : Nat × Nat} (h : NL w0 W (x :: (k, n0) :: L)) (n : Nat) :
    NL w0 ((W.setCell ⟨k, 0, none⟩ (.int .u64 ((lo n : Nat) : Int))).setCell ⟨k, 1, none⟩ (.string (hs n))) (x :: (k, n) :: L) := (h.swap.put0 n).swap
theorem NL.get {w0 W : World} {L : List (Nat × Nat)} (h : NL w0 W L) (k n : Nat) (hm : (k, n) ∈ L) : W.cell? ⟨k, 0, none⟩ = some (.int .u64 ((lo n : Nat) : Int)) ∧ W.cell? ⟨k, 1, none⟩ = some (.string (hs n)) :=
  ⟨(h.all _ hm).2.b.1, (h.all _ hm).2.b.2.1⟩
theorem NL.at0 {w0 W : World} {L : List (Nat × Nat)} {k n : Nat} (h : NL w0 W ((k, n) :: L)) : W.cell? ⟨k, 0, none⟩ = some (.int .u64 ((lo n : Nat) : Int)) ∧ W.cell? ⟨k, 1, none⟩ = some (.string (hs n)) := h.get k n (List.mem_cons_self)
theorem NL.frozen {w0 W : World} {L : List (Nat × Nat)} (h : NL w0 W L) (k n : Nat) (hm : (k, n) ∈ L) : ∀ j, W.frozen? ⟨k, j, none⟩ = false := (h.all _ hm).2.b.2.2
theorem NL.cells {w0 W : World} {L : List (Nat × Nat)} {k n : Nat} (hm : (k, n) ∈ L) (h : NL w0 W L) : W.cell? ⟨k, 0, none⟩ = some (.int .u64 ((lo n : Nat) : Int)) ∧ W.cell? ⟨k, 1, none⟩ = some (.string (hs n)) := h.get k n hm

/-- A box's number is none of these. -/
def ne (k : Nat) : List (Nat × Nat) → Prop
  | [] => True
  | p :: L => k ≠ p.1 ∧ p.1 ≠ k ∧ ne k L
theorem ne_of {k : Nat} : ∀ {L : List (Nat × Nat)}, k ∉ L.map (·.1) → ne k L
  | [], _ => trivial
  | p :: L, h => by
    simp only [List.map_cons, List.mem_cons, not_or] at h
    exact ⟨h.1, fun e => h.1 e.symm, ne_of h.2⟩
theorem alloc_cell {W : World} (o : Obj) {k j : Nat} (h : k < W.heap.size) : (W.alloc o).cell? ⟨k, j, none⟩ = W.cell? ⟨k, j, none⟩ := (Below.refl W.heap.size W |>.alloc (Nat.le_refl _) o).cell (p := ⟨k, j, none⟩) h
theorem alloc_frozen {W : World} (o : Obj) {k j : Nat} (h : k < W.heap.size) : (W.alloc o).frozen? ⟨k, j, none⟩ = W.frozen? ⟨k, j, none⟩ := (Below.refl W.heap.size W |>.alloc (Nat.le_refl _) o).frozen (p := ⟨k, j, none⟩) h
/-- A new box of two cells. -/
def nw : Prop := ∀ (W : World) (v0 v1 : Value) (t : TypeId), (W.alloc (.cells #[v0, v1] t)).cell? ⟨W.heap.size, 0, none⟩ = some v0 ∧ (W.alloc (.cells #[v0, v1] t)).cell? ⟨W.heap.size, 1, none⟩ = some v1 ∧ ∀ j, (W.alloc (.cells #[v0, v1] t)).frozen? ⟨W.heap.size, j, none⟩ = false
theorem nw_all : nw := fun W v0 v1 t => by
  obtain ⟨w0, h1, ⟨h2, h3, h4⟩, -, -⟩ := boxes1 W v0 v1 t
  rw [h1]; exact ⟨h2, h3, h4⟩
/-- What the boxes hold, one fact each. -/
def fc (W : World) : List (Nat × Nat) → Prop
  | [] => True
  | p :: L => W.cell? ⟨p.1, 0, none⟩ = some (.int .u64 ((lo p.2 : Nat) : Int)) ∧ W.cell? ⟨p.1, 1, none⟩ = some (.string (hs p.2)) ∧ (∀ j, W.frozen? ⟨p.1, j, none⟩ = false) ∧ (∀ o, (W.alloc o).cell? ⟨p.1, 0, none⟩ = some (.int .u64 ((lo p.2 : Nat) : Int))) ∧ (∀ o, (W.alloc o).cell? ⟨p.1, 1, none⟩ = some (.string (hs p.2))) ∧ (∀ o j, (W.alloc o).frozen? ⟨p.1, j, none⟩ = false) ∧ (p.1 ≠ W.heap.size ∧ W.heap.size ≠ p.1 ∧ p.1 ≠ W.heap.size + 1 ∧ W.heap.size + 1 ≠ p.1) ∧ ne p.1 L ∧ fc W L
theorem NL.fc {w0 W : World} : ∀ {L : List (Nat × Nat)}, NL w0 W L → fc W L
  | [], _ => trivial
  | p :: L, h => ⟨(h.all p List.mem_cons_self).2.b.1, (h.all p List.mem_cons_self).2.b.2.1, (h.all p List.mem_cons_self).2.b.2.2, (fun o => by rw [alloc_cell o (h.all p List.mem_cons_self).2.lt]; exact (h.all p List.mem_cons_self).2.b.1), (fun o => by rw [alloc_cell o (h.all p List.mem_cons_self).2.lt]; exact (h.all p List.mem_cons_self).2.b.2.1), (fun o j => by rw [alloc_frozen o (h.all p List.mem_cons_self).2.lt]; exact (h.all p List.mem_cons_self).2.b.2.2 j), (by have := (h.all p List.mem_cons_self).2.lt; omega), ne_of (List.nodup_cons.1 h.nd).1, h.tail.fc⟩

/-- The cells of boxes, one behind the other. -/
def cl (W : World) : List (Nat × Nat) → Prop
  | [] => True
  | [p] => W.cell? ⟨p.1, 0, none⟩ = some (.int .u64 ((lo p.2 : Nat) : Int)) ∧ W.cell? ⟨p.1, 1, none⟩ = some (.string (hs p.2))
  | p :: q :: L => W.cell? ⟨p.1, 0, none⟩ = some (.int .u64 ((lo p.2 : Nat) : Int)) ∧ W.cell? ⟨p.1, 1, none⟩ = some (.string (hs p.2)) ∧ cl W (q :: L)
theorem cl_of {W : World} : ∀ {C : List (Nat × Nat)}, (∀ p ∈ C, W.cell? ⟨p.1, 0, none⟩ = some (.int .u64 ((lo p.2 : Nat) : Int)) ∧ W.cell? ⟨p.1, 1, none⟩ = some (.string (hs p.2))) → cl W C
  | [], _ => trivial
  | [p], h => h p List.mem_cons_self
  | p :: q :: L, h => ⟨(h p List.mem_cons_self).1, (h p List.mem_cons_self).2, cl_of fun r hr => h r (List.mem_cons_of_mem _ hr)⟩
/-- Old boxes, read in a newer world. -/
theorem NL.keep {w w0 W : World} {L C : List (Nat × Nat)} {L0 : List (Nat × Nat)} (h0 : NL w w0 L0) (hC : C ⊆ L0) (h : NL w0 W L) : cl W C :=
  cl_of fun p hp => by
    have hx := h0.all p (hC hp)
    exact ⟨(h.bl.cell (p := ⟨p.1, 0, none⟩) hx.2.lt).trans hx.2.b.1, (h.bl.cell (p := ⟨p.1, 1, none⟩) hx.2.lt).trans hx.2.b.2.1⟩
theorem NL.join {w w0 W : World} {L L0 : List (Nat × Nat)} (h0 : NL w w0 L0) (h : NL w0 W L) : NL w W (L ++ L0) := by
  refine ⟨h0.bl.trans (h.bl.mono h0.bl.size), fun p hp => ?_, ?_⟩
  · rcases List.mem_append.1 hp with hp | hp
    · exact ⟨Nat.le_trans h0.bl.size (h.all p hp).1, (h.all p hp).2⟩
    · exact ⟨(h0.all p hp).1, (h0.all p hp).2.below h.bl⟩
  · rw [List.map_append, List.nodup_append]
    refine ⟨h.nd, h0.nd, fun a ha b hb => ?_⟩
    obtain ⟨p, hp, rfl⟩ := List.mem_map.1 ha
    obtain ⟨r, hr, rfl⟩ := List.mem_map.1 hb
    have h1 := (h.all p hp).1
    have h2 := (h0.all r hr).2.lt
    omega
end Go.Proofs.YthehcjfmokabfaaGreatDoor
