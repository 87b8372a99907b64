/-
  Layer 1, walks Zb: Parse.
-/
import Derived.Test.YthehcjfmokabfaaDoorWu
import Derived.Test.YthehcjfmokabfaaDoorWz
import Derived.Test.YthehcjfmokabfaaDoorWza
set_option linter.unusedVariables false
set_option linter.unusedSimpArgs false
namespace Go.Proofs.YthehcjfmokabfaaDoor
open Go.RowKit
attribute [local irreducible] lo hs sm s64 c64 d64 b64 mh ml pd pc qd qc val hiB str cmpI srD lz nb isq decB

set_option maxHeartbeats 2000000 in
set_option maxRecDepth 100000 in
theorem parse_long (l : List UInt8) (h : 4096 < l.length) (hl : l.length ≤ 1000000) (w : World) :
    Calls Tryd.prog 31 #[.string (st l)] w fun e w' => e = .returned (.tuple #[natV 0, .int .i64 3]) ∧ Below w.heap.size w w' := by
  obtain ⟨w0, hw0, hA, hb0, hsz0⟩ := boxes1 w (.int .u64 0) (.string ⟨#[]⟩) 25
  obtain ⟨a0, a1, af⟩ := id hA
  have h1 : decide ((4096 : Int) < ((st l).size : Int)) = true := decide_eq_true (by rw [st_size]; omega)
  have h2 : decide (4096 < (st l).size) = true := decide_eq_true (by rw [st_size]; omega)
  go_enter Tryd.func31, Tryd.ntmps31
  go_wp2_with fail
  exact bodyPost_ret (v := .tuple #[natV 0, .int .i64 3]) (by rw [natV_zero]; simp [results, Tryd.results31, go_sem, a0, a1]) rfl ⟨rfl, (hb0.setCell (by simp <;> omega) _).setCell (by simp <;> omega) _⟩

set_option maxHeartbeats 2000000 in
set_option maxRecDepth 100000 in
theorem parse_form (l : List UInt8) (h : l.length ≤ 4096) (hd : ¬ isDec l) (w : World) :
    Calls Tryd.prog 31 #[.string (st l)] w fun e w' => e = .returned (.tuple #[natV 0, .int .i64 4]) ∧ Below w.heap.size w w' := by
  obtain ⟨w0, hw0, hA, hb0, hsz0⟩ := boxes1 w (.int .u64 0) (.string ⟨#[]⟩) 25
  have h1 : decide ((4096 : Int) < ((st l).size : Int)) = false := decide_eq_false (by rw [st_size]; omega)
  have h2 : decide (4096 < (st l).size) = false := decide_eq_false (by rw [st_size]; omega)
  have HF := Lib.hid (fun w => form_any l (by omega) w)
  rw [decB_false hd] at HF
  go_enter Tryd.func31, Tryd.ntmps31
  go_wp2_with fail
  refine (HF.out _).mono ?_
  rintro e w1 ⟨rfl, hb1⟩
  obtain ⟨a0, a1, af⟩ := hA.below hb1 hsz0
  have hB1 := hb0.trans (hb1.mono hb0.size)
  go_wp2_with fail
  exact bodyPost_ret (v := .tuple #[natV 0, .int .i64 4]) (by rw [natV_zero]; simp [results, Tryd.results31, go_sem, a0, a1]) rfl ⟨rfl, (hB1.setCell (by simp <;> omega) _).setCell (by simp <;> omega) _⟩

/-- The length of a string, out of its value. -/
def strL : Value → Nat
  | .string s => s.size
  | _ => 0

theorem row_below {w w' : World} {B n : Nat} {v : Value} {xs : List Value} (h : w.ownsRow B 23 1 v n xs) (hb : Below w.heap.size w w') : w'.ownsRow B 23 1 v n xs := by
  refine h.kept (row := none) ⟨hb.os, hb.tape, hb.output, hb.size, fun k hk _ => hb.block k hk⟩ ?_
  cases v.ownBlock with
  | none => exact .inl rfl
  | some x => exact .inr (by simp)

theorem pack_row (B n : Nat) (v : Value) (l : List Nat) (hn : l.length = n) (hd : Dig l) (hl : n ≤ 1000000) (w : World) (h : w.ownsRow B 23 1 v n (l.map u64V)) :
    Calls Tryd.prog 46 #[v] w fun e w' => e = .returned (natV (val l)) ∧ Below w.heap.size w w' := by
  subst hn
  rcases id h with ⟨h1, ⟨rfl, h0⟩ | ⟨g, c, cur, rfl, hb, hg, hnc, hcm, hcs, ht⟩⟩
  · have : l = [] := List.length_eq_zero_iff.1 h0
    subst this
    rw [show val [] = 0 by simp [val]]
    exact pack_nil w
  · refine pack_any g 0 c l hd (by omega) hnc w (Array.getElem?_eq_some_iff.1 hg).1 fun i hi => ?_
    rw [Nat.zero_add, h.cellAt i (by omega), List.getElem?_map, List.getElem?_eq_getElem hi]
    rfl

theorem ba_ext {a b : ByteArray} (h : a.data = b.data) : a = b := by
  cases a; cases b; simp_all
theorem st_take (r : List UInt8) (k : Nat) : (st r).extract 0 k = st (r.take k) := by
  apply ba_ext
  rw [ByteArray.data_extract]
  show r.toArray.extract 0 k = (r.take k).toArray
  simp
theorem st_drop (r : List UInt8) (k : Nat) : (st r).extract k (st r).size = st (r.drop k) := by
  apply ba_ext
  rw [ByteArray.data_extract]
  show r.toArray.extract k r.length = (r.drop k).toArray
  simp
  exact List.take_of_length_le (by rw [List.length_drop]; exact Nat.le_refl _)

set_option maxHeartbeats 2000000 in
set_option maxRecDepth 100000 in
theorem parse_ok (l : List UInt8) (h : l.length ≤ 4096) (hd : isDec l) (w : World) :
    Calls Tryd.prog 31 #[.string (st l)] w fun e w' => e = .returned (.tuple #[natV (dval l), .int .i64 0]) ∧ Below w.heap.size w w' := by
  obtain ⟨w0, hw0, hA, hb0, hsz0⟩ := boxes1 w (.int .u64 0) (.string ⟨#[]⟩) 25
  have h1 : decide ((4096 : Int) < ((st l).size : Int)) = false := decide_eq_false (by rw [st_size]; omega)
  have h2 : decide (4096 < (st l).size) = false := decide_eq_false (by rw [st_size]; omega)
  have HF := Lib.hid (fun w => form_any l (by omega) w)
  rw [decB_true hd] at HF
  go_enter Tryd.func31, Tryd.ntmps31
  go_wp2_with fail
  refine (HF.out _).mono ?_
  rintro e w1 ⟨rfl, hb1⟩
  have hA1 := hA.below hb1 hsz0
  have hB1 := hb0.trans (hb1.mono hb0.size)
  have hs1 := Nat.lt_of_lt_of_le hsz0 hb1.size
  clear hA hb1 hb0 hw0 hsz0 h1 h2 HF
  obtain ⟨K, hK⟩ : ∃ K, K = w.heap.size := ⟨_, rfl⟩
  go_wp2_with fail
  go_loopw [0, 4] (fun x y wr => ∃ (j : Nat) (dl : List Nat), j ≤ l.length ∧ x = .string (st (l.drop j)) ∧ Dig dl ∧ val dl = dval (l.take j) ∧ dl.length ≤ j ∧ wr.ownsRow (K + 1) 23 1 y dl.length (dl.map u64V) ∧ Bx wr w.heap.size (.int .u64 0) (.string ⟨#[]⟩) ∧ Below w.heap.size w wr ∧ w.heap.size < wr.heap.size) (fun x _ _ => strL x)
  case atStart => exact ⟨0, [], Nat.zero_le _, rfl, Dig.nil, by rw [List.take_zero, dval_nil]; unfold val; rfl, Nat.zero_le _, ⟨rfl, .inl ⟨rfl, rfl⟩⟩, hA1, hB1, hs1⟩
  case round =>
    obtain ⟨j, dl, hj, rfl, hdl, hv, hjl, hown, hAr, hBr, hsr⟩ := hrel
    clear hA1 hB1 hs1
    obtain ⟨r, hr⟩ : ∃ r, r = l.drop j := ⟨_, rfl⟩
    have hrl : r.length = l.length - j := by rw [hr, List.length_drop]
    rw [← hr]
    rcases Nat.eq_zero_or_pos r.length with h0 | h0
    · have hrn : r = [] := List.length_eq_zero_iff.1 h0
      have hjn : j = l.length := by omega
      rw [hjn, List.take_length] at hv
      have HP := Lib.hid (pack_row _ _ _ dl rfl hdl (by omega) wr hown)
      obtain ⟨V, hV⟩ : ∃ V, V = dval l := ⟨_, rfl⟩
      rw [hv, ← hV] at HP
      have HVV := Lib.hid hV
      clear hV
      subst hrn
      have hz : (st []).size = 0 := rfl
      clear hr hown hv hdl hj hjl
      go_wp2_with fail
      refine (HP.out).mono ?_
      rintro e w2 ⟨rfl, hb2⟩
      obtain ⟨a0, a1, af⟩ := hAr.below hb2 hsr
      have hB2 := hBr.trans (hb2.mono hBr.size)
      clear HP hb2 hAr
      go_wp2_with fail
      exact bodyPost_ret (v := .tuple #[natV V, .int .i64 0]) (by simp [results, Tryd.results31, go_sem, a0, a1]) rfl ⟨by rw [HVV.out], (hB2.setCell (by simp <;> omega) _).setCell (by simp <;> omega) _⟩
    · obtain ⟨k, hk⟩ : ∃ k, k = min r.length 19 := ⟨_, rfl⟩
      have hk1 : 0 < k := by omega
      have hk2 : k ≤ r.length := by omega
      have hk3 : k ≤ 19 := by omega
      have g1 : decide ((0 : Int) < ((st r).size : Int)) = true := decide_eq_true (by rw [st_size]; omega)
      have g2 : decide (0 < (st r).size) = true := decide_eq_true (by rw [st_size]; omega)
      have HC := Lib.hid (fun w => chunkOf_any (r.take k) (fun c hc => hd.1 c (List.mem_of_mem_drop (by rw [← hr]; exact List.mem_of_mem_take hc))) (by rw [List.length_take]; omega) w)
      have hr' := hr
      have hx1 := st_take r k
      have hx2 := st_drop r k
      have hm1 : min ((st r).size : Int) 19 = (k : Int) := by rw [st_size]; omega
      have hk4 : (k : Int) ≤ ((st r).size : Int) := by rw [st_size]; omega
      clear hr
      have htl : (r.take k).length = k := by rw [List.length_take]; omega
      rw [htl] at HC
      have hfB : 10 ^ k < Bs := Nat.lt_of_le_of_lt (pow10_le k hk3) (by unfold CB Bs; omega)
      have hsB : dval (r.take k) < Bs := by
        have h1 := dval_lt (l := r.take k) (fun c hc => hd.1 c (List.mem_of_mem_drop (by rw [← hr']; exact List.mem_of_mem_take hc)))
        rw [htl] at h1
        omega
      have hvn : dval (l.take (j + k)) = val dl * 10 ^ k + dval (r.take k) := by rw [hv, List.take_add, ← hr', dval_append, htl]
      have hrn : r.drop k = l.drop (j + k) := by rw [hr', List.drop_drop]
      generalize 10 ^ k = f at *
      generalize dval (r.take k) = s at *
      have HV := Lib.hid hvn
      have HN := Lib.hid hrn
      clear hk hr' hvn hrn htl hv
      go_wp2_with fail
      refine (HC.out _).mono ?_
      rintro e w2 ⟨rfl, hb2⟩
      have hown2 := row_below hown hb2
      have hA2 := hAr.below hb2 hsr
      have hB2 := hBr.trans (hb2.mono hBr.size)
      have hs2 := Nat.lt_of_lt_of_le hsr hb2.size
      have HT := Lib.hid (timesPlus_any (K + 1) f s dl.length _ dl rfl hdl hfB hsB (by omega) w2 (by omega) hown2)
      clear HC hown hb2 hAr hBr hsr hfB hsB
      go_wp2_with fail
      refine (HT.out).mono ?_
      rintro e w3 ⟨v', l', rfl, hl1, hl2, hl3, hown3, hb3⟩
      have hA3 := hA2.below hb3 (by omega)
      have hB3 := hB2.trans (hb3.mono (by omega))
      have hs3 := Nat.lt_of_lt_of_le hs2 hb3.size
      clear HT hown2 hA2 hB2 hs2 hb3
      go_wp2_with fail
      go_roundw
      case rel => exact ⟨j + k, l', by omega, by rw [HN.out], hl1, by rw [hl2, HV.out], by omega, hown3, hA3, hB3, hs3⟩
      case measure => simp only [strL, st_size, List.length_drop]; omega
end Go.Proofs.YthehcjfmokabfaaDoor
