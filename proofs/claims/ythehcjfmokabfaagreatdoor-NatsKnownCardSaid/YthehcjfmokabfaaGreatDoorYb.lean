/-
  Layer 1, walks D: blocks of bytes; putDigit, pack, twoDigits.
-/
import Derived.Test.YthehcjfmokabfaaGreatDoorYa
import Derived.WalkLawsBesides
set_option linter.unusedVariables false
set_option linter.unusedSimpArgs false
namespace Go.Proofs.YthehcjfmokabfaaGreatDoor
open Go.RowKit

def u8V (b : UInt8) : Value := .int .u8 (b.toNat : Int)
/-- Block g holds just these bytes. -/
def BB (w : World) (g : Nat) (l : List UInt8) : Prop := w.heap[g]? = some (.cells (l.map u8V).toArray 5 (0, 0))
section
variable {w w' : World} {g : Nat} {l : List UInt8}
theorem BB.lt (h : BB w g l) : g < w.heap.size := (Array.getElem?_eq_some_iff.1 h).1
theorem BB.cell (h : BB w g l) (i : Nat) (hi : i < l.length) : w.cell? ⟨g, i, none⟩ = some (.int .u8 (((l[i]'hi).toNat : Nat) : Int)) := by
  rw [cell_of_row w g i _ _ _ h]; simp [u8V, hi]
theorem BB.frozen (h : BB w g l) (i : Nat) : w.frozen? ⟨g, i, none⟩ = false := frozen_of_row w g i _ _ h
theorem BB.set (h : BB w g l) (i : Nat) (b : UInt8) : BB (w.setCell ⟨g, i, none⟩ (.int .u8 (b.toNat : Int))) g (l.set i b) := by
  unfold BB at *
  rw [heap_setCell_same w g i _ _ _ h]
  congr 2
  rw [List.map_set]; simp [u8V]
end
theorem split8 (l : List UInt8) (k : Nat) (h : k + 8 ≤ l.length) : ∃ y0 y1 y2 y3 y4 y5 y6 y7, l = l.take k ++ y0 :: y1 :: y2 :: y3 :: y4 :: y5 :: y6 :: y7 :: l.drop (k + 8) := by
  have h1 : (l.drop k).length = 8 + (l.length - k - 8) := by rw [List.length_drop]; omega
  have h2 : l.drop (k + 8) = (l.drop k).drop 8 := by rw [List.drop_drop]
  rw [h2]
  have h3 := List.take_append_drop k l
  generalize l.drop k = m at *
  match m, h1 with
  | y0 :: y1 :: y2 :: y3 :: y4 :: y5 :: y6 :: y7 :: r, _ => exact ⟨y0, y1, y2, y3, y4, y5, y6, y7, h3.symm⟩
  | [], h1 => simp at h1; omega
  | [_], h1 => simp at h1; omega
  | [_, _], h1 => simp at h1; omega
  | [_, _, _], h1 => simp at h1; omega
  | [_, _, _, _], h1 => simp at h1; omega
  | [_, _, _, _, _], h1 => simp at h1; omega
  | [_, _, _, _, _, _], h1 => simp at h1; omega
  | [_, _, _, _, _, _, _], h1 => simp at h1; omega
theorem set8 (A C : List UInt8) (y0 y1 y2 y3 y4 y5 y6 y7 b0 b1 b2 b3 b4 b5 b6 b7 : UInt8) (k : Nat) (h : A.length = k) :
    ((((((((A ++ y0 :: y1 :: y2 :: y3 :: y4 :: y5 :: y6 :: y7 :: C).set k b0).set (k + 1) b1).set (k + 2) b2).set (k + 3) b3).set (k + 4) b4).set (k + 5) b5).set (k + 6) b6).set (k + 7) b7 =
      A ++ b0 :: b1 :: b2 :: b3 :: b4 :: b5 :: b6 :: b7 :: C := by
  subst h
  simp [List.set_append_right, Nat.add_sub_cancel_left]
theorem u8_of (d : Nat) : (((UInt8.ofNat (d % 256)).toNat : Nat) : Int) = (d : Int) % 256 := by rw [ofNat_toNat8]; omega

set_option maxHeartbeats 2000000 in
theorem putDigit_any (g i : Nat) (d : Nat) (l : List UInt8) (hi : 8 * (i + 1) ≤ l.length) (hn : l.length ≤ maxLen) (w : World) (hB : BB w g l) :
    Calls Tryz.prog 126 #[.slice (some ⟨g, 0, none⟩) l.length l.length, .int .i64 (i : Int), .int .u64 (d : Int)] w fun e w' =>
      e = .returned (.tuple #[]) ∧ BB w' g (l.take (i * 8) ++ (be8 d ++ l.drop (i * 8 + 8))) ∧ Below g w w' := by
  unfold maxLen at hn
  have c0 := hB.cell (i * 8) (by omega)
  have c1 := hB.cell (i * 8 + 1) (by omega)
  have c2 := hB.cell (i * 8 + 2) (by omega)
  have c3 := hB.cell (i * 8 + 3) (by omega)
  have c4 := hB.cell (i * 8 + 4) (by omega)
  have c5 := hB.cell (i * 8 + 5) (by omega)
  have c6 := hB.cell (i * 8 + 6) (by omega)
  have c7 := hB.cell (i * 8 + 7) (by omega)
  have fz := hB.frozen
  have hfin : BB ((((((((w.setCell ⟨g, i * 8, none⟩ (.int .u8 ((d : Int) / 72057594037927936 % 256))).setCell ⟨g, i * 8 + 1, none⟩ (.int .u8 ((d : Int) / 281474976710656 % 256))).setCell ⟨g, i * 8 + 2, none⟩ (.int .u8 ((d : Int) / 1099511627776 % 256))).setCell
      ⟨g, i * 8 + 3, none⟩ (.int .u8 ((d : Int) / 4294967296 % 256))).setCell ⟨g, i * 8 + 4, none⟩ (.int .u8 ((d : Int) / 16777216 % 256))).setCell ⟨g, i * 8 + 5, none⟩ (.int .u8 ((d : Int) / 65536 % 256))).setCell ⟨g, i * 8 + 6, none⟩ (.int .u8 ((d : Int) / 256 % 256))).setCell
      ⟨g, i * 8 + 7, none⟩ (.int .u8 ((d : Int) % 256))) g (l.take (i * 8) ++ (be8 d ++ l.drop (i * 8 + 8))) := by
    have h := (((((((hB.set (i * 8) (UInt8.ofNat (d / 72057594037927936 % 256))).set (i * 8 + 1) (UInt8.ofNat (d / 281474976710656 % 256))).set (i * 8 + 2) (UInt8.ofNat (d / 1099511627776 % 256))).set (i * 8 + 3) (UInt8.ofNat (d / 4294967296 % 256))).set
      (i * 8 + 4) (UInt8.ofNat (d / 16777216 % 256))).set (i * 8 + 5) (UInt8.ofNat (d / 65536 % 256))).set (i * 8 + 6) (UInt8.ofNat (d / 256 % 256))).set (i * 8 + 7) (UInt8.ofNat (d % 256))
    simp only [u8_of, Int.natCast_ediv] at h
    obtain ⟨y0, y1, y2, y3, y4, y5, y6, y7, hl⟩ := split8 l (i * 8) (by omega)
    have e : ((((((((l.set (i * 8) (UInt8.ofNat (d / 72057594037927936 % 256))).set (i * 8 + 1) (UInt8.ofNat (d / 281474976710656 % 256))).set (i * 8 + 2) (UInt8.ofNat (d / 1099511627776 % 256))).set (i * 8 + 3) (UInt8.ofNat (d / 4294967296 % 256))).set
      (i * 8 + 4) (UInt8.ofNat (d / 16777216 % 256))).set (i * 8 + 5) (UInt8.ofNat (d / 65536 % 256))).set (i * 8 + 6) (UInt8.ofNat (d / 256 % 256))).set (i * 8 + 7) (UInt8.ofNat (d % 256))) = l.take (i * 8) ++ (be8 d ++ l.drop (i * 8 + 8)) := by
      have hs := set8 (l.take (i * 8)) (l.drop (i * 8 + 8)) y0 y1 y2 y3 y4 y5 y6 y7 (UInt8.ofNat (d / 72057594037927936 % 256)) (UInt8.ofNat (d / 281474976710656 % 256)) (UInt8.ofNat (d / 1099511627776 % 256)) (UInt8.ofNat (d / 4294967296 % 256))
        (UInt8.ofNat (d / 16777216 % 256)) (UInt8.ofNat (d / 65536 % 256)) (UInt8.ofNat (d / 256 % 256)) (UInt8.ofNat (d % 256)) (i * 8) (by rw [List.length_take]; omega)
      rw [← hl] at hs
      exact hs
    rw [e] at h
    exact h
  have HF := Lib.hid hfin
  clear hfin
  generalize (l[i * 8]'(by omega)).toNat = x0 at c0
  generalize (l[i * 8 + 1]'(by omega)).toNat = x1 at c1
  generalize (l[i * 8 + 2]'(by omega)).toNat = x2 at c2
  generalize (l[i * 8 + 3]'(by omega)).toNat = x3 at c3
  generalize (l[i * 8 + 4]'(by omega)).toNat = x4 at c4
  generalize (l[i * 8 + 5]'(by omega)).toNat = x5 at c5
  generalize (l[i * 8 + 6]'(by omega)).toNat = x6 at c6
  generalize (l[i * 8 + 7]'(by omega)).toNat = x7 at c7
  go_enter Tryz.func126, Tryz.ntmps126
  go_wp2
  go_end0
  exact ⟨rfl, HF.out, (((((((((Below.refl g w).setCell (Nat.le_refl g) _).setCell (Nat.le_refl g) _).setCell (Nat.le_refl g) _).setCell (Nat.le_refl g) _).setCell (Nat.le_refl g) _).setCell (Nat.le_refl g) _).setCell (Nat.le_refl g) _).setCell (Nat.le_refl g) _)⟩

/-- Bytes that are all zero, as make lays them. -/
def zobj8 (n : Nat) : Obj := .cells ((List.replicate n 0).map u8V).toArray 5
theorem BB.zeros (w : World) (n : Nat) : BB (w.alloc (zobj8 n)) w.heap.size (List.replicate n 0) := heap_alloc_new w _
theorem BB.keep {w w' : World} {g : Nat} {l : List UInt8} (h : BB w g l) (hk : w'.heap[g]? = w.heap[g]?) : BB w' g l := hk.trans h
theorem made_zeros8 (n : Nat) : madeCells (Value.cells (.int .u8 0)) n = ((List.replicate n 0).map u8V).toArray := by
  apply Array.ext'
  rw [show Value.cells (.int .u8 0) = #[.int .u8 0] from rfl, toList_madeCells_one]
  simp [u8V]
theorem make8 (w : World) (c : Int) (n : Nat) (hc : c = n) (h : n ≤ 140737488355328) :
    (Instr.makeSlice 119 (.int .i64 c) (.int .i64 c)).run Tryz.prog w = .ok (.slice (some ⟨w.heap.size, 0, none⟩) n n) (w.alloc (zobj8 n)) := by
  subst hc
  have := run_make (P := Tryz.prog) w 119 5 Tryz.t5 (.int .u8 0) Tryz.underlying119 (by kernel_rfl) (by kernel_rfl) .i64 .i64 (n : Int) (n : Int) (by omega) (Int.le_refl _) (by show ((1 : Nat) : Int) * _ ≤ _; omega) (by omega)
  rw [this]
  simp only [Int.toNat_natCast]
  show Result.ok _ (w.alloc (.cells (madeCells (Value.cells (.int .u8 0)) (n * 1)) _)) = _
  rw [Nat.mul_one, made_zeros8]; rfl
theorem strOf_str (l : List UInt8) : strOfNums (l.map fun b => (b.toNat : Int)) = str l := by
  unfold strOfNums str
  congr 2
  rw [List.map_map]
  conv => rhs; rw [← List.map_id l]
  apply List.map_congr_left
  intro b _
  simp
theorem to_string (w : World) (g n c : Nat) (l : List UInt8) (hl : l.length = n) (h : BB w g l) :
    (convert 119 9 (.slice (some ⟨g, 0, none⟩) n c)).run Tryz.prog w = .ok (.string (str l)) w := by
  have := run_convert_bytes_arg (P := Tryz.prog) w 119 5 Tryz.underlying119 Tryz.underlying5 g 0 n c (l.map fun b => (b.toNat : Int)) (by simpa using hl) (fun j hj => by
    rw [Nat.zero_add, h.cell j (by omega)]
    simp [List.getD, hl, hj])
  rw [this 9 Tryz.underlying9, strOf_str]

theorem natV_zero : natV 0 = .agg #[.int .u64 0, .string ⟨#[]⟩] := by unfold natV; rw [lo_small Bs_pos, hs_small Bs_pos]; rfl
theorem flat_take (l : List Nat) (i : Nat) (hi : i < l.length) : (l.take i).flatMap be8 ++ be8 l[i] = (l.take (i + 1)).flatMap be8 := by
  rw [List.take_succ_eq_append_getElem hi, List.flatMap_append]; simp

set_option maxHeartbeats 1000000 in
theorem pack_any (g o c : Nat) (l : List Nat) (hd : Dig l) (hl : l.length ≤ 1099511627776) (hcap : l.length ≤ c) (w : World) (hg : g < w.heap.size) (hr : Rd w g o l) :
    Calls Tryz.prog 94 #[.slice (some ⟨g, o, none⟩) l.length c] w fun e w' => e = .returned (natV (val l)) ∧ Below w.heap.size w w' := by
  obtain ⟨z, hz⟩ := norm l hd
  have hlen : (digs (val l)).length ≤ l.length := by
    have := congrArg List.length hz
    simp at this; omega
  generalize hW : w.alloc (.cells #[.int .u64 0, .string ⟨#[]⟩] 32) = W1
  have hb1 : Below w.heap.size w W1 := by rw [← hW]; exact (Below.refl _ _).alloc (Nat.le_refl _) _
  have hT := trim_any g o c l hd (by unfold maxLen; omega) hcap W1 (hr.below hb1 hg)
  have HT := Lib.hid hT
  have k0 : W1.cell? ⟨w.heap.size, 0, none⟩ = some (.int .u64 0) := by rw [← hW]; simp
  have k1 : W1.cell? ⟨w.heap.size, 1, none⟩ = some (.string ⟨#[]⟩) := by rw [← hW]; simp
  have kf : ∀ j, W1.frozen? ⟨w.heap.size, j, none⟩ = false := fun j => by rw [← hW]; simp
  have HW1 : w.heap.size < W1.heap.size := by rw [← hW]; simp
  have HZ := Lib.hid hz
  clear hT hz
  by_cases h0 : val l = 0
  · have hl0 : (digs (val l)).length = 0 := by rw [h0, digs_zero]; rfl
    go_enter Tryz.func94, Tryz.ntmps94
    go_wp2_with fail
    rw [hl0] at HT
    have H0 := Lib.hid h0
    clear hW h0 hl0
    refine HT.out.mono ?_
    rintro e w1 ⟨rfl, rfl⟩
    go_wp2
    exact bodyPost_ret (v := natV (val l)) (by rw [H0.out, natV_zero]; simp [results, Tryz.results94, go_sem, k0, k1]) rfl
      ⟨rfl, (hb1.setCell (Nat.le_refl _) _).setCell (Nat.le_refl _) _⟩
  · generalize val l = v at *
    obtain ⟨k, hk⟩ : ∃ k, (digs (v / Bs)).length = k := ⟨_, rfl⟩
    have hm : (digs v).length = k + 1 := by rw [digs_pos h0, List.length_cons, hk]
    have HK := Lib.hid hk
    rw [hm] at HT hlen
    clear hk hm
    have hmk : ∀ w, (Instr.makeSlice 119 (.int .i64 ((k : Int) * 8)) (.int .i64 ((k : Int) * 8))).run Tryz.prog w = .ok (.slice (some ⟨w.heap.size, 0, none⟩) (k * 8) (k * 8)) (w.alloc (zobj8 (k * 8))) :=
      fun w => make8 w _ (k * 8) (by omega) (by omega)
    have hne0 : ((k : Int) + 1 == 0) = false := by simp; omega
    go_enter Tryz.func94, Tryz.ntmps94
    go_wp2_with fail
    have H0 := Lib.hid h0
    clear hW h0
    refine HT.out.mono ?_
    rintro e w1 ⟨rfl, rfl⟩
    go_wp2
    go_loopw [19] (fun x wr => ∃ i : Nat, i ≤ k ∧ x = .int .i64 i ∧ BB wr W1.heap.size (((digs (v / Bs)).reverse.take i).flatMap be8 ++ List.replicate (8 * (k - i)) 0) ∧ Below W1.heap.size W1 wr) (fun x _ => k - (intOf x).toNat)
    case atStart =>
      refine ⟨0, Nat.zero_le _, rfl, ?_, (Below.refl _ _).alloc (Nat.le_refl _) _⟩
      have h := BB.zeros W1 (k * 8)
      rw [Nat.sub_zero, Nat.mul_comm 8 k]
      exact h
    case round =>
      obtain ⟨i, hi, rfl, hbb, hbl⟩ := hrel
      have hwr : W1.heap.size < wr.heap.size := hbb.lt
      by_cases hik : i < k
      · have hrl : (digs (v / Bs)).reverse.length = k := by rw [List.length_reverse, HK.out]
        have hdig : Dig (digs (v / Bs)).reverse := fun x hx => digs_dig _ x (List.mem_reverse.1 hx)
        have hll : (((digs (v / Bs)).reverse.take i).flatMap be8 ++ List.replicate (8 * (k - i)) 0).length = k * 8 := by
          rw [List.length_append, flat_length, List.length_take, List.length_replicate, hrl]; omega
        have hP := putDigit_any W1.heap.size i ((digs (v / Bs)).reverse[i]'(by omega)) _ (by rw [hll]; omega) (by rw [hll]; unfold maxLen; omega) wr hbb
        rw [hll] at hP
        have hcell : wr.cell? ⟨g, o + (k - i), none⟩ = some (.int .u64 ((((digs (v / Bs)).reverse[i]'(by omega)) : Nat) : Int)) := by
          have h1 : wr.cell? ⟨g, o + (k - i), none⟩ = W1.cell? ⟨g, o + (k - i), none⟩ := hbl.cell (p := ⟨g, o + (k - i), none⟩) (by show g < _; omega)
          have h2 : W1.cell? ⟨g, o + (k - i), none⟩ = w.cell? ⟨g, o + (k - i), none⟩ := hb1.cell (p := ⟨g, o + (k - i), none⟩) hg
          rw [h1, h2, hr (k - i) (by omega)]
          congr 3
          have h3 : l[k - i]'(by omega) = (digs v ++ List.replicate z 0)[k - i]'(by rw [← HZ.out]; omega) := List.getElem_of_eq HZ.out _
          rw [h3, List.getElem_append_left (by rw [digs_pos H0.out, List.length_cons, HK.out]; omega), List.getElem_reverse]
          have h4 : digs v = (v % Bs) :: digs (v / Bs) := digs_pos H0.out
          simp only [h4]
          obtain ⟨j, hj⟩ : ∃ j, k - i = j + 1 := ⟨k - i - 1, by omega⟩
          simp only [hj, List.getElem_cons_succ, HK.out]
          congr 1; omega
        have hnext : BB wr W1.heap.size (((digs (v / Bs)).reverse.take i).flatMap be8 ++ List.replicate (8 * (k - i)) 0) := hbb
        have hft := flat_take (digs (v / Bs)).reverse i (by omega)
        generalize hdI : (digs (v / Bs)).reverse[i]'(by omega) = dI at *
        have hbytes : ((((digs (v / Bs)).reverse.take i).flatMap be8 ++ List.replicate (8 * (k - i)) 0).take (i * 8) ++ (be8 dI ++ (((digs (v / Bs)).reverse.take i).flatMap be8 ++ List.replicate (8 * (k - i)) 0).drop (i * 8 + 8))) =
            ((digs (v / Bs)).reverse.take (i + 1)).flatMap be8 ++ List.replicate (8 * (k - (i + 1))) 0 := by
          have hA : (((digs (v / Bs)).reverse.take i).flatMap be8).length = i * 8 := by rw [flat_length, List.length_take, hrl]; omega
          rw [← hft, List.take_left' hA, List.append_assoc, ← List.drop_drop, List.drop_left' hA, List.drop_replicate]
          congr 3; omega
        rw [hbytes] at hP
        have HP := Lib.hid hP
        have HBB := Lib.hid hbb
        clear hP hbytes hnext hft hdI hll hrl hdig hbb
        go_wp2_with fail
        refine HP.out.mono ?_
        rintro e w1 ⟨rfl, hbb1, hbl1⟩
        go_wp2
        go_roundw
        case rel => exact ⟨i + 1, by omega, by go_num, hbb1, hbl.trans hbl1⟩
        case measure => simp [intOf]; omega
      · have hik' : i = k := by omega
        subst hik'
        have hrl : (digs (v / Bs)).reverse.length = i := by rw [List.length_reverse, HK.out]
        rw [Nat.sub_self, Nat.mul_zero, List.replicate_zero, List.append_nil, List.take_of_length_le (Nat.le_of_eq hrl)] at hbb
        have hcv := to_string wr.drew W1.heap.size (i * 8) (i * 8) _ (by rw [flat_length, hrl, Nat.mul_comm]) hbb
        have hstr : str ((digs (v / Bs)).reverse.flatMap be8) = hs v := rfl
        rw [hstr] at hcv
        have hcell : wr.cell? ⟨g, o, none⟩ = some (.int .u64 ((lo v : Nat) : Int)) := by
          have h1 : wr.cell? ⟨g, o, none⟩ = W1.cell? ⟨g, o, none⟩ := hbl.cell (p := ⟨g, o, none⟩) (by show g < _; omega)
          have h2 : W1.cell? ⟨g, o, none⟩ = w.cell? ⟨g, o, none⟩ := hb1.cell (p := ⟨g, o, none⟩) hg
          have h5 := hr 0 (by omega)
          rw [Nat.add_zero] at h5
          have h3 : l[0]'(by omega) = (digs v ++ List.replicate z 0)[0]'(by rw [← HZ.out]; omega) := List.getElem_of_eq HZ.out _
          have h4 : digs v = (v % Bs) :: digs (v / Bs) := digs_pos H0.out
          have h6 : l[0]'(by omega) = lo v := by
            rw [h3]
            simp only [h4, List.cons_append, List.getElem_cons_zero]; rfl
          rw [h1, h2, h5, h6]
        have q0 : wr.cell? ⟨w.heap.size, 0, none⟩ = some (.int .u64 0) := (hbl.cell (p := ⟨w.heap.size, 0, none⟩) HW1).trans k0
        have q1 : wr.cell? ⟨w.heap.size, 1, none⟩ = some (.string ⟨#[]⟩) := (hbl.cell (p := ⟨w.heap.size, 1, none⟩) HW1).trans k1
        have qf : ∀ j, wr.frozen? ⟨w.heap.size, j, none⟩ = false := fun j => (hbl.frozen (p := ⟨w.heap.size, j, none⟩) HW1).trans (kf j)
        have hgo : ¬ (w.heap.size = g) := by omega
        clear hrl hstr hbb
        go_wp2
        go_region
        all_goals go_wp2
        all_goals exact bodyPost_ret (v := natV v) (by simp [results, Tryz.results94, go_sem, q0, q1]) rfl ⟨rfl, (((hb1.trans (hbl.mono (Nat.le_of_lt HW1))).setCell (Nat.le_refl _) _).setCell (Nat.le_refl _) _).drew⟩

theorem trim_nil (w : World) :
    Calls Tryz.prog 85 #[.slice none 0 0] w fun e w' => e = .returned (.slice none 0 0) ∧ w = w' := by
  go_enter Tryz.func85, Tryz.ntmps85
  go_wp2
  refine wp_loop_rounds 1 ?_
  rw [rounds_succ]
  go_wp2
  go_ret
  exact ⟨rfl, rfl⟩
theorem pack_nil (w : World) :
    Calls Tryz.prog 94 #[.slice none 0 0] w fun e w' => e = .returned (natV 0) ∧ Below w.heap.size w w' := by
  rw [natV_zero]
  go_enter Tryz.func94, Tryz.ntmps94
  go_wp2_with (go_at_call 85; refine (trim_nil _).mono ?_; rintro e w1 ⟨rfl, rfl⟩)
  exact bodyPost_ret (v := .agg #[.int .u64 0, .string ⟨#[]⟩]) (by simp [results, Tryz.results94, go_sem]) rfl ⟨rfl, (Below.refl _ _).alloc (Nat.le_refl _) _⟩

theorem twoDigits_any (h l : Nat) (hh : h < Bs) (hl : l < Bs) (w : World) :
    Calls Tryz.prog 96 #[.int .u64 (h : Int), .int .u64 (l : Int)] w fun e w' => e = .returned (natV (l + Bs * h)) ∧ Below w.heap.size w w' := by
  by_cases h0 : h = 0
  · subst h0
    rw [Nat.mul_zero, Nat.add_zero]
    have e : natV l = .agg #[.int .u64 (l : Int), .string ⟨#[]⟩] := by unfold natV; rw [lo_small hl, hs_small hl]
    rw [e]
    go_enter Tryz.func96, Tryz.ntmps96
    go_wp2
    exact bodyPost_ret (v := .agg #[.int .u64 (l : Int), .string ⟨#[]⟩]) (by simp [results, Tryz.results96, go_sem]) rfl ⟨rfl, (Below.refl _ _).alloc (Nat.le_refl _) _⟩
  · have hb : ((h : Int) == 0) = false := by simp; omega
    go_enter Tryz.func96, Tryz.ntmps96
    go_wp2_with fail
    have hdb : DB ((w.alloc (.cells #[.int .u64 0, .string ⟨#[]⟩] 32)).alloc (.cells #[.int .u64 (l : Int), .int .u64 (h : Int)] 30)) (w.heap.size + 1) [l, h] := by
      have := heap_alloc_new (w.alloc (.cells #[.int .u64 0, .string ⟨#[]⟩] 32)) (.cells #[.int .u64 (l : Int), .int .u64 (h : Int)] 30)
      rw [show (w.alloc (.cells #[.int .u64 0, .string ⟨#[]⟩] 32)).heap.size = w.heap.size + 1 by simp] at this
      exact this
    have hp := pack_any (w.heap.size + 1) 0 2 [l, h] (Dig.cons hl (Dig.cons hh Dig.nil)) (by simp) (by simp) _ hdb.lt hdb.rd0
    rw [show val [l, h] = l + Bs * h by simp [val]] at hp
    have HP := Lib.hid hp
    clear hp hdb
    refine HP.out.mono ?_
    rintro e w1 ⟨rfl, hb1⟩
    obtain ⟨hc1, hf1⟩ := bcell hb1
    have q0 : w1.cell? ⟨w.heap.size, 0, none⟩ = some (.int .u64 0) := (hc1 _ _ (by simp; omega)).trans (by simp)
    have q1 : w1.cell? ⟨w.heap.size, 1, none⟩ = some (.string ⟨#[]⟩) := (hc1 _ _ (by simp; omega)).trans (by simp)
    go_wp2
    exact bodyPost_ret (v := natV (l + Bs * h)) (by simp [results, Tryz.results96, go_sem, q0, q1]) rfl ⟨rfl, ((((Below.refl _ w).alloc (Nat.le_refl _) _).alloc (by simp) _).trans (hb1.mono (by simp; omega))).setCell (Nat.le_refl _) _ |>.setCell (Nat.le_refl _) _⟩
end Go.Proofs.YthehcjfmokabfaaGreatDoor

/-
  Layer 1, walks E: Cmp; Bits.
-/
namespace Go.Proofs.YthehcjfmokabfaaGreatDoor
open Go.RowKit

def cmpI (a b : Nat) : Int := if a < b then -1 else if a = b then 0 else 1
theorem cmpI_lt {a b : Nat} (h : a < b) : cmpI a b = -1 := if_pos h
theorem cmpI_eq (a : Nat) : cmpI a a = 0 := by unfold cmpI; simp
theorem cmpI_gt {a b : Nat} (h : b < a) : cmpI a b = 1 := by unfold cmpI; rw [if_neg (by omega), if_neg (by omega)]
theorem less_eq : ∀ a b : List UInt8, Op.bytesLess a b = bless a b
  | _, [] => by unfold bless; cases ‹List UInt8› <;> rfl
  | [], _ :: _ => rfl
  | a :: x, b :: y => by unfold Op.bytesLess bless; rw [less_eq x y]

theorem nan_u (x : Nat) (w : World) : Calls Tryz.prog 127 #[.int .u64 (x : Int)] w fun e w' => e = .returned (.bool false) ∧ w = w' := by
  go_enter Tryz.func127, Tryz.ntmps127
  go_wp2
  go_ret
  exact ⟨rfl, rfl⟩
theorem compU (x y : Nat) (w : World) : Calls Tryz.prog 100 #[.int .u64 (x : Int), .int .u64 (y : Int)] w fun e w' => e = .returned (.int .i64 (cmpI x y)) ∧ w = w' := by
  rcases Nat.lt_trichotomy x y with h | h | h
  · rw [cmpI_lt h]
    go_enter Tryz.func100, Tryz.ntmps100
    go_wp2_with (go_at_call 127; refine (nan_u _ _).mono ?_; rintro e w1 ⟨rfl, rfl⟩)
    go_ret
    exact ⟨rfl, rfl⟩
  · subst h
    rw [cmpI_eq]
    go_enter Tryz.func100, Tryz.ntmps100
    go_wp2_with (go_at_call 127; refine (nan_u _ _).mono ?_; rintro e w1 ⟨rfl, rfl⟩)
    go_ret
    exact ⟨rfl, rfl⟩
  · rw [cmpI_gt h]
    go_enter Tryz.func100, Tryz.ntmps100
    go_wp2_with (go_at_call 127; refine (nan_u _ _).mono ?_; rintro e w1 ⟨rfl, rfl⟩)
    go_ret
    exact ⟨rfl, rfl⟩

theorem nan_i (x : Int) (w : World) : Calls Tryz.prog 129 #[.int .i64 x] w fun e w' => e = .returned (.bool false) ∧ w = w' := by
  go_enter Tryz.func129, Tryz.ntmps129
  go_wp2
  go_ret
  exact ⟨rfl, rfl⟩
theorem nan_s (s : ByteArray) (w : World) : Calls Tryz.prog 128 #[.string s] w fun e w' => e = .returned (.bool false) ∧ w = w' := by
  go_enter Tryz.func128, Tryz.ntmps128
  go_wp2
  go_ret
  exact ⟨by simp, rfl⟩
theorem compI (x y : Nat) (w : World) : Calls Tryz.prog 102 #[.int .i64 (x : Int), .int .i64 (y : Int)] w fun e w' => e = .returned (.int .i64 (cmpI x y)) ∧ w = w' := by
  rcases Nat.lt_trichotomy x y with h | h | h
  · rw [cmpI_lt h]
    go_enter Tryz.func102, Tryz.ntmps102
    go_wp2_with (go_at_call 129; refine (nan_i _ _).mono ?_; rintro e w1 ⟨rfl, rfl⟩)
    go_ret
    exact ⟨rfl, rfl⟩
  · subst h
    rw [cmpI_eq]
    go_enter Tryz.func102, Tryz.ntmps102
    go_wp2_with (go_at_call 129; refine (nan_i _ _).mono ?_; rintro e w1 ⟨rfl, rfl⟩)
    go_ret
    exact ⟨rfl, rfl⟩
  · rw [cmpI_gt h]
    go_enter Tryz.func102, Tryz.ntmps102
    go_wp2_with (go_at_call 129; refine (nan_i _ _).mono ?_; rintro e w1 ⟨rfl, rfl⟩)
    go_ret
    exact ⟨rfl, rfl⟩
/-- Two strings of one length: as the numbers that their bytes spell. -/
theorem compS (x y : Nat) (h : (digs x).length = (digs y).length) (w : World) : Calls Tryz.prog 101 #[.string (str (hiB x)), .string (str (hiB y))] w fun e w' => e = .returned (.int .i64 (cmpI x y)) ∧ w = w' := by
  have hl : Op.bytesLess (str (hiB x)).toList (str (hiB y)).toList = decide (x < y) := by
    rw [ByteArray.toList_eq, ByteArray.toList_eq, str_toList, str_toList, less_eq, hiB_less h]
  have hl' : Op.bytesLess (str (hiB y)).toList (str (hiB x)).toList = decide (y < x) := by
    rw [ByteArray.toList_eq, ByteArray.toList_eq, str_toList, str_toList, less_eq, hiB_less h.symm]
  have he : ((str (hiB x)).toList == (str (hiB y)).toList) = decide (x = y) := by
    rw [ByteArray.toList_eq, ByteArray.toList_eq, str_toList, str_toList, Bool.eq_iff_iff, beq_iff_eq, decide_eq_true_iff]
    exact ⟨hiB_inj, fun h => by rw [h]⟩
  generalize str (hiB x) = s at *
  generalize str (hiB y) = t at *
  clear h
  rcases Nat.lt_trichotomy x y with h | h | h
  · rw [cmpI_lt h]
    rw [decide_eq_true h] at hl
    rw [decide_eq_false (by omega)] at hl' he
    clear h
    go_enter Tryz.func101, Tryz.ntmps101
    go_wp2_with (go_at_call 128; refine (nan_s _ _).mono ?_; rintro e w1 ⟨rfl, rfl⟩)
    go_ret
    exact ⟨rfl, rfl⟩
  · rw [show cmpI x y = 0 by rw [h]; exact cmpI_eq y]
    rw [decide_eq_false (by omega)] at hl hl'
    rw [decide_eq_true h] at he
    clear h
    go_enter Tryz.func101, Tryz.ntmps101
    go_wp2_with (go_at_call 128; refine (nan_s _ _).mono ?_; rintro e w1 ⟨rfl, rfl⟩)
    go_ret
    exact ⟨rfl, rfl⟩
  · rw [cmpI_gt h]
    rw [decide_eq_true h] at hl'
    rw [decide_eq_false (by omega)] at hl he
    clear h
    go_enter Tryz.func101, Tryz.ntmps101
    go_wp2_with (go_at_call 128; refine (nan_s _ _).mono ?_; rintro e w1 ⟨rfl, rfl⟩)
    go_ret
    exact ⟨rfl, rfl⟩

theorem divmod (a : Nat) : a = Bs * (a / Bs) + lo a := (Nat.div_add_mod a Bs).symm
theorem hs_eq (a b : Nat) : ((hs a).toList == (hs b).toList) = decide (a / Bs = b / Bs) := by
  rw [hs_toList, hs_toList, Bool.eq_iff_iff, beq_iff_eq, decide_eq_true_iff]
  exact ⟨hiB_inj, fun h => by rw [h]⟩
theorem natV_inj {a b : Nat} (h : natV a = natV b) : a = b := by
  have h1 : lo a = lo b := by simp [natV] at h; omega
  have h2 : hs a = hs b := by simp [natV] at h; exact h.2
  have h3 : a / Bs = b / Bs := by
    have := congrArg ByteArray.toList h2
    rw [hs_toList, hs_toList] at this
    exact hiB_inj this
  rw [divmod a, divmod b, h1, h3]
theorem cmpI_div {a b : Nat} (h : a / Bs ≠ b / Bs) : cmpI a b = cmpI (a / Bs) (b / Bs) := by
  rcases Nat.lt_trichotomy (a / Bs) (b / Bs) with h1 | h1 | h1
  · rw [cmpI_lt h1, cmpI_lt (Nat.lt_of_not_le fun hh => by have := Nat.div_le_div_right (c := Bs) hh; omega)]
  · exact absurd h1 h
  · rw [cmpI_gt h1, cmpI_gt (Nat.lt_of_not_le fun hh => by have := Nat.div_le_div_right (c := Bs) hh; omega)]
theorem cmpI_lo {a b : Nat} (h : a / Bs = b / Bs) : cmpI a b = cmpI (lo a) (lo b) := by
  have h1 := divmod a
  have h2 := divmod b
  rw [h] at h1
  unfold cmpI
  by_cases g1 : lo a < lo b
  · rw [if_pos g1, if_pos (by omega)]
  · rw [if_neg g1, if_neg (by omega)]
    by_cases g2 : lo a = lo b
    · rw [if_pos g2, if_pos (by omega)]
    · rw [if_neg g2, if_neg (by omega)]

theorem cmp_any (a b : Nat) (w : World) :
    Calls Tryz.prog 55 #[natV a, natV b] w fun e w' => e = .returned (.int .i64 (cmpI a b)) ∧ Below w.heap.size w w' := by
  have he := hs_eq a b
  have fin : ∀ A B : Obj, Below w.heap.size w ((w.alloc A).alloc B) := fun A B => ((Below.refl _ _).alloc (Nat.le_refl _) _).alloc (by simp) _
  by_cases h : a / Bs = b / Bs
  · rw [decide_eq_true h] at he
    rw [cmpI_lo h]
    clear h
    go_enter Tryz.func55, Tryz.ntmps55
    go_wp2_with (go_at_call 100; refine (compU _ _ _).mono ?_; rintro e w1 ⟨rfl, rfl⟩)
    go_ret
    exact ⟨rfl, fin _ _⟩
  · rw [decide_eq_false h] at he
    rw [cmpI_div h]
    by_cases hl : (digs (a / Bs)).length = (digs (b / Bs)).length
    · have hz : (((hs a).size : Int) == ((hs b).size : Int)) = true := by rw [hs_size, hs_size, hl]; simp
      have hC := fun w => compS (a / Bs) (b / Bs) hl w
      rw [show str (hiB (a / Bs)) = hs a from rfl, show str (hiB (b / Bs)) = hs b from rfl] at hC
      have HC := Lib.hid hC
      clear h hl hC
      go_enter Tryz.func55, Tryz.ntmps55
      go_wp2_with (go_at_call 101; refine (HC.out _).mono ?_; rintro e w1 ⟨rfl, rfl⟩)
      go_ret
      exact ⟨rfl, fin _ _⟩
    · have hz : (((hs a).size : Int) == ((hs b).size : Int)) = false := by rw [hs_size, hs_size]; simp; omega
      have hc : cmpI (a / Bs) (b / Bs) = cmpI (hs a).size (hs b).size := by
        rw [hs_size, hs_size]
        rcases Nat.lt_or_gt_of_ne hl with h1 | h1
        · rw [cmpI_lt (lt_of_digs h1), cmpI_lt (by omega)]
        · rw [cmpI_gt (lt_of_digs h1), cmpI_gt (by omega)]
      rw [hc]
      clear h hl hc
      go_enter Tryz.func55, Tryz.ntmps55
      go_wp2_with (go_at_call 102; refine (compI _ _ _).mono ?_; rintro e w1 ⟨rfl, rfl⟩)
      go_ret
      exact ⟨rfl, fin _ _⟩
end Go.Proofs.YthehcjfmokabfaaGreatDoor
