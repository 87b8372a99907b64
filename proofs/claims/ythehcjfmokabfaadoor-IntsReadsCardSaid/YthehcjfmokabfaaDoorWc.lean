/-
  Layer 1, walks C: blocks of digits; digits.
-/
import Derived.Test.YthehcjfmokabfaaDoorWb
set_option linter.unusedVariables false
set_option linter.unusedSimpArgs false
namespace Go.Proofs.YthehcjfmokabfaaDoor
open Go.RowKit

/-- Block g holds just these digits. -/
def DB (w : World) (g : Nat) (l : List Nat) : Prop := w.heap[g]? = some (.cells (l.map u64V).toArray 23 (0, 0))
section
variable {w w' : World} {g : Nat} {l : List Nat}
theorem DB.lt (h : DB w g l) : g < w.heap.size := (Array.getElem?_eq_some_iff.1 h).1
theorem DB.cell (h : DB w g l) (i : Nat) (hi : i < l.length) : w.cell? ⟨g, i, none⟩ = some (.int .u64 ((l[i] : Nat) : Int)) := by
  rw [cell_of_row w g i _ _ _ h]; simp [u64V, hi]
theorem DB.frozen (h : DB w g l) (i : Nat) : w.frozen? ⟨g, i, none⟩ = false := frozen_of_row w g i _ _ h
theorem DB.rd (h : DB w g l) (o n : Nat) : Rd w g o ((l.drop o).take n) := fun i hi => by
  rw [List.length_take, List.length_drop] at hi
  rw [h.cell (o + i) (by omega)]; simp
theorem DB.rd0 (h : DB w g l) : Rd w g 0 l := fun i hi => by rw [Nat.zero_add]; exact h.cell i hi
theorem DB.set (h : DB w g l) (i : Nat) (hi : i < l.length) (d : Nat) : DB (w.setCell ⟨g, i, none⟩ (.int .u64 (d : Int))) g (l.set i d) := by
  unfold DB at *
  rw [heap_setCell_same w g i _ _ _ h]
  congr 2
  rw [List.map_set]; simp [u64V]
theorem DB.keep (h : DB w g l) (hk : w'.heap[g]? = w.heap[g]?) : DB w' g l := hk.trans h
theorem DB.below {B : Nat} (h : DB w g l) (hb : Below B w w') (hg : g < B) : DB w' g l := h.keep (hb.block g hg)
theorem DB.drewN (h : DB w g l) (n : Nat) : DB (w.drewN n) g l := h
theorem DB.alloc (h : DB w g l) (o : Obj) : DB (w.alloc o) g l := h.keep (heap_alloc_old w o h.lt)
end
theorem bdrew {B : Nat} {a w : World} (h : Below B a w) (n : Nat) : Below B a (w.drewN n) := ⟨h.os, h.tape, h.output, h.size, h.block⟩
/-- Digits that are all zero, as make lays them. -/
def zobj (n : Nat) : Obj := .cells ((List.replicate n 0).map u64V).toArray 23
theorem DB.zeros (w : World) (n : Nat) : DB (w.alloc (zobj n)) w.heap.size (List.replicate n 0) := heap_alloc_new w _
theorem zc (W : World) (n i B : Nat) (hB : B = W.heap.size) (hi : i < n) : (W.alloc (zobj n)).cell? ⟨B, i, none⟩ = some (.int .u64 0) ∧ (W.alloc (zobj n)).frozen? ⟨B, i, none⟩ = false := by
  subst hB
  have h := DB.zeros W n
  refine ⟨?_, h.frozen i⟩
  have := h.cell i (by simpa using hi)
  simpa using this
theorem made_zeros (n : Nat) : madeCells (Value.cells (.int .u64 0)) n = ((List.replicate n 0).map u64V).toArray := by
  apply Array.ext'
  rw [show Value.cells (.int .u64 0) = #[.int .u64 0] from rfl, toList_madeCells_one]
  simp [u64V]
theorem make64 (w : World) (c : Int) (n : Nat) (hc : c = n) (h : n ≤ 17592186044416) :
    (Instr.makeSlice 81 (.int .i64 c) (.int .i64 c)).run Tryd.prog w = .ok (.slice (some ⟨w.heap.size, 0, none⟩) n n) (w.alloc (zobj n)) := by
  subst hc
  have := run_make (P := Tryd.prog) w 81 23 Tryd.t23 (.int .u64 0) Tryd.underlying81 (by kernel_rfl) (by kernel_rfl) .i64 .i64 (n : Int) (n : Int) (by omega) (Int.le_refl _) (by show ((8 : Nat) : Int) * _ ≤ _; omega) (by omega)
  rw [this]
  simp only [Int.toNat_natCast]
  show Result.ok _ (w.alloc (.cells (madeCells (Value.cells (.int .u64 0)) (n * 1)) _)) = _
  rw [Nat.mul_one, made_zeros]; rfl

theorem hs_piece (n i : Nat) (hi : i < (digs (n / Bs)).length) : bval (((hs n).data.toList.drop (8 * i)).take 8) = (digs (n / Bs))[(digs (n / Bs)).length - 1 - i]'(by omega) := by
  rw [hs_data, hiB, flat_piece _ i (by simpa using hi), List.getElem_reverse]
  exact bval_be8 ((digs_dig _).get _ (by omega))
theorem fill_step (k i : Nat) (l : List Nat) (hl : l.length = k) (hi : i < k) :
    (List.replicate (k - i) 0 ++ l.drop (k - i)).set (k - i - 1) (l[k - 1 - i]'(by omega)) = List.replicate (k - (i + 1)) 0 ++ l.drop (k - (i + 1)) := by
  obtain ⟨j, hj⟩ : ∃ j, k - i = j + 1 := ⟨k - i - 1, by omega⟩
  have e1 : k - (i + 1) = j := by omega
  rw [hj, e1, List.replicate_succ', List.append_assoc, Nat.add_sub_cancel]
  rw [List.set_append_right _ _ (by simp)]
  simp only [List.length_replicate, Nat.sub_self, List.singleton_append, List.set_cons_zero]
  have e2 : k - 1 - i = j := by omega
  rw [List.drop_eq_getElem_cons (i := j) (by omega)]
  simp [e2]

set_option maxHeartbeats 1000000 in
theorem digits_any (n : Nat) (hn : (digs n).length ≤ 1099511627776) (w : World) :
    Calls Tryd.prog 44 #[natV n] w fun e w' => ∃ g c z, e = .returned (.slice (some ⟨g, 0, none⟩) (digs n).length c) ∧ (digs n).length ≤ c ∧
      w.heap.size ≤ g ∧ DB w' g (digs n ++ List.replicate z 0) ∧ Below w.heap.size w w' := by
  obtain ⟨k, hk⟩ : ∃ k, (digs (n / Bs)).length = k := ⟨_, rfl⟩
  have HK := Lib.hid hk
  have hkb : k ≤ 1099511627776 := by
    have h1 := digs_length_iff.1 hn
    have h2 : n / Bs < Bs ^ 1099511627776 := Nat.lt_of_le_of_lt (Nat.div_le_self _ _) h1
    rw [← hk]; exact digs_length_iff.2 h2
  have hsz := hs_size n
  rw [hk] at hsz
  clear hk
  have hmk : ∀ w, (Instr.makeSlice 81 (.int .i64 ((k : Int) + 1)) (.int .i64 ((k : Int) + 1))).run Tryd.prog w = .ok (.slice (some ⟨w.heap.size, 0, none⟩) (k + 1) (k + 1)) (w.alloc (zobj (k + 1))) :=
    fun w => make64 w _ (k + 1) (by omega) (by omega)
  obtain ⟨z1, z2⟩ := zc (w.alloc (.cells #[.int .u64 ((lo n : Nat) : Int), .string (hs n)] 25)) (k + 1) 0 (w.heap.size + 1) (by simp) (by omega)
  go_enter Tryd.func44, Tryd.ntmps44
  go_wp2
  go_loopw [18] (fun x wr => ∃ i : Nat, i ≤ k ∧ x = .int .i64 i ∧ DB wr (w.heap.size + 1) (lo n :: (List.replicate (k - i) 0 ++ (digs (n / Bs)).drop (k - i))) ∧
      wr.cell? ⟨w.heap.size, 1, none⟩ = some (.string (hs n)) ∧ Below w.heap.size w wr) (fun x _ => k - (intOf x).toNat)
  case atStart =>
    refine ⟨0, Nat.zero_le _, rfl, ?_, ?_, ?_⟩
    · have h := (DB.zeros (w.alloc (.cells #[.int .u64 ((lo n : Nat) : Int), .string (hs n)] 25)) (k + 1)).set 0 (by simp) (lo n)
      rw [show (w.alloc (.cells #[.int .u64 ((lo n : Nat) : Int), .string (hs n)] 25)).heap.size = w.heap.size + 1 by simp] at h
      rw [Nat.sub_zero, List.drop_eq_nil_of_le (Nat.le_of_eq HK.out), List.append_nil]
      simpa [List.replicate_succ] using h
    · rw [World.cell?_setCell_other _ _ _ _ (by simp), World.cell?_alloc_lt _ _ _ (by simp)]; simp
    · exact (((Below.refl _ _).alloc (Nat.le_refl _) _).alloc (by simp) _).setCell (by simp) _
  case round =>
    obtain ⟨i, hi, rfl, hdb, hcs, hbl⟩ := hrel
    by_cases hik : i < k
    · have hkk := HK.out
      have hD := digitAt_any (hs n) i (by rw [hs_size, hkk]; omega) (by rw [hs_size, hkk]; unfold maxLen; omega) wr
      rw [hs_piece n i (by rw [hkk]; omega)] at hD
      have hst := fill_step k i (digs (n / Bs)) hkk hik
      have hidx : (digs (n / Bs)).length - 1 - i = k - 1 - i := by rw [hkk]
      simp only [hidx] at hD
      generalize hdv : (digs (n / Bs))[k - 1 - i]'(by omega) = d at hD hst
      have HD := Lib.hid hD
      have HST := Lib.hid hst
      clear hD hst hkk hidx hdv
      have hlen : k - i < (lo n :: (List.replicate (k - i) 0 ++ (digs (n / Bs)).drop (k - i))).length := by simp; omega
      have hx := hdb.cell (k - i) hlen
      have hf := hdb.frozen (k - i)
      have HDB := Lib.hid hdb
      clear hdb
      obtain ⟨x, hx⟩ : ∃ x : Int, wr.cell? ⟨w.heap.size + 1, k - i, none⟩ = some (.int .u64 x) := ⟨_, hx⟩
      go_wp2_with fail
      refine HD.out.mono ?_
      rintro e w1 ⟨rfl, nq, rfl⟩
      go_wp2
      go_roundw
      case rel =>
        refine ⟨i + 1, by omega, by go_num, ?_, ?_, ?_⟩
        · have h := (HDB.out.drewN nq).set (k - i) hlen d
          have e : (lo n :: (List.replicate (k - i) 0 ++ (digs (n / Bs)).drop (k - i))).set (k - i) d = lo n :: (List.replicate (k - (i + 1)) 0 ++ (digs (n / Bs)).drop (k - (i + 1))) := by
            rw [← HST.out]
            obtain ⟨j, hj⟩ : ∃ j, k - i = j + 1 := ⟨k - i - 1, by omega⟩
            rw [hj, List.set_cons_succ, Nat.add_sub_cancel]
          rw [e] at h
          exact h
        · refine (World.cell?_setCell_other _ _ _ _ (by simp)).trans ?_
          exact hcs
        · exact (bdrew hbl nq).setCell (by simp) _
      case measure => simp [intOf]; omega
    · have hik' : i = k := by omega
      subst hik'
      rw [Nat.sub_self, List.replicate_zero, List.nil_append, List.drop_zero] at hdb
      have hl : (lo n :: digs (n / Bs)).length = i + 1 := by rw [List.length_cons, HK.out]
      have hD : Dig (lo n :: digs (n / Bs)) := Dig.cons (lo_lt n) (digs_dig _)
      have hv : val (lo n :: digs (n / Bs)) = n := by rw [val, val_digs]; exact Nat.mod_add_div n Bs
      have hT := trim_any (w.heap.size + 1) 0 (i + 1) _ hD (by rw [hl]; unfold maxLen; omega) (Nat.le_of_eq hl) wr hdb.rd0
      rw [hl, hv] at hT
      obtain ⟨z, hz⟩ := norm _ hD
      rw [hv] at hz
      rw [hz] at hdb
      have HT := Lib.hid hT
      have HDB := Lib.hid hdb
      have HCAP : Hid ((digs n).length ≤ i + 1) := by
        show _ ≤ _
        have := congrArg List.length hz
        rw [hl, List.length_append] at this; omega
      clear hl hD hv hT hz hdb
      go_wp2_with fail
      refine HT.out.mono ?_
      rintro e w1 ⟨rfl, rfl⟩
      go_wp2
      go_ret
      exact ⟨w.heap.size + 1, i + 1, z, rfl, HCAP.out, by omega, HDB.out, hbl⟩
end Go.Proofs.YthehcjfmokabfaaDoor
