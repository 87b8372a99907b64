/-
  Layer 1, walks A: how numbers and digits lie in memory; nats.trim, Of, small, U64.
-/
import Derived.Test.YthehcjfmokabfaaDoorNum
import Derived.Test.YthehcjfmokabfaaDoorRows
import Derived.WalkKit
import Derived.Lib.Hide
set_option linter.unusedVariables false
set_option linter.unusedSimpArgs false
namespace Go.Proofs.YthehcjfmokabfaaDoor
open Go.RowKit

/-- A string of bytes. -/
def str (l : List UInt8) : ByteArray := ⟨l.toArray⟩
theorem str_toList (l : List UInt8) : (str l).data.toList = l := by simp [str]
theorem str_size (l : List UInt8) : (str l).size = l.length := by simp [str, ByteArray.size]
/-- A number, as the program spells it: its lowest digit, and the bytes of the others. -/
def lo (n : Nat) : Nat := n % Bs
def hs (n : Nat) : ByteArray := str (hiB (n / Bs))
def sm (n : Nat) : Bool := decide (n < Bs)
abbrev natV (n : Nat) : Value := .agg #[.int .u64 ((lo n : Nat) : Int), .string (hs n)]
theorem lo_lt (n : Nat) : lo n < Bs := Nat.mod_lt _ Bs_pos
theorem lo_bd (n : Nat) : (0 : Int) ≤ (lo n : Int) ∧ (lo n : Int) ≤ 18446744073709551615 := by have := lo_lt n; unfold Bs at this; omega
theorem hs_toList (n : Nat) : (hs n).toList = hiB (n / Bs) := by rw [ByteArray.toList_eq]; exact str_toList _
theorem hs_data (n : Nat) : (hs n).data.toList = hiB (n / Bs) := str_toList _
theorem hs_size (n : Nat) : (hs n).size = 8 * (digs (n / Bs)).length := by unfold hs; rw [str_size, hiB_length]
theorem hs_empty (n : Nat) : (hs n).toList.isEmpty = sm n := by
  rw [hs_toList, Bool.eq_iff_iff, List.isEmpty_iff, hiB_nil, sm, decide_eq_true_iff, Nat.div_eq_zero_iff]
  have := Bs_pos; omega
theorem sm_true {n : Nat} : sm n = true ↔ n < Bs := by unfold sm; exact decide_eq_true_iff
theorem sm_false {n : Nat} : sm n = false ↔ Bs ≤ n := by unfold sm; rw [decide_eq_false_iff_not]; omega
theorem lo_small {n : Nat} (h : n < Bs) : lo n = n := Nat.mod_eq_of_lt h
theorem hs_small {n : Nat} (h : n < Bs) : hs n = ⟨#[]⟩ := by unfold hs; rw [Nat.div_eq_of_lt h, hiB_zero]; rfl
/-- A digit. -/
def u64V (d : Nat) : Value := .int .u64 (d : Int)
/-- Digits lie in memory from an address on. -/
def Rd (w : World) (g o : Nat) (l : List Nat) : Prop := ∀ (i : Nat) (h : i < l.length), w.cell? ⟨g, o + i, none⟩ = some (.int .u64 ((l[i] : Nat) : Int))

theorem bcell {W w1 : World} (hb : Below W.heap.size W w1) : (∀ b o, b < W.heap.size → w1.cell? ⟨b, o, none⟩ = W.cell? ⟨b, o, none⟩) ∧ (∀ b o, b < W.heap.size → w1.frozen? ⟨b, o, none⟩ = W.frozen? ⟨b, o, none⟩) :=
  ⟨fun b o h => hb.cell (p := ⟨b, o, none⟩) h, fun b o h => hb.frozen (p := ⟨b, o, none⟩) h⟩
theorem Rd.keep {w w' : World} {g o : Nat} {l : List Nat} (h : Rd w g o l) (hk : ∀ i, i < l.length → w'.cell? ⟨g, o + i, none⟩ = w.cell? ⟨g, o + i, none⟩) : Rd w' g o l := fun i hi => (hk i hi).trans (h i hi)
theorem Rd.below {w w' : World} {g o : Nat} {l : List Nat} {B : Nat} (h : Rd w g o l) (hb : Below B w w') (hg : g < B) : Rd w' g o l := h.keep fun _ _ => hb.cell (p := ⟨g, _, none⟩) hg

theorem tail_zero (l : List Nat) (n : Nat) (hn : n < l.length) (h : l[n] = 0) : val (l.take n) = val (l.take (n + 1)) := by
  rw [List.take_succ_eq_append_getElem hn, val_append, h]; simp [val]

theorem trim_any (g o c : Nat) (l : List Nat) (hd : Dig l) (hl : l.length ≤ maxLen) (hcap : l.length ≤ c) (w : World) (hc : Rd w g o l) :
    Calls Tryd.prog 53 #[.slice (some ⟨g, o, none⟩) l.length c] w fun e w' =>
      e = .returned (.slice (some ⟨g, o, none⟩) (digs (val l)).length c) ∧ w = w' := by
  unfold maxLen at hl
  go_enter Tryd.func53, Tryd.ntmps53
  go_wp2
  go_loop [3] (fun x => ∃ n : Nat, n ≤ l.length ∧ x = .int .i64 n ∧ val (l.take n) = val l) (fun x => (intOf x).toNat)
  case atStart => exact ⟨l.length, Nat.le_refl _, rfl, by rw [List.take_length]⟩
  case round =>
    obtain ⟨n, hn, rfl, hv⟩ := hrel
    have HV := Lib.hid hv
    clear hv
    by_cases h0 : n = 0
    · subst h0
      have HE : Hid ((digs (val l)).length = 0) := by
        show _ = _
        rw [← HV.out]; simp [val, digs_zero]
      go_wp2
      go_ret
      exact ⟨congrArg (fun k : Nat => Ending.returned (.slice (some ⟨g, o, none⟩) k c)) HE.out.symm, rfl⟩
    · obtain ⟨m, rfl⟩ : ∃ m, n = m + 1 := ⟨n - 1, by omega⟩
      have hm : m < l.length := by omega
      have hcm : w.cell? ⟨g, o + m, none⟩ = some (.int .u64 ((l[m] : Nat) : Int)) := hc m hm
      by_cases hz : l[m] = 0
      · have HT := Lib.hid (tail_zero l m hm hz)
        rw [hz] at hcm
        clear hz
        go_wp2
        exact ⟨⟨m, by omega, rfl, by rw [HT.out, HV.out]⟩, by simp [intOf]⟩
      · have hb : (((l[m] : Nat) : Int) == 0) = false := by simp; omega
        have HE : Hid ((digs (val l)).length = m + 1) := by
          show _ = _
          rw [← HV.out, digs_val (hd.take _), List.length_take]
          · omega
          · intro hne
            rw [List.getLast_eq_getElem]
            simp only [List.length_take, List.getElem_take]
            simpa [Nat.min_eq_left hn] using hz
        go_wp2
        go_ret
        exact ⟨congrArg (fun k : Nat => Ending.returned (.slice (some ⟨g, o, none⟩) k c)) HE.out.symm, rfl⟩

theorem small_any (n : Nat) (w : World) :
    Calls Tryd.prog 41 #[natV n] w fun e w' => e = .returned (.bool (sm n)) ∧ Below w.heap.size w w' := by
  unfold natV
  have HE := Lib.hid (hs_empty n)
  go_enter Tryd.func41, Tryd.ntmps41
  go_wp2
  go_ret
  exact ⟨congrArg (fun k : Bool => Ending.returned (.bool k)) HE.out, (Below.refl _ _).alloc (Nat.le_refl _) _⟩

theorem of_any (d : Nat) (hd : d < Bs) (w : World) :
    Calls Tryd.prog 42 #[.int .u64 (d : Int)] w fun e w' => e = .returned (natV d) ∧ Below w.heap.size w w' := by
  go_enter Tryd.func42, Tryd.ntmps42
  go_wp2
  exact bodyPost_ret (v := natV d) (by simp [results, Tryd.results42, go_sem, natV, lo_small hd, hs_small hd]) rfl ⟨rfl, (Below.refl _ _).alloc (Nat.le_refl _) _⟩

theorem u64_small (n : Nat) (h : n < Bs) (w : World) :
    Calls Tryd.prog 51 #[natV n] w fun e w' => e = .returned (.tuple #[.int .u64 ((n : Nat) : Int), .bool true]) ∧ Below w.heap.size w w' := by
  have hsm := sm_true.2 h
  have HL := Lib.hid (lo_small h)
  go_enter Tryd.func51, Tryd.ntmps51
  go_wp2_with fail
  refine (small_any n _).mono ?_
  rintro e w1 ⟨rfl, hb1⟩
  obtain ⟨hc1, hf1⟩ := bcell hb1
  go_wp2
  go_ret2
  exact ⟨congrArg (fun k : Nat => Ending.returned (.tuple #[.int .u64 (k : Int), .bool true])) HL.out, ((Below.refl _ _).alloc (Nat.le_refl _) _).trans (hb1.mono (by simp))⟩
theorem u64_big (n : Nat) (h : Bs ≤ n) (w : World) :
    Calls Tryd.prog 51 #[natV n] w fun e w' => e = .returned (.tuple #[.int .u64 0, .bool false]) ∧ Below w.heap.size w w' := by
  have hsm := sm_false.2 h
  go_enter Tryd.func51, Tryd.ntmps51
  go_wp2_with fail
  refine (small_any n _).mono ?_
  rintro e w1 ⟨rfl, hb1⟩
  obtain ⟨hc1, hf1⟩ := bcell hb1
  go_wp2
  go_ret2
  exact ⟨rfl, ((Below.refl _ _).alloc (Nat.le_refl _) _).trans (hb1.mono (by simp))⟩
end Go.Proofs.YthehcjfmokabfaaDoor
