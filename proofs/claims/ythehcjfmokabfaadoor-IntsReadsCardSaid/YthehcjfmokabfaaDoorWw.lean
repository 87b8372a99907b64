/-
  Layer 1, walks W: strings.Repeat of "0", FormatUint.
-/
import Derived.Test.YthehcjfmokabfaaDoorShelf
import Derived.Test.YthehcjfmokabfaaDoorShelf2
import Derived.Lib.ItoaMem
import Derived.Test.YthehcjfmokabfaaDoorNd
import Derived.Test.YthehcjfmokabfaaDoorWa
import Derived.BigQuiet
import Derived.BigGuard
set_option linter.unusedVariables false
set_option linter.unusedSimpArgs false
namespace Go.Proofs.YthehcjfmokabfaaDoor
open Go.RowKit

theorem hp_no (s : ByteArray) (h : Lib.hasPrefix s.data.toList [48] = false) (w : World) :
    Calls Tryd.prog 80 #[.string s, .string ⟨#[48]⟩] w fun e w' => e = .returned (.bool false) ∧ w' = w := by
  refine (Tryd.strings_HasPrefix s ⟨#[48]⟩ w).mono ?_
  rintro e w' ⟨rfl, rfl⟩
  exact ⟨by rw [show Lib.hasPrefix s.data.toList (⟨#[48]⟩ : ByteArray).data.toList = false from h], rfl⟩
theorem hp_yes (s : ByteArray) (h : Lib.hasPrefix s.data.toList [48] = true) (w : World) :
    Calls Tryd.prog 80 #[.string s, .string ⟨#[48]⟩] w fun e w' => e = .returned (.bool true) ∧ w' = w := by
  refine (Tryd.strings_HasPrefix s ⟨#[48]⟩ w).mono ?_
  rintro e w' ⟨rfl, rfl⟩
  exact ⟨by rw [show Lib.hasPrefix s.data.toList (⟨#[48]⟩ : ByteArray).data.toList = true from h], rfl⟩

theorem rep_extract_fin : ∀ k : Fin 65, (⟨(List.replicate 64 (48 : UInt8)).toArray⟩ : ByteArray).extract 0 k.val = ⟨(List.replicate k.val (48 : UInt8)).toArray⟩ := by decide +kernel
theorem rep_extract (s : ByteArray) (hs : s.data.toList = List.replicate 64 48) (k : Nat) (h : k ≤ 64) : s.extract 0 k = ⟨(List.replicate k (48 : UInt8)).toArray⟩ := by
  have e : s = ⟨(List.replicate 64 (48 : UInt8)).toArray⟩ := by
    cases s with
    | mk d => rw [show d = d.toList.toArray by simp, hs]
  rw [e]
  exact rep_extract_fin ⟨k, by omega⟩

set_option maxHeartbeats 2000000 in
set_option maxRecDepth 100000 in
theorem rep0_many (k : Nat) (h2 : 2 ≤ k) (h : k ≤ 64) (w : World) :
    Calls Tryd.prog 55 #[.string ⟨#[48]⟩, .int .i64 (k : Int)] w fun e w' => e = .returned (.string ⟨(List.replicate k (48 : UInt8)).toArray⟩) ∧ Below w.heap.size w w' := by
  have h0 : (k : Int) ≠ 0 := by omega
  have h1 : (k : Int) ≠ 1 := by omega
  have h3 : decide ((k : Int) < 0) = false := decide_eq_false (by omega)
  have h4 : decide ((k : Int) ≤ 64) = true := decide_eq_true (by omega)
  have hw : IntKind.u64.wrap (k : Int) = (k : Int) := by rw [IntKind.wrap_u64]; omega
  have hM := Lib.hid (fun w => Tryd.bits_Mul 1 k (by omega) (by omega) w)
  rw [Nat.one_mul, Nat.div_eq_of_lt (by omega), Nat.mod_eq_of_lt (by omega)] at hM
  go_enter Tryd.func55, Tryd.ntmps55
  go_wp2_with fail
  refine (hM.out _).mono ?_
  rintro e w1 ⟨rfl, rfl⟩
  clear hM
  have h5 : decide ((k : Int) ≤ 128) = true := decide_eq_true (by omega)
  go_wp2_with fail
  refine (hp_no _ (by decide +kernel) _).mono ?_
  rintro e w2 ⟨rfl, rfl⟩
  go_wp2_with fail
  refine (hp_no _ (by decide +kernel) _).mono ?_
  rintro e w3 ⟨rfl, rfl⟩
  go_wp2_with fail
  refine (hp_yes _ (by decide +kernel) _).mono ?_
  rintro e w4 ⟨rfl, rfl⟩
  go_wp2_with fail
  exact bodyPost_ret (v := .string ⟨(List.replicate k (48 : UInt8)).toArray⟩) (by simp [-List.toArray_replicate, results, Tryd.results55, go_sem]; exact rep_extract _ (by decide +kernel) k h) rfl ⟨rfl, Below.refl _ _⟩

set_option maxRecDepth 100000 in
theorem rep0_any (k : Nat) (h : k ≤ 64) (w : World) :
    Calls Tryd.prog 55 #[.string ⟨#[48]⟩, .int .i64 (k : Int)] w fun e w' => e = .returned (.string ⟨(List.replicate k (48 : UInt8)).toArray⟩) ∧ Below w.heap.size w w' := by
  rcases Nat.lt_or_ge k 2 with h2 | h2
  · have h3 : k = 0 ∨ k = 1 := by omega
    rcases h3 with rfl | rfl
    · go_enter Tryd.func55, Tryd.ntmps55
      go_wp2_with fail
      exact bodyPost_ret (v := .string ⟨#[]⟩) (by simp [results, Tryd.results55, go_sem]) rfl ⟨rfl, Below.refl _ _⟩
    · go_enter Tryd.func55, Tryd.ntmps55
      go_wp2_with fail
      exact bodyPost_ret (v := .string ⟨#[48]⟩) (by simp [results, Tryd.results55, go_sem]) rfl ⟨rfl, Below.refl _ _⟩
  · exact rep0_many k h2 h w

/-- The table of the powers of ten lies where the program's start laid it. -/
def Tab (w : World) : Prop := Lib.TabIs Tryd.prog w "internal/strconv.uint64pow10" .u64 Lib.pow10Tab
theorem Tab.below {w w' : World} (h : Tab w) (hb : Below w.heap.size w w') : Tab w' := by
  unfold Tab Lib.TabIs World.var? at h ⊢
  cases hg : Tryd.prog.globalNamed "internal/strconv.uint64pow10" with
  | none => rw [hg] at h; simp at h
  | some g =>
    rw [hg] at h
    simp only [Option.bind_some] at h ⊢
    have hlt : g < w.heap.size := by
      rcases Nat.lt_or_ge g w.heap.size with h' | h'
      · exact h'
      · rw [Array.getElem?_eq_none h'] at h; cases h
    rw [hb.block g hlt]
    exact h

theorem holds0 (w : World) (T : TypeId) (nd : Nat) (hs : nd ≤ 24) : Sort.Holds (fun (b : UInt8) => Value.int .u8 (b.toNat : Int)) (w.alloc (.cells Lib.zeros24 T)) w.heap.size 0 (Array.replicate nd (0 : UInt8)) := fun j hj => by
  have hj' : j < nd := by simpa using hj
  refine ⟨?_, World.frozen?_alloc_new _ _ _ _⟩
  rw [World.cell?_alloc_new, Lib.zeros24_at _ (by omega), getElem!_pos _ j hj]
  simp

theorem fin0 (w : World) (o : Obj) (dk : Array UInt8) (k : Nat) : Below w.heap.size w ((Sort.putRow (fun (b : UInt8) => Value.int .u8 (b.toNat : Int)) (w.alloc o) w.heap.size 0 dk).drewN k) := by
  rw [Sort.alloc_eq_grow]
  obtain ⟨os', _, e⟩ := Sort.putRow_grow_new (fun (b : UInt8) => Value.int .u8 (b.toNat : Int)) w #[o] w.heap.size 0 dk (Nat.le_refl _)
  rw [e]
  refine ⟨rfl, rfl, rfl, ?_, ?_⟩
  · show _ ≤ (w.heap ++ os').size
    rw [Array.size_append]; omega
  · intro k hk
    show (w.heap ++ os')[k]? = _
    rw [Array.getElem?_append_left hk]

set_option maxHeartbeats 2000000 in
set_option maxRecDepth 100000 in
theorem fmtInner (u : Nat) (hu : u < Bs) (w : World) (htab : Tab w) :
    Calls Tryd.prog 77 #[.int .u64 (u : Int), .int .i64 10] w fun e w' => e = .returned (.string ⟨(Lib.decDigits u).toArray⟩) ∧ Below w.heap.size w w' := by
  have hu64 : u < 18446744073709551616 := hu
  rcases Nat.lt_or_ge u 100 with hs | hs
  · go_enter Tryd.func77, Tryd.ntmps77
    go_wp2_with (go_at_call 94; refine (Tryd.internal_strconv_small u hs _).mono ?_; rintro e w' ⟨rfl, rfl⟩)
    exact bodyPost_ret (v := .string ⟨(Lib.decDigits u).toArray⟩) (by simp [results, Tryd.results77, go_sem]) rfl ⟨rfl, Below.refl _ _⟩
  · have hu1 : 1 ≤ u := by omega
    have hnd20 : Lib.nDigits u ≤ 20 := by have := Lib.numDigits_eq u hu1 hu64; split at this <;> omega
    have hb3 : Lib.nDigits u ≤ 24 := by omega
    have hal : Tryd.prog.arrayLen 141 = 24 := by simp [Program.arrayLen, Tryd.underlying141]
    have hsl1 : ∀ W, (Instr.sliceAt 141 (.pointer (some ⟨w.heap.size, 0, none⟩)) none (some (.int .i64 (Lib.nDigits u : Int))) none).run Tryd.prog W = .ok (.slice (some ⟨w.heap.size, 0, none⟩) (Lib.nDigits u) 24) W := fun W => by
      rw [run_sliceAt_array_h W 141 ⟨w.heap.size, 0, none⟩ (by simp [Program.arrayLen, Program.elem, Tryd.underlying141]) .i64 (Lib.nDigits u : Int) (by omega) (by rw [hal]; omega)]
      go_simp
    have hH0 := holds0 w 141 (Lib.nDigits u) (by omega)
    have hfmt := Tryd.internal_strconv_formatBase10 w.heap.size 0 24 u (Array.replicate (Lib.nDigits u) 0) (w.alloc (.cells Lib.zeros24 141)) hH0 (by rw [Array.size_replicate]; exact Lib.lt_pow_nDigits u) hu64 (by rw [Array.size_replicate]; omega)
    rw [Array.size_replicate] at hfmt
    have HH0 := Lib.hid hH0
    clear hH0 hal
    have h100 : decide ((u : Int) < 100) = false := decide_eq_false (by omega)
    go_enter Tryd.func77, Tryd.ntmps77
    go_wp2_with (first
      | (go_at_call 95; refine (Tryd.internal_strconv_numDigits u hu1 hu64 _ (Lib.tabIs_alloc htab _)).mono ?_; rintro e w' ⟨rfl, rfl⟩))
    go_at_call 96
    refine hfmt.mono ?_
    rintro e w' ⟨rfl, k, v', dk, rfl, hF⟩
    have hcv : (convert 96 9 (.slice (some ⟨w.heap.size, 0, none⟩) (Lib.nDigits u) 24)).run Tryd.prog ((Sort.putRow (fun (b : UInt8) => Value.int .u8 (b.toNat : Int)) (w.alloc (.cells Lib.zeros24 141)) w.heap.size 0 dk).drewN k) = .ok (.string ⟨(Lib.decDigits u).toArray⟩) ((Sort.putRow (fun (b : UInt8) => Value.int .u8 (b.toNat : Int)) (w.alloc (.cells Lib.zeros24 141)) w.heap.size 0 dk).drewN k) := by
      have h := run_convert_bytes_back (P := Tryd.prog) ((Sort.putRow (fun (b : UInt8) => Value.int .u8 (b.toNat : Int)) (w.alloc (.cells Lib.zeros24 141)) w.heap.size 0 dk).drewN k) 96 9 5 ⟨w.heap.size, 0, none⟩ 24 (Lib.decDigits u) Tryd.underlying96 Tryd.underlying5 Tryd.underlying9 (fun j hj => by
        rw [Lib.row_is_numeral hF j hj, Lib.add_plain, World.cell?_drewN]
        exact Sort.cell?_putRow (fun (b : UInt8) => Value.int .u8 (b.toNat : Int)) _ w.heap.size 0 _ dk HH0.out (by rw [hF.size, Array.size_replicate]) j (by rw [hF.size]; rw [Lib.decDigits_length] at hj; exact hj))
      rw [Lib.decDigits_length] at h
      exact h
    have hb0 := fin0 w (.cells Lib.zeros24 141) dk k
    go_wp2
    exact bodyPost_ret (v := .string ⟨(Lib.decDigits u).toArray⟩) (by simp [results, Tryd.results77, go_sem]) rfl ⟨rfl, hb0⟩

set_option maxRecDepth 100000 in
theorem fmt_any (u : Nat) (hu : u < Bs) (w : World) (htab : Tab w) :
    Calls Tryd.prog 52 #[.int .u64 (u : Int), .int .i64 10] w fun e w' => e = .returned (.string ⟨(Lib.decDigits u).toArray⟩) ∧ Below w.heap.size w w' := by
  have H := Lib.hid (fmtInner u hu w htab)
  go_enter Tryd.func52, Tryd.ntmps52
  go_wp2_with fail
  refine H.out.mono ?_
  rintro e w1 ⟨rfl, hb⟩
  go_wp2_with fail
  exact bodyPost_ret (v := .string ⟨(Lib.decDigits u).toArray⟩) (by simp [results, Tryd.results52, go_sem]) rfl ⟨rfl, hb⟩
end Go.Proofs.YthehcjfmokabfaaDoor
