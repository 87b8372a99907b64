/-
  Layer 1, walks W: strings.Repeat of "0", FormatUint.
-/
import Derived.Test.YthehcjfmokabfaaGreatDoorYc
import Derived.Test.YthehcjfmokabfaaGreatDoorYi
import Derived.Lib.ItoaMem
import Derived.Test.YthehcjfmokabfaaGreatDoorYa
import Derived.BigQuiet
import Derived.BigGuard
import Derived.Lib.FrozenHead2
import Derived.Lib.OthersKept
import Derived.Deep.AppendLies
import Derived.Test.YthehcjfmokabfaaGreatDoorYd
set_option linter.unusedVariables false
set_option linter.unusedSimpArgs false
namespace Go.Proofs.YthehcjfmokabfaaGreatDoor
open Go.RowKit

theorem hp_no (s : ByteArray) (h : Lib.hasPrefix s.data.toList [48] = false) (w : World) :
    Calls Tryz.prog 122 #[.string s, .string ⟨#[48]⟩] w fun e w' => e = .returned (.bool false) ∧ w' = w := by
  refine (Tryz.strings_HasPrefix s ⟨#[48]⟩ w).mono ?_
  rintro e w' ⟨rfl, rfl⟩
  exact ⟨by rw [show Lib.hasPrefix s.data.toList (⟨#[48]⟩ : ByteArray).data.toList = false from h], rfl⟩
theorem hp_yes (s : ByteArray) (h : Lib.hasPrefix s.data.toList [48] = true) (w : World) :
    Calls Tryz.prog 122 #[.string s, .string ⟨#[48]⟩] w fun e w' => e = .returned (.bool true) ∧ w' = w := by
  refine (Tryz.strings_HasPrefix s ⟨#[48]⟩ w).mono ?_
  rintro e w' ⟨rfl, rfl⟩
  exact ⟨by rw [show Lib.hasPrefix s.data.toList (⟨#[48]⟩ : ByteArray).data.toList = true from h], rfl⟩

theorem rep_extract_fin : ∀ k : Fin 65, (⟨(List.replicate 64 (48 : UInt8)).toArray⟩ : ByteArray).extract 0 k.val = ⟨(List.replicate k.val (48 : UInt8)).toArray⟩ := by decide +kernel
theorem rep_extract (s : ByteArray) (hs : s.data.toList = List.replicate 64 48) (k : Nat) (h : k ≤ 64) : s.extract 0 k = ⟨(List.replicate k (48 : UInt8)).toArray⟩ := by
  have e : s = ⟨(List.replicate 64 (48 : UInt8)).toArray⟩ := by
    cases s with
    | mk d => rw [show d = d.toList.toArray by simp, hs]
  rw [e]
  exact rep_extract_fin ⟨k, by omega⟩

set_option maxHeartbeats 2000000 in
set_option maxRecDepth 100000 in
theorem rep0_many (k : Nat) (h2 : 2 ≤ k) (h : k ≤ 64) (w : World) :
    Calls Tryz.prog 88 #[.string ⟨#[48]⟩, .int .i64 (k : Int)] w fun e w' => e = .returned (.string ⟨(List.replicate k (48 : UInt8)).toArray⟩) ∧ Below w.heap.size w w' := by
  have h0 : (k : Int) ≠ 0 := by omega
  have h1 : (k : Int) ≠ 1 := by omega
  have h3 : decide ((k : Int) < 0) = false := decide_eq_false (by omega)
  have h4 : decide ((k : Int) ≤ 64) = true := decide_eq_true (by omega)
  have hw : IntKind.u64.wrap (k : Int) = (k : Int) := by rw [IntKind.wrap_u64]; omega
  have hM := Lib.hid (fun w => Tryz.bits_Mul 1 k (by omega) (by omega) w)
  rw [Nat.one_mul, Nat.div_eq_of_lt (by omega), Nat.mod_eq_of_lt (by omega)] at hM
  go_enter Tryz.func88, Tryz.ntmps88
  go_wp2_with fail
  refine (hM.out _).mono ?_
  rintro e w1 ⟨rfl, rfl⟩
  clear hM
  have h5 : decide ((k : Int) ≤ 128) = true := decide_eq_true (by omega)
  go_wp2_with fail
  refine (hp_no _ (by decide +kernel) _).mono ?_
  rintro e w2 ⟨rfl, rfl⟩
  go_wp2_with fail
  refine (hp_no _ (by decide +kernel) _).mono ?_
  rintro e w3 ⟨rfl, rfl⟩
  go_wp2_with fail
  refine (hp_yes _ (by decide +kernel) _).mono ?_
  rintro e w4 ⟨rfl, rfl⟩
  go_wp2_with fail
  exact bodyPost_ret (v := .string ⟨(List.replicate k (48 : UInt8)).toArray⟩) (by simp [-List.toArray_replicate, results, Tryz.results88, go_sem]; exact rep_extract _ (by decide +kernel) k h) rfl ⟨rfl, Below.refl _ _⟩

set_option maxRecDepth 100000 in
theorem rep0_any (k : Nat) (h : k ≤ 64) (w : World) :
    Calls Tryz.prog 88 #[.string ⟨#[48]⟩, .int .i64 (k : Int)] w fun e w' => e = .returned (.string ⟨(List.replicate k (48 : UInt8)).toArray⟩) ∧ Below w.heap.size w w' := by
  rcases Nat.lt_or_ge k 2 with h2 | h2
  · have h3 : k = 0 ∨ k = 1 := by omega
    rcases h3 with rfl | rfl
    · go_enter Tryz.func88, Tryz.ntmps88
      go_wp2_with fail
      exact bodyPost_ret (v := .string ⟨#[]⟩) (by simp [results, Tryz.results88, go_sem]) rfl ⟨rfl, Below.refl _ _⟩
    · go_enter Tryz.func88, Tryz.ntmps88
      go_wp2_with fail
      exact bodyPost_ret (v := .string ⟨#[48]⟩) (by simp [results, Tryz.results88, go_sem]) rfl ⟨rfl, Below.refl _ _⟩
  · exact rep0_many k h2 h w

/-- The table of the powers of ten lies where the program's start laid it. -/
def Tab (w : World) : Prop := Lib.TabIs Tryz.prog w "internal/strconv.uint64pow10" .u64 Lib.pow10Tab
theorem Tab.below {w w' : World} (h : Tab w) (hb : Below w.heap.size w w') : Tab w' := by
  unfold Tab Lib.TabIs World.var? at h ⊢
  cases hg : Tryz.prog.globalNamed "internal/strconv.uint64pow10" with
  | none => rw [hg] at h; simp at h
  | some g =>
    rw [hg] at h
    simp only [Option.bind_some] at h ⊢
    have hlt : g < w.heap.size := by
      rcases Nat.lt_or_ge g w.heap.size with h' | h'
      · exact h'
      · rw [Array.getElem?_eq_none h'] at h; cases h
    rw [hb.block g hlt]
    exact h

theorem holds0 (w : World) (T : TypeId) (nd : Nat) (hs : nd ≤ 24) : Sort.Holds (fun (b : UInt8) => Value.int .u8 (b.toNat : Int)) (w.alloc (.cells Lib.zeros24 T)) w.heap.size 0 (Array.replicate nd (0 : UInt8)) := fun j hj => by
  have hj' : j < nd := by simpa using hj
  refine ⟨?_, World.frozen?_alloc_new _ _ _ _⟩
  rw [World.cell?_alloc_new, Lib.zeros24_at _ (by omega), getElem!_pos _ j hj]
  simp

theorem fin0 (w : World) (o : Obj) (dk : Array UInt8) (k : Nat) : Below w.heap.size w ((Sort.putRow (fun (b : UInt8) => Value.int .u8 (b.toNat : Int)) (w.alloc o) w.heap.size 0 dk).drewN k) := by
  rw [Sort.alloc_eq_grow]
  obtain ⟨os', _, e⟩ := Sort.putRow_grow_new (fun (b : UInt8) => Value.int .u8 (b.toNat : Int)) w #[o] w.heap.size 0 dk (Nat.le_refl _)
  rw [e]
  refine ⟨rfl, rfl, rfl, ?_, ?_⟩
  · show _ ≤ (w.heap ++ os').size
    rw [Array.size_append]; omega
  · intro k hk
    show (w.heap ++ os')[k]? = _
    rw [Array.getElem?_append_left hk]

set_option maxHeartbeats 2000000 in
set_option maxRecDepth 100000 in
theorem fmtInner (u : Nat) (hu : u < Bs) (w : World) (htab : Tab w) :
    Calls Tryz.prog 118 #[.int .u64 (u : Int), .int .i64 10] w fun e w' => e = .returned (.string ⟨(Lib.decDigits u).toArray⟩) ∧ Below w.heap.size w w' := by
  have hu64 : u < 18446744073709551616 := hu
  rcases Nat.lt_or_ge u 100 with hs | hs
  · go_enter Tryz.func118, Tryz.ntmps118
    go_wp2_with (go_at_call 138; refine (Tryz.internal_strconv_small u hs _).mono ?_; rintro e w' ⟨rfl, rfl⟩)
    exact bodyPost_ret (v := .string ⟨(Lib.decDigits u).toArray⟩) (by simp [results, Tryz.results118, go_sem]) rfl ⟨rfl, Below.refl _ _⟩
  · have hu1 : 1 ≤ u := by omega
    have hnd20 : Lib.nDigits u ≤ 20 := by have := Lib.numDigits_eq u hu1 hu64; split at this <;> omega
    have hb3 : Lib.nDigits u ≤ 24 := by omega
    have hal : Tryz.prog.arrayLen 174 = 24 := by simp [Program.arrayLen, Tryz.underlying174]
    have hsl1 : ∀ W, (Instr.sliceAt 174 (.pointer (some ⟨w.heap.size, 0, none⟩)) none (some (.int .i64 (Lib.nDigits u : Int))) none).run Tryz.prog W = .ok (.slice (some ⟨w.heap.size, 0, none⟩) (Lib.nDigits u) 24) W := fun W => by
      rw [run_sliceAt_array_h W 174 ⟨w.heap.size, 0, none⟩ (by simp [Program.arrayLen, Program.elem, Tryz.underlying174]) .i64 (Lib.nDigits u : Int) (by omega) (by rw [hal]; omega)]
      go_simp
    have hH0 := holds0 w 174 (Lib.nDigits u) (by omega)
    have hfmt := Tryz.internal_strconv_formatBase10 w.heap.size 0 24 u (Array.replicate (Lib.nDigits u) 0) (w.alloc (.cells Lib.zeros24 174)) hH0 (by rw [Array.size_replicate]; exact Lib.lt_pow_nDigits u) hu64 (by rw [Array.size_replicate]; omega)
    rw [Array.size_replicate] at hfmt
    have HH0 := Lib.hid hH0
    clear hH0 hal
    have h100 : decide ((u : Int) < 100) = false := decide_eq_false (by omega)
    go_enter Tryz.func118, Tryz.ntmps118
    go_wp2_with (first
      | (go_at_call 139; refine (Tryz.internal_strconv_numDigits u hu1 hu64 _ (Lib.tabIs_alloc htab _)).mono ?_; rintro e w' ⟨rfl, rfl⟩))
    go_at_call 140
    refine hfmt.mono ?_
    rintro e w' ⟨rfl, k, v', dk, rfl, hF⟩
    have hcv : (convert 119 9 (.slice (some ⟨w.heap.size, 0, none⟩) (Lib.nDigits u) 24)).run Tryz.prog ((Sort.putRow (fun (b : UInt8) => Value.int .u8 (b.toNat : Int)) (w.alloc (.cells Lib.zeros24 174)) w.heap.size 0 dk).drewN k) = .ok (.string ⟨(Lib.decDigits u).toArray⟩) ((Sort.putRow (fun (b : UInt8) => Value.int .u8 (b.toNat : Int)) (w.alloc (.cells Lib.zeros24 174)) w.heap.size 0 dk).drewN k) := by
      have h := run_convert_bytes_back (P := Tryz.prog) ((Sort.putRow (fun (b : UInt8) => Value.int .u8 (b.toNat : Int)) (w.alloc (.cells Lib.zeros24 174)) w.heap.size 0 dk).drewN k) 119 9 5 ⟨w.heap.size, 0, none⟩ 24 (Lib.decDigits u) Tryz.underlying119 Tryz.underlying5 Tryz.underlying9 (fun j hj => by
        rw [Lib.row_is_numeral hF j hj, Lib.add_plain, World.cell?_drewN]
        exact Sort.cell?_putRow (fun (b : UInt8) => Value.int .u8 (b.toNat : Int)) _ w.heap.size 0 _ dk HH0.out (by rw [hF.size, Array.size_replicate]) j (by rw [hF.size]; rw [Lib.decDigits_length] at hj; exact hj))
      rw [Lib.decDigits_length] at h
      exact h
    have hb0 := fin0 w (.cells Lib.zeros24 174) dk k
    go_wp2
    exact bodyPost_ret (v := .string ⟨(Lib.decDigits u).toArray⟩) (by simp [results, Tryz.results118, go_sem]) rfl ⟨rfl, hb0⟩

set_option maxRecDepth 100000 in
theorem fmt_any (u : Nat) (hu : u < Bs) (w : World) (htab : Tab w) :
    Calls Tryz.prog 83 #[.int .u64 (u : Int), .int .i64 10] w fun e w' => e = .returned (.string ⟨(Lib.decDigits u).toArray⟩) ∧ Below w.heap.size w w' := by
  have H := Lib.hid (fmtInner u hu w htab)
  go_enter Tryz.func83, Tryz.ntmps83
  go_wp2_with fail
  refine H.out.mono ?_
  rintro e w1 ⟨rfl, hb⟩
  go_wp2_with fail
  exact bodyPost_ret (v := .string ⟨(Lib.decDigits u).toArray⟩) (by simp [results, Tryz.results83, go_sem]) rfl ⟨rfl, hb⟩
end Go.Proofs.YthehcjfmokabfaaGreatDoor

/-
  Layer 1, walks X: the builder: copyCheck, WriteString.
-/
namespace Go.Proofs.YthehcjfmokabfaaGreatDoor
open Go.RowKit

theorem sizeB : (Tryz.prog.info? 121).map (fun i => i.size) = some 2 := by kernel_rfl

theorem liesB : liesAt Tryz.prog Tryz.prog.depth 121 (2 / Tryz.prog.cellsOf 121) 0 121 1 = true := by kernel_rfl
theorem infoU8 : (Tryz.prog.info? 5).map (fun i => (i.zero, i.size, i.bytes)) = some (some (.int .u8 0), 1, 1) := by kernel_rfl

set_option maxHeartbeats 1000000 in
set_option maxRecDepth 100000 in
theorem check_used (b : Nat) (w : World) (h0 : w.cell? ⟨b, 0, none⟩ = some (.pointer (some ⟨b, 0, none⟩))) :
    Calls Tryz.prog 120 #[.pointer (some ⟨b, 0, none⟩)] w fun e w' => e = .returned (.tuple #[]) ∧ w' = w := by
  obtain ⟨j, hj, _⟩ := Option.map_eq_some_iff.1 sizeB
  go_enter Tryz.func120, Tryz.ntmps120
  go_wp2
  rw [Lib.run_neq_ptr_same w _ Tryz.underlying118 hj]
  go_wp2
  go_end0
  exact ⟨rfl, rfl⟩

set_option maxHeartbeats 1000000 in
set_option maxRecDepth 100000 in
theorem check_fresh (b : Nat) (w : World) (h0 : w.cell? ⟨b, 0, none⟩ = some (.pointer none)) (hsh : w.shape? b = some (121, 2)) (hfz : w.frozen? ⟨b, 0, none⟩ = false) :
    Calls Tryz.prog 120 #[.pointer (some ⟨b, 0, none⟩)] w fun e w' => e = .returned (.tuple #[]) ∧ w' = w.setCell ⟨b, 0, none⟩ (.pointer (some ⟨b, 0, none⟩)) := by
  obtain ⟨j, hj, hjs⟩ := Option.map_eq_some_iff.1 sizeB
  go_enter Tryz.func120, Tryz.ntmps120
  go_wp2
  rw [Lib.run_to_unsafe w ⟨b, 0, none⟩ Tryz.underlying118 Tryz.underlying178 hj (by rw [hjs]; decide) hsh (Nat.zero_lt_succ 1)]
  simp only [Result.andThen]
  rw [Oper.upon_value]
  go_wp2
  rw [run_callFunc_extern Tryz.func142 (by kernel_rfl) (by kernel_rfl) (by kernel_rfl) (e := Extern.AbiNoEscape.same) (by kernel_rfl)]
  rw [Lib.run_noEscape]
  simp only [Result.andThen]
  rw [Oper.upon_value]
  go_wp2
  rw [Lib.run_from_unsafe w ⟨b, 0, none⟩ Tryz.underlying178 Tryz.underlying118 hj hsh liesB]
  simp only [Result.andThen]
  rw [Oper.upon_value]
  go_wp2
  go_end0
  exact ⟨rfl, rfl⟩

theorem check_any (B b : Nat) (bs : List Value) (w : World) (h : Lib.IsBuilderF 121 5 B b bs w) :
    Calls Tryz.prog 120 #[.pointer (some ⟨b, 0, none⟩)] w fun e w' => e = .returned (.tuple #[]) ∧ (Lib.BuilderAtF 121 5 B b (.pointer (some ⟨b, 0, none⟩)) bs w' ∧ Below B w w' ∧ Lib.OthersKept 5 (some b) w w') := by
  rcases h with h | h
  · refine (check_fresh b w h.cell0 h.shape h.frozen0).mono ?_
    rintro e w' ⟨rfl, rfl⟩
    exact ⟨rfl, h.used _, (Below.refl B w).setCell (p := ⟨b, 0, none⟩) h.1 _, (Lib.OthersKept.refl _ _ w).setCell ⟨b, 0, none⟩ rfl _⟩
  · refine (check_used b w h.cell0).mono ?_
    rintro e w' ⟨rfl, rfl⟩
    exact ⟨rfl, h, Below.refl B _, Lib.OthersKept.refl _ _ _⟩

set_option maxHeartbeats 2000000 in
set_option maxRecDepth 100000 in
theorem write_any (B b : Nat) (bs : List Value) (s : ByteArray) (w : World) (h : Lib.IsBuilderF 121 5 B b bs w) (hlen : bs.length + s.size ≤ 140737488355328) (hBw : B ≤ w.heap.size) :
    Calls Tryz.prog 87 #[.pointer (some ⟨b, 0, none⟩), .string s] w fun e w' => e = .returned (.tuple #[.int .i64 s.size, .nilIface]) ∧ (Lib.IsBuilderF 121 5 B b (bs ++ Lib.strCells s) w' ∧ Below B w w' ∧ Lib.OthersKept 5 (some b) w w') := by
  obtain ⟨i0, hi, hz0, hz1, hz2⟩ := info_parts infoU8
  go_enter Tryz.func87, Tryz.ntmps87
  go_wp2_with (go_at_call 120; refine (check_any B b bs _ h).mono ?_)
  rintro e w1 ⟨rfl, h1, hb1, hk1⟩
  obtain ⟨hB, v, hbk, hown, hne⟩ := h1
  have c0 : w1.cell? ⟨b, 0, none⟩ = some (.pointer (some ⟨b, 0, none⟩)) := by rw [Lib.cell_of_heap hbk]; rfl
  have c1 : w1.cell? ⟨b, 1, none⟩ = some v := by rw [Lib.cell_of_heap hbk]; rfl
  go_wp2_with (at_builtin; refine Lib.wpList_append_own_stringF _ rfl _ _ 119 9 rfl B 5 i0 Tryz.underlying119 Tryz.underlying9 hi hz0 hz1 hz2 _ _ _ rfl hown s rfl ?c3 ?c4 ?c5 ?_)
  case c3 => unfold maxLen; omega
  case c4 => omega
  case c5 => have := hb1.size; omega
  intro v' w2 hown' hgrow _
  have hlt : b < w1.heap.size := by
    rcases Nat.lt_or_ge b w1.heap.size with h' | h'
    · exact h'
    · simp [Array.getElem?_eq_none h'] at hbk
  have hb2 : w2.heap[b]? = some (.cells #[.pointer (some ⟨b, 0, none⟩), v] 121 (0, 0)) := by
    rw [hgrow.block b hlt (fun e => hne e.symm)]
    exact hbk
  have d0 : w2.cell? ⟨b, 0, none⟩ = some (.pointer (some ⟨b, 0, none⟩)) := by rw [Lib.cell_of_heap hb2]; rfl
  have d1 : w2.cell? ⟨b, 1, none⟩ = some v := by rw [Lib.cell_of_heap hb2]; rfl
  have f1 : w2.frozen? ⟨b, 1, none⟩ = false := Lib.frozen_of_heap hb2 1
  obtain ⟨ao, n', cap, rfl⟩ : ∃ ao n' cap, v' = .slice ao n' cap := by
    rcases hown'.2 with ⟨hv, _⟩ | ⟨g, cap, cur, fz, hv, _⟩
    · exact ⟨_, _, _, hv⟩
    · exact ⟨_, _, _, hv⟩
  go_wp2
  go_ret2
  refine ⟨rfl, ?_, ?_, (hk1.grown hgrow (Lib.ownsRowF_kind hown)).setCell ⟨b, 1, none⟩ rfl _⟩
  · exact .inr (Lib.BuilderAtF.put (T := 121) (e := 5) hB hb2 (bs' := bs ++ Lib.strCells s) (by simpa [Lib.strCells_length] using hown') (by decide))
  · exact (hb1.grown hgrow (by have := hb1.size; omega) (fun k hk => (hown.lt k hk).1)).setCell (p := ⟨b, 1, none⟩) hB _
end Go.Proofs.YthehcjfmokabfaaGreatDoor

/-
  Layer 1, walks Y: Text.
-/
namespace Go.Proofs.YthehcjfmokabfaaGreatDoor
open Go.RowKit
attribute [local irreducible] lo hs sm s64 c64 d64 b64 mh ml pd pc qd qc val hiB str cmpI srD lz nb isq

/-- The text of a number, as a value. -/
def txt (n : Nat) : ByteArray := ⟨(Lib.decDigits n).toArray⟩

set_option maxHeartbeats 2000000 in
set_option maxRecDepth 100000 in
theorem text_small (n : Nat) (h : n < Bs) (w : World) (htab : Tab w) :
    Calls Tryz.prog 34 #[natV n] w fun e w' => e = .returned (.string (txt n)) ∧ Below w.heap.size w w' := by
  obtain ⟨w0, hw0, hA, hb0, hsz0⟩ := boxes1 w (.int .u64 ((lo n : Nat) : Int)) (.string (hs n)) 32
  obtain ⟨a0, a1, af⟩ := id hA
  have HS := Lib.hid (fun w => small_any n w)
  have HF := Lib.hid (fun w ht => fmt_any (lo n) (lo_lt n) w ht)
  have hsm : sm n = true := sm_true.2 h
  rw [hsm] at HS
  have HL := Lib.hid (lo_small h)
  have ht0 : Tab w0 := htab.below hb0
  go_enter Tryz.func34, Tryz.ntmps34
  go_wp2_with fail
  refine (HS.out _).mono ?_
  rintro e w1 ⟨rfl, hb1⟩
  obtain ⟨c0, c1, cf⟩ := hA.below hb1 hsz0
  have ht1 := Lib.hid (ht0.below hb1)
  clear a0 a1 af hA ht0
  go_wp2_with fail
  refine (HF.out _ ht1.out).mono ?_
  rintro e w2 ⟨rfl, hb2⟩
  go_wp2_with fail
  have e : txt n = ⟨(Lib.decDigits (lo n)).toArray⟩ := by unfold txt; rw [HL.out]
  have s0 := hb0.size
  have s1 := hb1.size
  exact bodyPost_ret (v := .string (txt n)) (by simp [results, Tryz.results34, go_sem, e]) rfl ⟨rfl, (hb0.trans (hb1.mono s0)).trans (hb2.mono (by omega))⟩

/-- The length of a slice, out of its value. -/
def sLen : Value → Nat
  | .slice _ n _ => n
  | _ => 0

def chunkV (a j : Nat) : Value := .int .u64 ((a / CB ^ j % CB : Nat) : Int)
def chunksV (a k : Nat) : List Value := (List.range k).map (chunkV a)
theorem chunksV_length (a k : Nat) : (chunksV a k).length = k := by simp [chunksV]
theorem chunksV_succ (a k : Nat) : chunksV a (k + 1) = chunksV a k ++ [chunkV a k] := by simp [chunksV, List.range_succ]
theorem chunksV_at (a k j : Nat) (h : j < k) : (chunksV a k)[j]? = some (chunkV a j) := by simp [chunksV, h]

theorem infoU64 : (Tryz.prog.info? 30).map (fun i => (i.zero, i.size, i.bytes)) = some (some (.int .u64 0), 1, 8) := by kernel_rfl

/-- The chunks of the number, in a row of the call's own. -/
def Ch (w : World) (B a : Nat) (ch : Value) (k : Nat) : Prop := w.ownsRow B 30 1 ch k (chunksV a k)

theorem Ch.form {w : World} {B a k : Nat} {ch : Value} (h : Ch w B a ch k) : ∃ ao c, ch = .slice ao k c := by
  rcases h.2 with ⟨rfl, rfl⟩ | ⟨g, c, cur, rfl, _⟩
  · exact ⟨_, _, rfl⟩
  · exact ⟨_, _, rfl⟩
theorem Ch.keep {w w' : World} {B a k : Nat} {ch : Value} (h : Ch w B a ch k) {row : Option Nat} (hg : w.grownBy w' row) (hne : ch.ownBlock = none ∨ ch.ownBlock ≠ row) : Ch w' B a ch k := World.ownsRow.kept h hg hne

theorem below_none {w w' : World} (h : Below w.heap.size w w') : w.grownBy w' none := ⟨h.os, h.tape, h.output, h.size, fun k hk _ => h.block k hk⟩
theorem Ch.below {w w' : World} {B a k : Nat} {ch : Value} (h : Ch w B a ch k) (hb : Below w.heap.size w w') : Ch w' B a ch k := by
  refine h.keep (below_none hb) ?_
  rcases Ch.form h with ⟨ao, c, rfl⟩
  cases ao with
  | none => exact .inl rfl
  | some a => exact .inr (by simp [Value.ownBlock])

theorem chunk_bound {a top L : Nat} (hl : (digs a).length ≤ L) (h : 0 < a / CB ^ top) : top ≤ 2 * L := by
  have h1 : CB ^ top ≤ a := by
    rcases Nat.lt_or_ge a (CB ^ top) with h' | h'
    · rw [Nat.div_eq_of_lt h'] at h; omega
    · exact h'
  have h2 := digs_length_iff.1 hl
  have h3 : Bs ^ L ≤ CB ^ (2 * L) := by
    rw [Nat.pow_mul]
    exact Nat.pow_le_pow_left (by unfold Bs CB; decide) L
  have h4 : CB ^ top < CB ^ (2 * L) := Nat.lt_of_le_of_lt h1 (Nat.lt_of_lt_of_le h2 h3)
  exact Nat.le_of_lt ((Nat.pow_lt_pow_iff_right CB_gt).1 h4)

theorem divC (g c q : Nat) (Z : List Nat) (hq : (digs q).length ≤ 1000000) (w : World) (hdb : DB w g (digs q ++ Z)) :
    Calls Tryz.prog 86 #[.slice (some ⟨g, 0, none⟩) (digs q).length c, .int .u64 10000000000000000000] w fun e w' =>
      e = .returned (.int .u64 ((q % CB : Nat) : Int)) ∧ ∃ (Z' : List Nat) (Q : List Nat), Q.length = (digs q).length ∧ Dig Q ∧ val Q = q / CB ∧ DB w' g (Q ++ Z) ∧ DB w' g (digs (q / CB) ++ Z') ∧ w.grownBy w' (some g) := by
  refine (divD g c q CB Z CB_pos (by unfold CB Bs; omega) (by omega) w hdb).mono ?_
  rintro e w' ⟨rfl, Q, h1, h2, h3, h4, h5⟩
  obtain ⟨z, hz⟩ := norm Q h2
  refine ⟨rfl, List.replicate z 0 ++ Z, Q, h1, h2, h3, h4, ?_, h5⟩
  rw [← List.append_assoc, ← h3, ← hz]; exact h4

theorem trimQ (g c n q : Nat) (Q Z : List Nat) (hl : Q.length = n) (hd : Dig Q) (hv : val Q = q) (hn : n ≤ 1000000) (hc : n ≤ c) (w : World) (hdb : DB w g (Q ++ Z)) :
    Calls Tryz.prog 85 #[.slice (some ⟨g, 0, none⟩) n c] w fun e w' => e = .returned (.slice (some ⟨g, 0, none⟩) (digs q).length c) ∧ w = w' := by
  subst hl; subst hv
  exact trim_any g 0 c Q hd (by unfold maxLen; omega) hc w hdb.rdl

theorem chunk_zero {a k K : Nat} (hK : 0 < a / CB ^ (K - 1)) (hk : k < K) : 0 < a / CB ^ k :=
  Nat.lt_of_lt_of_le hK (Nat.div_le_div_left (Nat.pow_le_pow_right CB_pos (by omega)) (Nat.pow_pos CB_pos))

/-- The row of the chunks, as it lies. -/
def CR (w : World) (gC a K : Nat) : Prop := ∃ cur : Array Value, w.heap[gC]? = some (.cells cur 30 (0, 0)) ∧ ∀ j, j < K → cur[j]? = some (chunkV a j)
theorem CR.cell {w : World} {gC a K : Nat} (h : CR w gC a K) (j : Nat) (hj : j < K) : w.cell? ⟨gC, j, none⟩ = some (.int .u64 ((a / CB ^ j % CB : Nat) : Int)) := by
  obtain ⟨cur, h1, h2⟩ := h
  rw [cell_of_row w gC j cur _ _ h1, h2 j hj]; rfl
theorem CR.below {w w' : World} {gC a K B : Nat} (h : CR w gC a K) (hb : Below B w w') (hg : gC < B) : CR w' gC a K := by
  obtain ⟨cur, h1, h2⟩ := h
  exact ⟨cur, (hb.block gC hg).trans h1, h2⟩
theorem Ch.row {w : World} {B a k : Nat} {ch : Value} (h : Ch w B a ch k) (hk : 0 < k) : ∃ gC c, ch = .slice (some ⟨gC, 0, none⟩) k c ∧ gC < w.heap.size ∧ CR w gC a k := by
  obtain ⟨h1, h2⟩ := h
  rcases h2 with ⟨_, rfl⟩ | ⟨g, c, cur, rfl, hb, hg, hnc, hcm, hcs, ht⟩
  · omega
  · refine ⟨g, c, rfl, (Array.getElem?_eq_some_iff.1 hg).1, cur, hg, fun j hj => ?_⟩
    rw [Nat.mul_one] at ht
    have h3 := congrArg (fun l : List Value => l[j]?) ht
    simp only [chunksV_at a k j hj, List.getElem?_take, if_pos hj] at h3
    simpa using h3

theorem bf_below {B b : Nat} {bs : List Value} {w w' : World} (h : Lib.IsBuilderF 121 5 B b bs w) (hb : Below w.heap.size w w') : Lib.IsBuilderF 121 5 B b bs w' := by
  have key : ∀ p, Lib.BuilderAtF 121 5 B b p bs w → Lib.BuilderAtF 121 5 B b p bs w' := by
    intro p h
    have hlt := h.lt
    obtain ⟨hB, v, hbk, hown, hne⟩ := h
    refine ⟨hB, v, (hb.block b hlt).trans hbk, hown.kept (row := none) (below_none hb) ?_, hne⟩
    cases v.ownBlock with
    | none => exact .inl rfl
    | some x => exact .inr (by simp)
  rcases h with h | h
  · exact .inl (key _ h)
  · exact .inr (key _ h)

theorem write_l (B b : Nat) (l m : List UInt8) (w : World) (h : Lib.IsBuilderF 121 5 B b (Lib.byteCells l) w) (hlen : l.length + m.length ≤ 140737488355328) (hBw : B ≤ w.heap.size) :
    Calls Tryz.prog 87 #[.pointer (some ⟨b, 0, none⟩), .string ⟨m.toArray⟩] w fun e w' => e = .returned (.tuple #[.int .i64 m.length, .nilIface]) ∧ Lib.IsBuilderF 121 5 B b (Lib.byteCells (l ++ m)) w' ∧ Below B w w' := by
  refine (write_any B b (Lib.byteCells l) ⟨m.toArray⟩ w h (by rw [Lib.byteCells_length]; exact hlen) hBw).mono ?_
  rintro e w' ⟨rfl, h1, h2, -⟩
  refine ⟨rfl, ?_, h2⟩
  rw [Lib.byteCells_append]; exact h1

theorem dec_len_bound {n L : Nat} (hl : (digs n).length ≤ L) (hL : 0 < L) : (Lib.decDigits n).length ≤ 20 * L := by
  refine (dec_length_lt (by omega)).2 ?_
  refine Nat.lt_of_lt_of_le (digs_length_iff.1 hl) ?_
  rw [Nat.pow_mul]
  exact Nat.pow_le_pow_left (by unfold Bs; decide) L

theorem chunk_last {a top : Nat} (hend : a / CB ^ (top + 1) = 0) : a / CB ^ top % CB = a / CB ^ top := by
  have := chunk_split a top
  rw [hend, Nat.zero_mul, Nat.zero_add] at this
  exact this.symm

set_option maxHeartbeats 2000000 in
set_option maxRecDepth 100000 in
theorem text_big (a : Nat) (h : ¬ a < Bs) (hl : (digs a).length ≤ 1000000) (w : World) (htab : Tab w) :
    Calls Tryz.prog 34 #[natV a] w fun e w' => e = .returned (.string (txt a)) ∧ Below w.heap.size w w' := by
  obtain ⟨w0, hw0, hA, hb0, hsz0⟩ := boxes1 w (.int .u64 ((lo a : Nat) : Int)) (.string (hs a)) 32
  obtain ⟨a0, a1, af⟩ := id hA
  have HS := Lib.hid (fun w => small_any a w)
  have hsm : sm a = false := sm_false.2 (by omega)
  rw [hsm] at HS
  have HD := Lib.hid (fun w => digits_any a (by omega) w)
  have ht0 : Tab w0 := htab.below hb0
  clear hsm
  go_enter Tryz.func34, Tryz.ntmps34
  go_wp2_with fail
  refine (HS.out _).mono ?_
  rintro e w1 ⟨rfl, hb1⟩
  obtain ⟨c0, c1, cf⟩ := hA.below hb1 hsz0
  have ht1 := ht0.below hb1
  have hB1 := hb0.trans (hb1.mono hb0.size)
  have hs1 := Nat.lt_of_lt_of_le hsz0 hb1.size
  clear a0 a1 af hA ht0 HS hb0 hb1 hw0 hsz0
  go_wp2_with fail
  refine (HD.out _).mono ?_
  rintro e w2 ⟨g, c, z, rfl, hc, hg, hd, hb2⟩
  have ht2 := ht1.below hb2
  have hB2 := hB1.trans (hb2.mono (by omega))
  have hs2 := Nat.lt_of_lt_of_le hs1 hb2.size
  clear c0 c1 cf ht1 HD hb2 hB1
  obtain ⟨top, htop, hend⟩ := chunk_top a (by unfold Bs at h; omega)
  obtain ⟨i0, hi, hz0, hz1, hz2⟩ := info_parts infoU64
  have htb : top ≤ 2 * 1000000 := chunk_bound hl htop
  have hg0 : w.heap.size ≤ g := by omega
  clear h hg
  go_wp2_with fail
  go_loopw [3, 4] (fun ch d wr => ∃ (k gD cD : Nat) (Z : List Nat), k ≤ top + 1 ∧ d = .slice (some ⟨gD, 0, none⟩) (digs (a / CB ^ k)).length cD ∧ (digs (a / CB ^ k)).length ≤ cD ∧ DB wr gD (digs (a / CB ^ k) ++ Z) ∧ Ch wr w.heap.size a ch k ∧ ch.ownBlock ≠ some gD ∧ Below w.heap.size w wr ∧ w.heap.size ≤ gD) (fun ch _ _ => top + 1 - sLen ch)
  case atStart =>
    refine ⟨0, g, c, List.replicate z 0, Nat.zero_le _, ?_, ?_, ?_, ⟨rfl, .inl ⟨rfl, rfl⟩⟩, by simp [Value.ownBlock], hB2, hg0⟩
    · rw [Nat.pow_zero, Nat.div_one]
    · rw [Nat.pow_zero, Nat.div_one]; exact hc
    · rw [Nat.pow_zero, Nat.div_one]; exact hd
  case round =>
    obtain ⟨k, gD, cD, Z, hk, rfl, hcD, hdD, hch, hne, hBr, hgD⟩ := hrel
    clear hd hg0 ht2 hB2 hs2 hc
    obtain ⟨ao, cc, rfl⟩ := hch.form
    obtain ⟨q, hq⟩ : ∃ q, q = a / CB ^ k := ⟨_, rfl⟩
    have hlq : (digs q).length ≤ 1000000 := by rw [hq]; exact Nat.le_trans (digs_mono (Nat.div_le_self _ _)) hl
    rw [← hq] at hcD hdD
    have hq0 : q = 0 → k = top + 1 := by
      intro h0
      rcases Nat.lt_or_ge k (top + 1) with h' | h'
      · have := chunk_zero (K := top + 1) (by rw [Nat.add_sub_cancel]; exact htop) h'
        omega
      · omega
    have hq1 : 0 < q → k ≤ top := by
      intro h0
      rcases Nat.lt_or_ge top k with h' | h'
      · obtain rfl : k = top + 1 := by omega
        omega
      · exact h'
    rw [← hq]
    have HQ := Lib.hid hq
    clear hq
    rcases Nat.eq_zero_or_pos q with h0 | h0
    · obtain rfl := hq0 h0
      subst h0
      obtain ⟨gC, cC, hcc, hgC, hCR⟩ := hch.row (Nat.succ_pos top)
      have hcc1 : ao = some ⟨gC, 0, none⟩ ∧ cc = cC := by simpa using hcc
      obtain ⟨rfl, rfl⟩ := hcc1
      have hd0 : digs 0 = [] := digs_zero
      have hl0 : decide (0 < (digs 0).length) = false := by rw [hd0]; rfl
      clear hq0 hq1 hch hcc hdD hcD HQ hne hi hz0 hz1 hz2
      have hcell := hCR.cell top (by omega)
      rw [chunk_last hend] at hcell
      obtain ⟨m, hm⟩ : ∃ m, m = a / CB ^ top := ⟨_, rfl⟩
      have hmB : m < Bs := by rw [hm, ← chunk_last hend]; exact Nat.lt_trans (Nat.mod_lt _ CB_pos) (by unfold CB Bs; omega)
      have hla := dec_len_bound hl (by omega)
      have hlm : (Lib.decDigits m).length ≤ 20 * 1000000 := dec_len_bound (by rw [hm]; exact Nat.le_trans (digs_mono (Nat.div_le_self _ _)) hl) (by omega)
      rw [← hm] at hcell
      obtain ⟨wb, hwb⟩ : ∃ wb, wr.alloc (.cells #[.pointer none, .slice none 0 0] 121) = wb := ⟨_, rfl⟩
      have hbb : Below wr.heap.size wr wb := by rw [← hwb]; exact (Below.refl _ _).alloc (Nat.le_refl _) _
      have hIB : Lib.IsBuilderF 121 5 wr.heap.size wr.heap.size (Lib.byteCells []) wb := by rw [← hwb]; exact Lib.IsBuilderF.of (Lib.fresh_isBuilder _ _ wr)
      have hsb : wr.heap.size < wb.heap.size := by rw [← hwb]; simp
      have hcb := (hbb.cell (p := ⟨gC, top, none⟩) hgC).trans hcell
      have HM := Lib.hid hm
      have htr := Lib.hid (htab.below hBr)
      have htb' := Lib.hid (htr.out.below hbb)
      have HF := Lib.hid (fun w ht => fmt_any m hmB w ht)
      clear hm hcell hd0
      go_wp2_with fail
      with_reducible refine Calls.mono (HF.out _ htb'.out) ?_
      rintro e w3 ⟨rfl, hb3⟩
      have hB3 := hbb.trans (hb3.mono hbb.size)
      have hI3 := bf_below hIB hb3
      have hs3 := hB3.size
      have HW := Lib.hid (write_l wr.heap.size wr.heap.size [] (Lib.decDigits m) w3 hI3 (by simp; omega) hs3)
      clear HF hI3 hIB hb3 hbb hwb hcb hsb hl0
      go_wp2_with fail
      with_reducible refine Calls.mono HW.out ?_
      rintro e w4 ⟨rfl, hI4, hb4⟩
      have hB4 := hB3.trans hb4
      have hs4 := hB4.size
      rw [List.nil_append, HM.out] at hI4
      clear HW hB3 hb4 hs3 hlm hmB HM htb'
      go_wp2_with fail
      go_loopw [36] (fun z wx => ∃ i : Nat, i ≤ top ∧ z = .int .i64 i ∧ Lib.IsBuilderF 121 5 wr.heap.size wr.heap.size (Lib.byteCells (Lib.decDigits (a / CB ^ (top - i)))) wx ∧ Below wr.heap.size wr wx) (fun z _ => top - (intOf z).toNat)
      case atStart => exact ⟨0, Nat.zero_le _, rfl, hI4, hB4⟩
      case round =>
        obtain ⟨i, hi, rfl, hIx, hBx⟩ := hrel
        clear hI4 hB4 hs4
        have hsx := hBx.size
        rcases Nat.lt_or_eq_of_le hi with hiT | rfl
        · have hdec := chunk_dec a (top - 1 - i) (by rw [show top - 1 - i + 1 = top - i by omega]; exact chunk_zero (K := top + 1) (by rw [Nat.add_sub_cancel]; exact htop) (by omega))
          rw [show top - 1 - i + 1 = top - i by omega] at hdec
          have hc := (hCR.below hBx hgC).cell (top - 1 - i) (by omega)
          have hlN : (Lib.decDigits (a / CB ^ (top - 1 - i))).length ≤ 20 * 1000000 := dec_len_bound (Nat.le_trans (digs_mono (Nat.div_le_self _ _)) hl) (by omega)
          have huB : a / CB ^ (top - 1 - i) % CB < Bs := Nat.lt_trans (Nat.mod_lt _ CB_pos) (by unfold CB Bs; omega)
          obtain ⟨u, hu⟩ : ∃ u, u = a / CB ^ (top - 1 - i) % CB := ⟨_, rfl⟩
          rw [← hu] at hdec hc huB
          obtain ⟨nx, hnx⟩ : ∃ nx, nx = a / CB ^ (top - 1 - i) := ⟨_, rfl⟩
          obtain ⟨pv, hpv⟩ : ∃ pv, pv = a / CB ^ (top - i) := ⟨_, rfl⟩
          rw [← hnx, ← hpv] at hdec
          rw [← hnx] at hlN
          rw [← hpv] at hIx
          have HN := Lib.hid hnx
          clear hu hnx hpv
          obtain ⟨hdec, hlu⟩ := hdec
          rw [hdec, List.length_append, List.length_append, List.length_replicate] at hlN
          have HDec := Lib.hid hdec
          clear hdec
          have HF := Lib.hid (fun w ht => fmt_any u huB w ht)
          have htx := Lib.hid (htr.out.below (hBx))
          have hlu2 : (19 : Int) - ((Lib.decDigits u).length : Int) = ((19 - (Lib.decDigits u).length : Nat) : Int) := by omega
          have HR := Lib.hid (fun w => rep0_any (19 - (Lib.decDigits u).length) (by omega) w)
          obtain ⟨zl, hzl⟩ : ∃ zl, zl = 19 - (Lib.decDigits u).length := ⟨_, rfl⟩
          rw [← hzl] at HR hlu2 hlN HDec
          obtain ⟨rp, hrp⟩ : ∃ rp, rp = List.replicate zl (48 : UInt8) := ⟨_, rfl⟩
          have hrl : rp.length = zl := by rw [hrp, List.length_replicate]
          rw [← hrp] at HR HDec
          clear hrp
          go_wp2_with fail
          with_reducible refine Calls.mono (HF.out _ htx.out) ?_
          rintro e w5 ⟨rfl, hb5⟩
          have hI5 := bf_below hIx hb5
          have hB5 := hBx.trans (hb5.mono hsx)
          have hs5 := hB5.size
          clear HF hIx hb5 hBx hsx hc htx hzl hlu
          obtain ⟨su, hsu⟩ : ∃ su, su = Lib.decDigits u := ⟨_, rfl⟩
          rw [← hsu] at hlu2 hlN HDec ⊢
          have hsl : (⟨su.toArray⟩ : ByteArray).size = su.length := rfl
          clear hsu
          go_wp2_with fail
          with_reducible refine Calls.mono (HR.out _) ?_
          rintro e w6 ⟨rfl, hb6⟩
          have hI6 := bf_below hI5 hb6
          have hB6 := hB5.trans (hb6.mono hs5)
          have hs6 := hB6.size
          have HW6 := Lib.hid (write_l _ _ (Lib.decDigits pv) rp w6 hI6 (by omega) hs6)
          clear HR hI5 hb6 hB5 hs5 hlu2
          go_wp2_with fail
          with_reducible refine Calls.mono HW6.out ?_
          rintro e w7 ⟨rfl, hI7, hb7⟩
          have hB7 := hB6.trans hb7
          have hs7 := hB7.size
          have HW7 := Lib.hid (write_l _ _ (Lib.decDigits pv ++ rp) su w7 hI7 (by rw [List.length_append]; omega) hs7)
          clear HW6 hI6 hb7 hB6 hs6
          go_wp2_with fail
          with_reducible refine Calls.mono HW7.out ?_
          rintro e w8 ⟨rfl, hI8, hb8⟩
          have hB8 := hB7.trans hb8
          rw [List.append_assoc, ← HDec.out, HN.out, show top - 1 - i = top - (i + 1) by omega] at hI8
          clear HW7 hI7 hb8 hB7 hs7
          go_wp2_with fail
          go_roundw
          case rel => exact ⟨i + 1, by omega, rfl, hI8, hB8⟩
          case measure => simp [intOf]; omega
        · rw [Nat.sub_self, Nat.pow_zero, Nat.div_one] at hIx
          have HS := Lib.hid (Tryz.Builder_String_any_k _ _ _ _ hIx hsx)
          go_wp2_with fail
          with_reducible refine Calls.mono HS.out ?_
          rintro e w5 ⟨rfl, -, hb5, -⟩
          have hB5 := hBx.trans hb5
          go_wp2_with fail
          exact bodyPost_ret (v := .string (txt a)) (by simp [results, Tryz.results34, go_sem, txt]) rfl ⟨rfl, hBr.trans (hB5.mono hBr.size)⟩
    · have hkt : k ≤ top := hq1 h0
      have hlp : 0 < (digs q).length := by rw [digs_pos (by omega)]; exact Nat.succ_pos _
      have hlp1 : decide ((0 : Int) < ((digs q).length : Int)) = true := decide_eq_true (by omega)
      have HDv := Lib.hid (fun w h => divC gD cD q Z hlq w h)
      have hlp2 : decide (0 < (digs q).length) = true := decide_eq_true hlp
      clear hlp hq0 hq1
      go_wp2_with fail
      with_reducible refine Calls.mono (HDv.out _ hdD) ?_
      rintro e w3 ⟨rfl, Z', Q, hQ1, hQ2, hQ3, hQ4, hQ5, hg3⟩
      have hch3 := hch.keep hg3 (.inr hne)
      have hB3 : Below w.heap.size w w3 := hBr.grown hg3 hBr.size (fun k hk => by obtain rfl := Option.some.inj hk; exact hgD)
      have hs3 := hB3.size
      have hlt3 := hQ4.lt
      have hr : chunkV a k = .int .u64 ((q % CB : Nat) : Int) := by rw [HQ.out]; rfl
      obtain ⟨r, hrr⟩ : ∃ r, r = q % CB := ⟨_, rfl⟩
      rw [← hrr] at hr ⊢
      clear HDv hdD hch hrr
      have HR := Lib.hid hr
      clear hr
      go_wp2_with (at_builtin; refine wpList_append_lies _ rfl (.tmp 21) (.tmp 24) 114 rfl w.heap.size 30 i0 (.int .u64 0) 1 8 Tryz.underlying114 hi hz0 hz1 hz2 rfl (by decide) (.slice ao k cc) k (chunksV a k) (by rfl) (World.ownsRow.alloc hch3 _) ⟨w3.heap.size, 0, none⟩ 1 1 [.int .u64 (r : Int)] (by rfl) rfl (World.news_of_block (heap_alloc_new w3 _)) (by simp [Value.oneCell']) (by decide) (by unfold maxLen; omega) (by omega) (by simp; omega) (w3.heap.size + 1) (by simp) ?_)
      rintro g4 cap4 w4 hown4 hgrow4 hat4 hlt4
      have hch4 : Ch w4 w.heap.size a (.slice (some ⟨g4, 0, none⟩) (k + 1) cap4) (k + 1) := by
        unfold Ch
        rw [chunksV_succ, HR.out]; exact hown4
      have hB4 : Below w.heap.size w w4 := (hB3.alloc hs3 _).grown hgrow4 (by simp; omega) (fun k' hk' => (World.ownsRow.lt hch3 k' hk').1)
      have hd4 : ∀ l, DB w3 gD l → DB w4 gD l := fun l h => h.keep ((hgrow4.block gD (by simp; omega) (Ne.symm hne)).trans (heap_alloc_old w3 _ hlt3))
      have hne4 : (Value.slice (some ⟨g4, 0, none⟩) (k + 1) cap4).ownBlock ≠ some gD := by
        rcases hat4 with h' | h'
        · rw [h'] at hne; exact hne
        · simp only [Value.ownBlock, h']
          intro he
          have := Option.some.inj he
          omega
      have hQ4' := hd4 _ hQ4
      have hQ5' := hd4 _ hQ5
      clear hch3 hB3 hgrow4 hat4 hown4 hd4 hQ4 hQ5 hg3
      have HTr := Lib.hid (trimQ gD cD (digs q).length (q / CB) Q Z hQ1 hQ2 hQ3 hlq hcD w4 hQ4')
      have hq' : q / CB = a / CB ^ (k + 1) := by rw [HQ.out, Nat.pow_succ, Nat.div_div_eq_div_mul]
      have hcD' : (digs (q / CB)).length ≤ cD := Nat.le_trans (digs_mono (Nat.div_le_self _ _)) hcD
      rw [hq'] at HTr hQ5' hcD'
      clear hQ4' hQ1 hQ2 hQ3 hq'
      go_wp2_with fail
      with_reducible refine Calls.mono HTr.out ?_
      rintro e w5 ⟨rfl, rfl⟩
      clear HTr
      go_wp2_with fail
      go_roundw
      case rel => exact ⟨k + 1, gD, cD, Z', by omega, rfl, hcD', hQ5', hch4, hne4, hB4, hgD⟩
      case measure => simp [sLen]; omega

theorem text_any (a : Nat) (hl : (digs a).length ≤ 1000000) (w : World) (htab : Tab w) :
    Calls Tryz.prog 34 #[natV a] w fun e w' => e = .returned (.string (txt a)) ∧ Below w.heap.size w w' := by
  by_cases h : a < Bs
  · exact text_small a h w htab
  · exact text_big a h hl w htab
end Go.Proofs.YthehcjfmokabfaaGreatDoor

/-
  Layer 1, walks Z: Parse's parts: decimalForm, chunkOf.
-/
namespace Go.Proofs.YthehcjfmokabfaaGreatDoor
open Go.RowKit
attribute [local irreducible] lo hs sm val hiB

/-- A string, out of its bytes. -/
def st (l : List UInt8) : ByteArray := ⟨l.toArray⟩
theorem st_size (l : List UInt8) : (st l).size = l.length := rfl
theorem st_toList (l : List UInt8) : (st l).data.toList = l := by simp [st]

theorem st_list (l : List UInt8) : (st l).toList = l := by rw [ByteArray.toList_eq]; exact st_toList l

open Classical in
/-- Whether bytes are a decimal form. -/
noncomputable def decB (l : List UInt8) : Bool := if isDec l then true else false
theorem decB_true {l : List UInt8} (h : isDec l) : decB l = true := by unfold decB; exact if_pos h
theorem decB_false {l : List UInt8} (h : ¬ isDec l) : decB l = false := by unfold decB; exact if_neg h
attribute [local irreducible] decB

set_option maxHeartbeats 2000000 in
set_option maxRecDepth 100000 in
theorem form_any (l : List UInt8) (hl : l.length ≤ 1000000) (w : World) :
    Calls Tryz.prog 109 #[.string (st l)] w fun e w' => e = .returned (.bool (decB l)) ∧ Below w.heap.size w w' := by
  go_enter Tryz.func109, Tryz.ntmps109
  go_wp2_with fail
  go_loopw [6] (fun z wx => ∃ i : Nat, i ≤ l.length ∧ z = .int .i64 i ∧ (∀ c ∈ l.take i, isDig c) ∧ Below w.heap.size w wx) (fun z _ => l.length - (intOf z).toNat)
  case atStart => exact ⟨0, Nat.zero_le _, rfl, by simp, Below.refl _ _⟩
  case round =>
    obtain ⟨i, hi, rfl, hd, hb⟩ := hrel
    rcases Nat.lt_or_eq_of_le hi with h | rfl
    · obtain ⟨c, hc⟩ : ∃ c, c = l[i] := ⟨_, rfl⟩
      have hlt : i < (st l).size := h
      have hget : (st l)[i]'hlt = c := by rw [hc]; rfl
      have hmem : c ∈ l := by rw [hc]; exact List.getElem_mem h
      have htk : l.take (i + 1) = l.take i ++ [c] := by rw [List.take_add_one, List.getElem?_eq_getElem h, ← hc]; rfl
      have HTK := Lib.hid htk
      clear hc htk
      by_cases hdg : isDig c
      · have h1 : decide ((c.toNat : Int) < 48) = false := decide_eq_false (by unfold isDig at hdg; omega)
        have h2 : decide (57 < (c.toNat : Int)) = false := decide_eq_false (by unfold isDig at hdg; omega)
        have h3 : (48 : Int) ≤ (c.toNat : Int) := by unfold isDig at hdg; omega
        have h4 : (c.toNat : Int) ≤ 57 := by unfold isDig at hdg; omega
        have HC := Lib.hid (⟨hd, hdg, hmem⟩ : (∀ c ∈ l.take i, isDig c) ∧ isDig c ∧ c ∈ l)
        clear hd hdg hmem
        go_wp2_with fail
        go_roundw
        case rel =>
          refine ⟨i + 1, h, rfl, fun x hx => ?_, hb⟩
          rw [HTK.out] at hx
          rcases List.mem_append.1 hx with hx | hx
          · exact HC.out.1 x hx
          · rw [List.mem_singleton.1 hx]; exact HC.out.2.1
        case measure => simp [intOf]; omega
      · have HC := Lib.hid (⟨hd, hdg, hmem⟩ : (∀ c ∈ l.take i, isDig c) ∧ ¬ isDig c ∧ c ∈ l)
        have h5 : (c.toNat : Int) < 48 ∨ 57 < (c.toNat : Int) := by unfold isDig at hdg; omega
        clear hd hdg hmem
        rcases h5 with h5 | h5
        · have h1 : decide ((c.toNat : Int) < 48) = true := decide_eq_true h5
          go_wp2_with fail
          exact bodyPost_ret (v := .bool false) (by simp [results, Tryz.results109, go_sem]) rfl ⟨by rw [decB_false fun h => absurd (h.1 c HC.out.2.2) HC.out.2.1], hb⟩
        · have h1 : decide ((c.toNat : Int) < 48) = false := decide_eq_false (by omega)
          have h2 : decide (57 < (c.toNat : Int)) = true := decide_eq_true h5
          go_wp2_with fail
          exact bodyPost_ret (v := .bool false) (by simp [results, Tryz.results109, go_sem]) rfl ⟨by rw [decB_false fun h => absurd (h.1 c HC.out.2.2) HC.out.2.1], hb⟩
    · rw [List.take_length] at hd
      have hst := st_list l
      have h0 : decide (l.length < (st l).size) = false := decide_eq_false (by rw [st_size]; omega)
      by_cases h1 : l = [48]
      · subst h1
        have hD : decB [48] = true := decB_true ⟨hd, .inl rfl⟩
        have HD := Lib.hid hD
        clear hd hD
        go_wp2_with fail
        exact bodyPost_ret (v := .bool true) (by simp [results, Tryz.results109, go_sem]) rfl ⟨by rw [HD.out], hb⟩
      · cases l with
        | nil =>
          have hD : decB [] = false := decB_false fun h => by rcases h.2 with h | h <;> simp at h
          have HD := Lib.hid hD
          clear hd hD
          go_wp2_with fail
          exact bodyPost_ret (v := .bool false) (by simp [results, Tryz.results109, go_sem]) rfl ⟨by rw [HD.out], hb⟩
        | cons c m =>
          have hlt : 0 < (st (c :: m)).size := Nat.succ_pos _
          have hget : (st (c :: m))[0]'hlt = c := rfl
          have hne : (c :: m) ≠ [] := by simp
          have hD : decB (c :: m) = ((c :: m) == [48] || !(c :: m).isEmpty && ((c.toNat : Int) != 48)) := by
            have e1 : ((c :: m) == [48]) = false := beq_eq_false_iff_ne.2 h1
            rw [e1, Bool.false_or, show (c :: m).isEmpty = false from rfl, Bool.not_false, Bool.true_and]
            by_cases h48 : c = 48
            · subst h48
              rw [decB_false fun h => by
                rcases h.2 with h | ⟨_, h⟩
                · exact h1 h
                · exact h rfl]
              rfl
            · rw [decB_true ⟨hd, .inr ⟨by simp, by simpa using h48⟩⟩]
              symm
              refine bne_iff_ne.2 fun h => h48 ?_
              apply UInt8.toNat_inj.1
              have : c.toNat = 48 := by omega
              rw [this]; rfl
          obtain ⟨l', hl'⟩ : ∃ l', l' = c :: m := ⟨_, rfl⟩
          have hD' : decB (c :: m) = ((c.toNat : Int) != 48) := by
            rw [hD, beq_eq_false_iff_ne.2 h1, Bool.false_or, show (c :: m).isEmpty = false from rfl, Bool.not_false, Bool.true_and]
          have HD := Lib.hid hD'
          have hlt' : 0 < (st l').size := by rw [hl']; exact hlt
          have hget' : (st l')[0]'hlt' = c := by subst hl'; rfl
          have hst' : (st l').toList = l' := st_list l'
          have h0' : decide (l'.length < (st l').size) = false := decide_eq_false (by rw [st_size]; omega)
          have n1 : ¬ l' = [48] := by rw [hl']; exact h1
          have n2 : ¬ l' = [] := by rw [hl']; exact hne
          have e1 : (l' == [48]) = false := beq_eq_false_iff_ne.2 n1
          have e2 : l'.isEmpty = false := by rw [hl']; rfl
          clear hst h0 hget hlt
          simp only [← hl']
          clear hd hD hl hi hne hD' h1 hl'
          rcases Bool.eq_false_or_eq_true ((c.toNat : Int) != 48) with e3 | e3
          · go_wp2_with fail
            exact bodyPost_ret (v := .bool true) (by simp [results, Tryz.results109, go_sem]) rfl ⟨by rw [HD.out, e3], hb⟩
          · go_wp2_with fail
            exact bodyPost_ret (v := .bool false) (by simp [results, Tryz.results109, go_sem]) rfl ⟨by rw [HD.out, e3], hb⟩

theorem pow10_le (i : Nat) (h : i ≤ 19) : 10 ^ i ≤ CB := by rw [CB_pow]; exact Nat.pow_le_pow_right (by omega) h

theorem wrapU {z : Int} (h0 : 0 ≤ z) (h1 : z ≤ 18446744073709551615) : IntKind.u64.wrap z = z := by rw [IntKind.wrap_u64]; omega

set_option maxHeartbeats 2000000 in
set_option maxRecDepth 100000 in
theorem chunkOf_any (l : List UInt8) (hd : ∀ c ∈ l, isDig c) (hl : l.length ≤ 19) (w : World) :
    Calls Tryz.prog 110 #[.string (st l)] w fun e w' => e = .returned (.tuple #[.int .u64 ((10 ^ l.length : Nat) : Int), .int .u64 ((dval l : Nat) : Int)]) ∧ Below w.heap.size w w' := by
  go_enter Tryz.func110, Tryz.ntmps110
  go_wp2_with fail
  go_loopw [2, 3, 7] (fun x y z wx => ∃ i b v : Nat, i ≤ l.length ∧ z = .int .i64 i ∧ x = .int .u64 (b : Int) ∧ y = .int .u64 (v : Int) ∧ b = 10 ^ i ∧ v = dval (l.take i) ∧ Below w.heap.size w wx) (fun _ _ z _ => l.length - (intOf z).toNat)
  case atStart => exact ⟨0, 1, 0, Nat.zero_le _, rfl, rfl, rfl, rfl, rfl, Below.refl _ _⟩
  case round =>
    obtain ⟨i, b, v, hi, rfl, rfl, rfl, hb, hv, hB⟩ := hrel
    rcases Nat.lt_or_eq_of_le hi with h | h
    · obtain ⟨c, hc⟩ : ∃ c, c = l[i] := ⟨_, rfl⟩
      have hlt : i < (st l).size := h
      have hget : (st l)[i]'hlt = c := by rw [hc]; rfl
      have hmem : isDig c := by rw [hc]; exact hd _ (List.getElem_mem h)
      have htk : l.take (i + 1) = l.take i ++ [c] := by rw [List.take_add_one, List.getElem?_eq_getElem h, ← hc]; rfl
      have hv' : dval (l.take (i + 1)) = v * 10 + (c.toNat - 48) := by rw [htk, dval_snoc, hv]
      have hvb : v * 10 + 9 < CB := by
        have h1 : v < 10 ^ i := by
          rw [hv]
          have := dval_lt (l := l.take i) fun x hx => hd x (List.mem_of_mem_take hx)
          rw [List.length_take, Nat.min_eq_left (by omega)] at this
          exact this
        have h2 := pow10_le (i + 1) (by omega)
        rw [Nat.pow_succ] at h2
        omega
      have hbb : b * 10 ≤ CB := by rw [hb, ← Nat.pow_succ]; exact pow10_le (i + 1) (by omega)
      obtain ⟨d, hdd⟩ : ∃ d : Nat, d = c.toNat - 48 := ⟨_, rfl⟩
      have hd9 : d ≤ 9 ∧ (c.toNat : Int) - 48 = (d : Int) := by unfold isDig at hmem; omega
      have w1 : IntKind.u64.wrap ((b : Int) * 10) = ((b * 10 : Nat) : Int) := by rw [wrapU (by omega) (by unfold CB at hbb; omega)]; omega
      have w2 : IntKind.u64.wrap ((v : Int) * 10) = ((v * 10 : Nat) : Int) := by rw [wrapU (by omega) (by unfold CB at hvb; omega)]; omega
      have w3 : IntKind.u8.wrap ((c.toNat : Int) - 48) = (d : Int) := by rw [IntKind.wrap_u8]; omega
      have w5 : IntKind.u64.wrap (d : Int) = (d : Int) := wrapU (by omega) (by omega)
      have w4 : IntKind.u64.wrap (((v * 10 : Nat) : Int) + (d : Int)) = ((v * 10 + d : Nat) : Int) := by rw [wrapU (by omega) (by unfold CB at hvb; omega)]; omega
      rw [← hdd] at hv'
      have hb' : 10 ^ (i + 1) = b * 10 := by rw [Nat.pow_succ, hb]
      generalize b * 10 = b1 at *
      generalize v * 10 = v1 at *
      have HV := Lib.hid hv'.symm
      have HB := Lib.hid hb'.symm
      clear hc hmem htk hv' hb' hb hv hvb hbb hdd
      generalize v1 + d = v2 at *
      go_wp2_with fail
      go_roundw
      case rel => exact ⟨i + 1, b1, v2, h, rfl, rfl, rfl, HB.out, HV.out, hB⟩
      case measure => simp [intOf]; omega
    · subst h
      rw [List.take_length] at hv
      have HV := Lib.hid hv
      have HB := Lib.hid hb
      have h0 : decide (l.length < (st l).size) = false := decide_eq_false (by rw [st_size]; omega)
      clear hv hb
      go_wp2_with fail
      exact bodyPost_ret (v := .tuple #[.int .u64 (b : Int), .int .u64 (v : Int)]) (by simp [results, Tryz.results110, go_sem]) rfl ⟨by rw [HB.out, HV.out], hB⟩
end Go.Proofs.YthehcjfmokabfaaGreatDoor

/-
  Layer 1, walks Za: timesPlus.
-/
namespace Go.Proofs.YthehcjfmokabfaaGreatDoor
open Go.RowKit

/-- What the loop of timesPlus keeps. -/
structure TimI (l : List Nat) (f s i carry : Nat) (O : List Nat) : Prop where
  len : O.length = i
  dig : Dig O
  lt : carry < Bs
  eq : val O + carry * Bs ^ i = val (l.take i) * f + s

theorem TimI.start (l : List Nat) (f s : Nat) (hs : s < Bs) : TimI l f s 0 s [] := ⟨rfl, Dig.nil, hs, by simp [val]⟩

theorem tim_arith (V T X d f s o over low carry mh B : Nat) (e1 : o + B * over = low + carry) (e2 : low + B * mh = d * f) (e0 : V + carry * X = T * f + s) :
    V + X * o + (mh + over) * (X * B) = (T + X * d) * f + s := by
  have h1 : X * o + X * (B * over) = X * low + X * carry := by rw [← Nat.mul_add, e1, Nat.mul_add]
  have h2 : X * low + X * (B * mh) = X * (d * f) := by rw [← Nat.mul_add, e2]
  have h3 : (mh + over) * (X * B) = X * (B * mh) + X * (B * over) := by
    rw [Nat.add_mul, Nat.mul_comm mh, Nat.mul_comm over, Nat.mul_assoc, Nat.mul_assoc]
  have h4 : (T + X * d) * f = T * f + X * (d * f) := by rw [Nat.add_mul, Nat.mul_assoc]
  have h5 : carry * X = X * carry := Nat.mul_comm _ _
  rw [h3, h4]
  rw [h5] at e0
  generalize X * o = a1 at *
  generalize X * (B * over) = a2 at *
  generalize X * (B * mh) = a3 at *
  generalize X * (d * f) = a4 at *
  generalize X * low = a5 at *
  generalize X * carry = a6 at *
  generalize T * f = a7 at *
  omega

theorem TimI.step {l O : List Nat} {f s i carry : Nat} (h : TimI l f s i carry O) (hd : Dig l) (hf : f < Bs) (hi : i < l.length) :
    TimI l f s (i + 1) (mh l[i] f + c64 (ml l[i] f) carry 0) (O ++ [s64 (ml l[i] f) carry 0]) := by
  have hdi := hd.get i hi
  have h1 := s64_spec (ml l[i] f) carry 0
  have h2 := mul_spec l[i] f
  have h3 := mh_lt hdi hf
  have h4 : c64 (ml l[i] f) carry 0 ≤ 1 := c64_le (ml_lt _ _) h.lt (by omega)
  have hB := Bs_gt
  refine ⟨by rw [List.length_append, h.len]; rfl, (fun x hx => by
    rcases List.mem_append.1 hx with hx | hx
    · exact h.dig x hx
    · rw [List.mem_singleton.1 hx]; exact s64_lt _ _ _), by omega, ?_⟩
  rw [List.take_add_one, List.getElem?_eq_getElem hi]
  show val (O ++ [_]) + _ = val (l.take i ++ [l[i]]) * f + s
  rw [val_append, val_append, h.len, List.length_take, Nat.min_eq_left (by omega), Nat.pow_succ]
  have v1 : ∀ x, val [x] = x := fun x => by simp [val]
  rw [v1, v1]
  exact tim_arith _ _ _ _ _ _ _ _ _ _ _ _ (by rw [Nat.add_zero] at h1; exact h1) h2 h.eq

theorem infoU64' : (Tryz.prog.info? 30).map (fun i => (i.zero, i.size, i.bytes)) = some (some (.int .u64 0), 1, 8) := by kernel_rfl

theorem set_mid_map (O l : List Nat) (i o : Nat) (hO : O.length = i) (hi : i < l.length) : ((O ++ l.drop i).map u64V).set i (u64V o) = ((O ++ [o]) ++ l.drop (i + 1)).map u64V := by
  have e : (O ++ l.drop i).set i o = (O ++ [o]) ++ l.drop (i + 1) := by
    rw [List.set_append_right _ _ (by omega), hO, Nat.sub_self, List.drop_eq_getElem_cons hi, List.set_cons_zero, List.append_assoc]; rfl
  rw [← e, List.map_set]

set_option maxHeartbeats 2000000 in
set_option maxRecDepth 100000 in
theorem timesPlus_any (B f s n : Nat) (v : Value) (l : List Nat) (hn : l.length = n) (hd : Dig l) (hf : f < Bs) (hs : s < Bs) (hl : n ≤ 1000000) (w : World) (hB : B ≤ w.heap.size) (hown : w.ownsRow B 30 1 v n (l.map u64V)) :
    Calls Tryz.prog 111 #[v, .int .u64 (f : Int), .int .u64 (s : Int)] w fun e w' => ∃ (v' : Value) (l' : List Nat), e = .returned v' ∧ Dig l' ∧ val l' = val l * f + s ∧ l'.length ≤ n + 1 ∧ w'.ownsRow B 30 1 v' l'.length (l'.map u64V) ∧ Below B w w' := by
  obtain ⟨i0, hi0, hz0, hz1, hz2⟩ := info_parts infoU64'
  obtain ⟨ao, c, rfl⟩ : ∃ ao c, v = .slice ao n c := by
    rcases hown.2 with ⟨rfl, rfl⟩ | ⟨g, c, cur, rfl, _⟩
    · exact ⟨_, _, rfl⟩
    · exact ⟨_, _, rfl⟩
  go_enter Tryz.func111, Tryz.ntmps111
  go_wp2_with fail
  go_loopw [7, 16] (fun x y wr => ∃ (i carry : Nat) (O : List Nat), i ≤ n ∧ x = .int .u64 carry ∧ y = .int .i64 i ∧ TimI l f s i carry O ∧ wr.ownsRow B 30 1 (.slice ao n c) n ((O ++ l.drop i).map u64V) ∧ Below B w wr) (fun _ y _ => n - (intOf y).toNat)
  case atStart => exact ⟨0, s, [], Nat.zero_le _, rfl, rfl, TimI.start l f s hs, by simpa using hown, Below.refl _ _⟩
  case round =>
    obtain ⟨i, carry, O, hi, rfl, rfl, hI, hO, hBr⟩ := hrel
    clear hown
    have hsz := hBr.size
    rcases Nat.lt_or_eq_of_le hi with h | h
    · obtain ⟨g, rfl, hg⟩ : ∃ g, ao = some ⟨g, 0, none⟩ ∧ B ≤ g := by
        rcases hO.2 with ⟨_, rfl⟩ | ⟨g, c', cur, he, hb, _⟩
        · omega
        · simp at he; exact ⟨g, he.1, hb⟩
      have hli : i < l.length := by omega
      have hcell : wr.cell? ⟨g, i, none⟩ = some (.int .u64 ((l[i] : Nat) : Int)) := by
        rw [hO.cellAt i (by omega), List.getElem?_map, List.getElem?_append_right (by rw [hI.len]; exact Nat.le_refl _), hI.len, Nat.sub_self, List.getElem?_drop, Nat.add_zero, List.getElem?_eq_getElem hli]
        rfl
      have hfz := hO.frozenAt i
      have hstep := hI.step hd hf hli
      have hst := hO.stored i (u64V (s64 (ml l[i] f) carry 0))
      rw [set_mid_map O l i _ hI.len hli] at hst
      have hdi := hd.get i hli
      generalize l[i] = di at *
      have hadd := add64c (ml di f) carry
      have HM := Lib.hid (mul64 di f hdi hf)
      have hcl := hstep.lt
      have b1 : ((mh di f : Nat) : Int) + ((c64 (ml di f) carry 0 : Nat) : Int) ≤ 18446744073709551615 := by unfold Bs at hcl; omega
      have HS := Lib.hid hstep
      have HT := Lib.hid hst
      clear hstep hst hI hO hdi hcl hi0 hz0 hz1 hz2
      go_wp2_with (go_at_call 104; refine (HM.out _).mono ?_; rintro e w1 ⟨rfl, rfl⟩)
      go_roundw
      case rel => exact ⟨i + 1, _, _, h, by go_num, by go_num, HS.out, HT.out.1, hBr.setCell (p := ⟨g, i, none⟩) hg _⟩
      case measure => simp [intOf]; omega
    · subst h
      have hlen := hI.len
      have heq := hI.eq
      have hdig := hI.dig
      have hlt := hI.lt
      rw [← hn, List.take_length] at heq
      rw [show l.drop i = [] by rw [List.drop_eq_nil_iff]; omega, List.append_nil] at hO
      rcases Nat.eq_zero_or_pos carry with h0 | h0
      · subst h0
        rw [Nat.zero_mul, Nat.add_zero] at heq
        have HE := Lib.hid heq
        clear heq hi0 hz0 hz1 hz2 hI
        go_wp2_with fail
        refine bodyPost_ret (v := .slice ao i c) (by simp [results, Tryz.results111, go_sem]) rfl ⟨_, O, rfl, hdig, HE.out, by omega, ?_, hBr⟩
        rw [hlen]; exact hO
      · have hc1 : decide ((0 : Int) < (carry : Int)) = true := decide_eq_true (by omega)
        have hc2 : decide (0 < carry) = true := decide_eq_true (by omega)
        have HE := Lib.hid heq
        clear heq hI
        go_wp2_with (at_builtin; refine wpList_append_lies _ rfl (.tmp 42) (.tmp 44) 114 rfl B 30 i0 (.int .u64 0) 1 8 Tryz.underlying114 hi0 hz0 hz1 hz2 rfl (by decide) (.slice ao i c) i (O.map u64V) (by rfl) (World.ownsRow.alloc hO _) ⟨wr.heap.size, 0, none⟩ 1 1 [.int .u64 (carry : Int)] (by rfl) rfl (World.news_of_block (heap_alloc_new wr _)) (by simp [Value.oneCell']) (by decide) (by unfold maxLen; omega) (by omega) (by simp; omega) (wr.heap.size + 1) (by simp) ?_)
        rintro g4 cap4 w4 hown4 hgrow4 hat4 hlt4
        have hB4 : Below B w w4 := (hBr.alloc (Nat.le_trans hB hsz) _).grown hgrow4 (by simp; omega) (fun k' hk' => (World.ownsRow.lt hO k' hk').1)
        clear hO hgrow4 hat4 hBr
        have hl' : (O ++ [carry]).length = i + 1 := by rw [List.length_append, hlen]; rfl
        go_wp2_with fail
        refine bodyPost_ret (v := .slice (some ⟨g4, 0, none⟩) (i + 1) cap4) (by simp [results, Tryz.results111, go_sem]) rfl ⟨_, O ++ [carry], rfl, hdig.app (Dig.cons hlt Dig.nil), ?_, by omega, ?_, hB4⟩
        · rw [val_append, hlen, show val [carry] = carry by simp [val], Nat.mul_comm]; have h9 := HE.out; rw [hn] at h9; exact h9
        · rw [hl', List.map_append]; exact hown4
end Go.Proofs.YthehcjfmokabfaaGreatDoor
