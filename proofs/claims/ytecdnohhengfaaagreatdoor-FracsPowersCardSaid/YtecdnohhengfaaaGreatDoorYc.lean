/-
  Layer 1, walks Y: Text.
-/
import Derived.Test.YtecdnohhengfaaaGreatDoorYb
import Derived.Deep.AppendLies
import Derived.Test.YtecdnohhengfaaaGreatDoorYa
import Derived.BigQuiet
import Derived.BigGuard
import Derived.Below
import Derived.Laws.Rows
import Derived.Deep.Quiet
set_option linter.unusedVariables false
set_option linter.unusedSimpArgs false
namespace Go.Proofs.YtecdnohhengfaaaGreatDoor
open Go.RowKit
attribute [local irreducible] lo hs sm s64 c64 d64 b64 mh ml pd pc qd qc val hiB str cmpI srD lz nb isq

/-- The text of a number, as a value. -/
def txt (n : Nat) : ByteArray := ⟨(Lib.decDigits n).toArray⟩

set_option maxHeartbeats 2000000 in
set_option maxRecDepth 100000 in
theorem text_small (n : Nat) (h : n < Bs) (w : World) (htab : Tab w) :
    Calls Tryz.prog 42 #[natV n] w fun e w' => e = .returned (.string (txt n)) ∧ Below w.heap.size w w' := by
  obtain ⟨w0, hw0, hA, hb0, hsz0⟩ := boxes1 w (.int .u64 ((lo n : Nat) : Int)) (.string (hs n)) 32
  obtain ⟨a0, a1, af⟩ := id hA
  have HS := Lib.hid (fun w => small_any n w)
  have HF := Lib.hid (fun w ht => fmt_any (lo n) (lo_lt n) w ht)
  have hsm : sm n = true := sm_true.2 h
  rw [hsm] at HS
  have HL := Lib.hid (lo_small h)
  have ht0 : Tab w0 := htab.below hb0
  go_enter Tryz.func42, Tryz.ntmps42
  go_wp2_with fail
  refine (HS.out _).mono ?_
  rintro e w1 ⟨rfl, hb1⟩
  obtain ⟨c0, c1, cf⟩ := hA.below hb1 hsz0
  have ht1 := Lib.hid (ht0.below hb1)
  clear a0 a1 af hA ht0
  go_wp2_with fail
  refine (HF.out _ ht1.out).mono ?_
  rintro e w2 ⟨rfl, hb2⟩
  go_wp2_with fail
  have e : txt n = ⟨(Lib.decDigits (lo n)).toArray⟩ := by unfold txt; rw [HL.out]
  have s0 := hb0.size
  have s1 := hb1.size
  exact bodyPost_ret (v := .string (txt n)) (by simp [results, Tryz.results42, go_sem, e]) rfl ⟨rfl, (hb0.trans (hb1.mono s0)).trans (hb2.mono (by omega))⟩

/-- The length of a slice, out of its value. -/
def sLen : Value → Nat
  | .slice _ n _ => n
  | _ => 0

def chunkV (a j : Nat) : Value := .int .u64 ((a / CB ^ j % CB : Nat) : Int)
def chunksV (a k : Nat) : List Value := (List.range k).map (chunkV a)
theorem chunksV_succ (a k : Nat) : chunksV a (k + 1) = chunksV a k ++ [chunkV a k] := by simp [chunksV, List.range_succ]
theorem chunksV_at (a k j : Nat) (h : j < k) : (chunksV a k)[j]? = some (chunkV a j) := by simp [chunksV, h]

theorem infoU64 : (Tryz.prog.info? 30).map (fun i => (i.zero, i.size, i.bytes)) = some (some (.int .u64 0), 1, 8) := by kernel_rfl

/-- The chunks of the number, in a row of the call's own. -/
def Ch (w : World) (B a : Nat) (ch : Value) (k : Nat) : Prop := w.ownsRow B 30 1 ch k (chunksV a k)

theorem Ch.form {w : World} {B a k : Nat} {ch : Value} (h : Ch w B a ch k) : ∃ ao c, ch = .slice ao k c := by
  rcases h.2 with ⟨rfl, rfl⟩ | ⟨g, c, cur, rfl, _⟩
  · exact ⟨_, _, rfl⟩
  · exact ⟨_, _, rfl⟩
theorem Ch.keep {w w' : World} {B a k : Nat} {ch : Value} (h : Ch w B a ch k) {row : Option Nat} (hg : w.grownBy w' row) (hne : ch.ownBlock = none ∨ ch.ownBlock ≠ row) : Ch w' B a ch k := World.ownsRow.kept h hg hne

theorem below_none {w w' : World} (h : Below w.heap.size w w') : w.grownBy w' none := ⟨h.os, h.tape, h.output, h.size, fun k hk _ => h.block k hk⟩
theorem Ch.below {w w' : World} {B a k : Nat} {ch : Value} (h : Ch w B a ch k) (hb : Below w.heap.size w w') : Ch w' B a ch k := by
  refine h.keep (below_none hb) ?_
  rcases Ch.form h with ⟨ao, c, rfl⟩
  cases ao with
  | none => exact .inl rfl
  | some a => exact .inr (by simp [Value.ownBlock])

theorem chunk_bound {a top L : Nat} (hl : (digs a).length ≤ L) (h : 0 < a / CB ^ top) : top ≤ 2 * L := by
  have h1 : CB ^ top ≤ a := by
    rcases Nat.lt_or_ge a (CB ^ top) with h' | h'
    · rw [Nat.div_eq_of_lt h'] at h; omega
    · exact h'
  have h2 := digs_length_iff.1 hl
  have h3 : Bs ^ L ≤ CB ^ (2 * L) := by
    rw [Nat.pow_mul]
    exact Nat.pow_le_pow_left (by unfold Bs CB; decide) L
  have h4 : CB ^ top < CB ^ (2 * L) := Nat.lt_of_le_of_lt h1 (Nat.lt_of_lt_of_le h2 h3)
  exact Nat.le_of_lt ((Nat.pow_lt_pow_iff_right CB_gt).1 h4)

theorem divC (g c q : Nat) (Z : List Nat) (hq : (digs q).length ≤ 1000000) (w : World) (hdb : DB w g (digs q ++ Z)) :
    Calls Tryz.prog 133 #[.slice (some ⟨g, 0, none⟩) (digs q).length c, .int .u64 10000000000000000000] w fun e w' =>
      e = .returned (.int .u64 ((q % CB : Nat) : Int)) ∧ ∃ (Z' : List Nat) (Q : List Nat), Q.length = (digs q).length ∧ Dig Q ∧ val Q = q / CB ∧ DB w' g (Q ++ Z) ∧ DB w' g (digs (q / CB) ++ Z') ∧ w.grownBy w' (some g) := by
  refine (divD g c q CB Z CB_pos (by unfold CB Bs; omega) (by omega) w hdb).mono ?_
  rintro e w' ⟨rfl, Q, h1, h2, h3, h4, h5⟩
  obtain ⟨z, hz⟩ := norm Q h2
  refine ⟨rfl, List.replicate z 0 ++ Z, Q, h1, h2, h3, h4, ?_, h5⟩
  rw [← List.append_assoc, ← h3, ← hz]; exact h4

theorem trimQ (g c n q : Nat) (Q Z : List Nat) (hl : Q.length = n) (hd : Dig Q) (hv : val Q = q) (hn : n ≤ 1000000) (hc : n ≤ c) (w : World) (hdb : DB w g (Q ++ Z)) :
    Calls Tryz.prog 132 #[.slice (some ⟨g, 0, none⟩) n c] w fun e w' => e = .returned (.slice (some ⟨g, 0, none⟩) (digs q).length c) ∧ w = w' := by
  subst hl; subst hv
  exact trim_any g 0 c Q hd (by unfold maxLen; omega) hc w hdb.rdl

theorem chunk_zero {a k K : Nat} (hK : 0 < a / CB ^ (K - 1)) (hk : k < K) : 0 < a / CB ^ k :=
  Nat.lt_of_lt_of_le hK (Nat.div_le_div_left (Nat.pow_le_pow_right CB_pos (by omega)) (Nat.pow_pos CB_pos))

/-- The row of the chunks, as it lies. -/
def CR (w : World) (gC a K : Nat) : Prop := ∃ cur : Array Value, w.heap[gC]? = some (.cells cur 30 (0, 0)) ∧ ∀ j, j < K → cur[j]? = some (chunkV a j)
theorem CR.cell {w : World} {gC a K : Nat} (h : CR w gC a K) (j : Nat) (hj : j < K) : w.cell? ⟨gC, j, none⟩ = some (.int .u64 ((a / CB ^ j % CB : Nat) : Int)) := by
  obtain ⟨cur, h1, h2⟩ := h
  rw [cell_of_row w gC j cur _ _ h1, h2 j hj]; rfl
theorem CR.below {w w' : World} {gC a K B : Nat} (h : CR w gC a K) (hb : Below B w w') (hg : gC < B) : CR w' gC a K := by
  obtain ⟨cur, h1, h2⟩ := h
  exact ⟨cur, (hb.block gC hg).trans h1, h2⟩
theorem Ch.row {w : World} {B a k : Nat} {ch : Value} (h : Ch w B a ch k) (hk : 0 < k) : ∃ gC c, ch = .slice (some ⟨gC, 0, none⟩) k c ∧ gC < w.heap.size ∧ CR w gC a k := by
  obtain ⟨h1, h2⟩ := h
  rcases h2 with ⟨_, rfl⟩ | ⟨g, c, cur, rfl, hb, hg, hnc, hcm, hcs, ht⟩
  · omega
  · refine ⟨g, c, rfl, (Array.getElem?_eq_some_iff.1 hg).1, cur, hg, fun j hj => ?_⟩
    rw [Nat.mul_one] at ht
    have h3 := congrArg (fun l : List Value => l[j]?) ht
    simp only [chunksV_at a k j hj, List.getElem?_take, if_pos hj] at h3
    simpa using h3

theorem bf_below {B b : Nat} {bs : List Value} {w w' : World} (h : Lib.IsBuilderF 165 5 B b bs w) (hb : Below w.heap.size w w') : Lib.IsBuilderF 165 5 B b bs w' := by
  have key : ∀ p, Lib.BuilderAtF 165 5 B b p bs w → Lib.BuilderAtF 165 5 B b p bs w' := by
    intro p h
    have hlt := h.lt
    obtain ⟨hB, v, hbk, hown, hne⟩ := h
    refine ⟨hB, v, (hb.block b hlt).trans hbk, hown.kept (row := none) (below_none hb) ?_, hne⟩
    cases v.ownBlock with
    | none => exact .inl rfl
    | some x => exact .inr (by simp)
  rcases h with h | h
  · exact .inl (key _ h)
  · exact .inr (key _ h)

theorem write_l (B b : Nat) (l m : List UInt8) (w : World) (h : Lib.IsBuilderF 165 5 B b (Lib.byteCells l) w) (hlen : l.length + m.length ≤ 140737488355328) (hBw : B ≤ w.heap.size) :
    Calls Tryz.prog 134 #[.pointer (some ⟨b, 0, none⟩), .string ⟨m.toArray⟩] w fun e w' => e = .returned (.tuple #[.int .i64 m.length, .nilIface]) ∧ Lib.IsBuilderF 165 5 B b (Lib.byteCells (l ++ m)) w' ∧ Below B w w' := by
  refine (write_any B b (Lib.byteCells l) ⟨m.toArray⟩ w h (by rw [Lib.byteCells_length]; exact hlen) hBw).mono ?_
  rintro e w' ⟨rfl, h1, h2, -⟩
  refine ⟨rfl, ?_, h2⟩
  rw [Lib.byteCells_append]; exact h1

theorem dec_len_bound {n L : Nat} (hl : (digs n).length ≤ L) (hL : 0 < L) : (Lib.decDigits n).length ≤ 20 * L := by
  refine (dec_length_lt (by omega)).2 ?_
  refine Nat.lt_of_lt_of_le (digs_length_iff.1 hl) ?_
  rw [Nat.pow_mul]
  exact Nat.pow_le_pow_left (by unfold Bs; decide) L

theorem chunk_last {a top : Nat} (hend : a / CB ^ (top + 1) = 0) : a / CB ^ top % CB = a / CB ^ top := by
  have := chunk_split a top
  rw [hend, Nat.zero_mul, Nat.zero_add] at this
  exact this.symm

set_option maxHeartbeats 2000000 in
set_option maxRecDepth 100000 in
theorem text_big (a : Nat) (h : ¬ a < Bs) (hl : (digs a).length ≤ 1000000) (w : World) (htab : Tab w) :
    Calls Tryz.prog 42 #[natV a] w fun e w' => e = .returned (.string (txt a)) ∧ Below w.heap.size w w' := by
  obtain ⟨w0, hw0, hA, hb0, hsz0⟩ := boxes1 w (.int .u64 ((lo a : Nat) : Int)) (.string (hs a)) 32
  obtain ⟨a0, a1, af⟩ := id hA
  have HS := Lib.hid (fun w => small_any a w)
  have hsm : sm a = false := sm_false.2 (by omega)
  rw [hsm] at HS
  have HD := Lib.hid (fun w => digits_any a (by omega) w)
  have ht0 : Tab w0 := htab.below hb0
  clear hsm
  go_enter Tryz.func42, Tryz.ntmps42
  go_wp2_with fail
  refine (HS.out _).mono ?_
  rintro e w1 ⟨rfl, hb1⟩
  obtain ⟨c0, c1, cf⟩ := hA.below hb1 hsz0
  have ht1 := ht0.below hb1
  have hB1 := hb0.trans (hb1.mono hb0.size)
  have hs1 := Nat.lt_of_lt_of_le hsz0 hb1.size
  clear a0 a1 af hA ht0 HS hb0 hb1 hw0 hsz0
  go_wp2_with fail
  refine (HD.out _).mono ?_
  rintro e w2 ⟨g, c, z, rfl, hc, hg, hd, hb2⟩
  have ht2 := ht1.below hb2
  have hB2 := hB1.trans (hb2.mono (by omega))
  have hs2 := Nat.lt_of_lt_of_le hs1 hb2.size
  clear c0 c1 cf ht1 HD hb2 hB1
  obtain ⟨top, htop, hend⟩ := chunk_top a (by unfold Bs at h; omega)
  obtain ⟨i0, hi, hz0, hz1, hz2⟩ := info_parts infoU64
  have htb : top ≤ 2 * 1000000 := chunk_bound hl htop
  have hg0 : w.heap.size ≤ g := by omega
  clear h hg
  go_wp2_with fail
  go_loopw [3, 4] (fun ch d wr => ∃ (k gD cD : Nat) (Z : List Nat), k ≤ top + 1 ∧ d = .slice (some ⟨gD, 0, none⟩) (digs (a / CB ^ k)).length cD ∧ (digs (a / CB ^ k)).length ≤ cD ∧ DB wr gD (digs (a / CB ^ k) ++ Z) ∧ Ch wr w.heap.size a ch k ∧ ch.ownBlock ≠ some gD ∧ Below w.heap.size w wr ∧ w.heap.size ≤ gD) (fun ch _ _ => top + 1 - sLen ch)
  case atStart =>
    refine ⟨0, g, c, List.replicate z 0, Nat.zero_le _, ?_, ?_, ?_, ⟨rfl, .inl ⟨rfl, rfl⟩⟩, by simp [Value.ownBlock], hB2, hg0⟩
    · rw [Nat.pow_zero, Nat.div_one]
    · rw [Nat.pow_zero, Nat.div_one]; exact hc
    · rw [Nat.pow_zero, Nat.div_one]; exact hd
  case round =>
    obtain ⟨k, gD, cD, Z, hk, rfl, hcD, hdD, hch, hne, hBr, hgD⟩ := hrel
    clear hd hg0 ht2 hB2 hs2 hc
    obtain ⟨ao, cc, rfl⟩ := hch.form
    obtain ⟨q, hq⟩ : ∃ q, q = a / CB ^ k := ⟨_, rfl⟩
    have hlq : (digs q).length ≤ 1000000 := by rw [hq]; exact Nat.le_trans (digs_mono (Nat.div_le_self _ _)) hl
    rw [← hq] at hcD hdD
    have hq0 : q = 0 → k = top + 1 := by
      intro h0
      rcases Nat.lt_or_ge k (top + 1) with h' | h'
      · have := chunk_zero (K := top + 1) (by rw [Nat.add_sub_cancel]; exact htop) h'
        omega
      · omega
    have hq1 : 0 < q → k ≤ top := by
      intro h0
      rcases Nat.lt_or_ge top k with h' | h'
      · obtain rfl : k = top + 1 := by omega
        omega
      · exact h'
    rw [← hq]
    have HQ := Lib.hid hq
    clear hq
    rcases Nat.eq_zero_or_pos q with h0 | h0
    · obtain rfl := hq0 h0
      subst h0
      obtain ⟨gC, cC, hcc, hgC, hCR⟩ := hch.row (Nat.succ_pos top)
      have hcc1 : ao = some ⟨gC, 0, none⟩ ∧ cc = cC := by simpa using hcc
      obtain ⟨rfl, rfl⟩ := hcc1
      have hd0 : digs 0 = [] := digs_zero
      have hl0 : decide (0 < (digs 0).length) = false := by rw [hd0]; rfl
      clear hq0 hq1 hch hcc hdD hcD HQ hne hi hz0 hz1 hz2
      have hcell := hCR.cell top (by omega)
      rw [chunk_last hend] at hcell
      obtain ⟨m, hm⟩ : ∃ m, m = a / CB ^ top := ⟨_, rfl⟩
      have hmB : m < Bs := by rw [hm, ← chunk_last hend]; exact Nat.lt_trans (Nat.mod_lt _ CB_pos) (by unfold CB Bs; omega)
      have hla := dec_len_bound hl (by omega)
      have hlm : (Lib.decDigits m).length ≤ 20 * 1000000 := dec_len_bound (by rw [hm]; exact Nat.le_trans (digs_mono (Nat.div_le_self _ _)) hl) (by omega)
      rw [← hm] at hcell
      obtain ⟨wb, hwb⟩ : ∃ wb, wr.alloc (.cells #[.pointer none, .slice none 0 0] 165) = wb := ⟨_, rfl⟩
      have hbb : Below wr.heap.size wr wb := by rw [← hwb]; exact (Below.refl _ _).alloc (Nat.le_refl _) _
      have hIB : Lib.IsBuilderF 165 5 wr.heap.size wr.heap.size (Lib.byteCells []) wb := by rw [← hwb]; exact Lib.IsBuilderF.of (Lib.fresh_isBuilder _ _ wr)
      have hsb : wr.heap.size < wb.heap.size := by rw [← hwb]; simp
      have hcb := (hbb.cell (p := ⟨gC, top, none⟩) hgC).trans hcell
      have HM := Lib.hid hm
      have htr := Lib.hid (htab.below hBr)
      have htb' := Lib.hid (htr.out.below hbb)
      have HF := Lib.hid (fun w ht => fmt_any m hmB w ht)
      clear hm hcell hd0
      go_wp2_with fail
      with_reducible refine Calls.mono (HF.out _ htb'.out) ?_
      rintro e w3 ⟨rfl, hb3⟩
      have hB3 := hbb.trans (hb3.mono hbb.size)
      have hI3 := bf_below hIB hb3
      have hs3 := hB3.size
      have HW := Lib.hid (write_l wr.heap.size wr.heap.size [] (Lib.decDigits m) w3 hI3 (by simp; omega) hs3)
      clear HF hI3 hIB hb3 hbb hwb hcb hsb hl0
      go_wp2_with fail
      with_reducible refine Calls.mono HW.out ?_
      rintro e w4 ⟨rfl, hI4, hb4⟩
      have hB4 := hB3.trans hb4
      have hs4 := hB4.size
      rw [List.nil_append, HM.out] at hI4
      clear HW hB3 hb4 hs3 hlm hmB HM htb'
      go_wp2_with fail
      go_loopw [36] (fun z wx => ∃ i : Nat, i ≤ top ∧ z = .int .i64 i ∧ Lib.IsBuilderF 165 5 wr.heap.size wr.heap.size (Lib.byteCells (Lib.decDigits (a / CB ^ (top - i)))) wx ∧ Below wr.heap.size wr wx) (fun z _ => top - (intOf z).toNat)
      case atStart => exact ⟨0, Nat.zero_le _, rfl, hI4, hB4⟩
      case round =>
        obtain ⟨i, hi, rfl, hIx, hBx⟩ := hrel
        clear hI4 hB4 hs4
        have hsx := hBx.size
        rcases Nat.lt_or_eq_of_le hi with hiT | rfl
        · have hdec := chunk_dec a (top - 1 - i) (by rw [show top - 1 - i + 1 = top - i by omega]; exact chunk_zero (K := top + 1) (by rw [Nat.add_sub_cancel]; exact htop) (by omega))
          rw [show top - 1 - i + 1 = top - i by omega] at hdec
          have hc := (hCR.below hBx hgC).cell (top - 1 - i) (by omega)
          have hlN : (Lib.decDigits (a / CB ^ (top - 1 - i))).length ≤ 20 * 1000000 := dec_len_bound (Nat.le_trans (digs_mono (Nat.div_le_self _ _)) hl) (by omega)
          have huB : a / CB ^ (top - 1 - i) % CB < Bs := Nat.lt_trans (Nat.mod_lt _ CB_pos) (by unfold CB Bs; omega)
          obtain ⟨u, hu⟩ : ∃ u, u = a / CB ^ (top - 1 - i) % CB := ⟨_, rfl⟩
          rw [← hu] at hdec hc huB
          obtain ⟨nx, hnx⟩ : ∃ nx, nx = a / CB ^ (top - 1 - i) := ⟨_, rfl⟩
          obtain ⟨pv, hpv⟩ : ∃ pv, pv = a / CB ^ (top - i) := ⟨_, rfl⟩
          rw [← hnx, ← hpv] at hdec
          rw [← hnx] at hlN
          rw [← hpv] at hIx
          have HN := Lib.hid hnx
          clear hu hnx hpv
          obtain ⟨hdec, hlu⟩ := hdec
          rw [hdec, List.length_append, List.length_append, List.length_replicate] at hlN
          have HDec := Lib.hid hdec
          clear hdec
          have HF := Lib.hid (fun w ht => fmt_any u huB w ht)
          have htx := Lib.hid (htr.out.below (hBx))
          have hlu2 : (19 : Int) - ((Lib.decDigits u).length : Int) = ((19 - (Lib.decDigits u).length : Nat) : Int) := by omega
          have HR := Lib.hid (fun w => rep0_any (19 - (Lib.decDigits u).length) (by omega) w)
          obtain ⟨zl, hzl⟩ : ∃ zl, zl = 19 - (Lib.decDigits u).length := ⟨_, rfl⟩
          rw [← hzl] at HR hlu2 hlN HDec
          obtain ⟨rp, hrp⟩ : ∃ rp, rp = List.replicate zl (48 : UInt8) := ⟨_, rfl⟩
          have hrl : rp.length = zl := by rw [hrp, List.length_replicate]
          rw [← hrp] at HR HDec
          clear hrp
          go_wp2_with fail
          with_reducible refine Calls.mono (HF.out _ htx.out) ?_
          rintro e w5 ⟨rfl, hb5⟩
          have hI5 := bf_below hIx hb5
          have hB5 := hBx.trans (hb5.mono hsx)
          have hs5 := hB5.size
          clear HF hIx hb5 hBx hsx hc htx hzl hlu
          obtain ⟨su, hsu⟩ : ∃ su, su = Lib.decDigits u := ⟨_, rfl⟩
          rw [← hsu] at hlu2 hlN HDec ⊢
          have hsl : (⟨su.toArray⟩ : ByteArray).size = su.length := rfl
          clear hsu
          go_wp2_with fail
          with_reducible refine Calls.mono (HR.out _) ?_
          rintro e w6 ⟨rfl, hb6⟩
          have hI6 := bf_below hI5 hb6
          have hB6 := hB5.trans (hb6.mono hs5)
          have hs6 := hB6.size
          have HW6 := Lib.hid (write_l _ _ (Lib.decDigits pv) rp w6 hI6 (by omega) hs6)
          clear HR hI5 hb6 hB5 hs5 hlu2
          go_wp2_with fail
          with_reducible refine Calls.mono HW6.out ?_
          rintro e w7 ⟨rfl, hI7, hb7⟩
          have hB7 := hB6.trans hb7
          have hs7 := hB7.size
          have HW7 := Lib.hid (write_l _ _ (Lib.decDigits pv ++ rp) su w7 hI7 (by rw [List.length_append]; omega) hs7)
          clear HW6 hI6 hb7 hB6 hs6
          go_wp2_with fail
          with_reducible refine Calls.mono HW7.out ?_
          rintro e w8 ⟨rfl, hI8, hb8⟩
          have hB8 := hB7.trans hb8
          rw [List.append_assoc, ← HDec.out, HN.out, show top - 1 - i = top - (i + 1) by omega] at hI8
          clear HW7 hI7 hb8 hB7 hs7
          go_wp2_with fail
          go_roundw
          case rel => exact ⟨i + 1, by omega, rfl, hI8, hB8⟩
          case measure => simp [intOf]; omega
        · rw [Nat.sub_self, Nat.pow_zero, Nat.div_one] at hIx
          have HS := Lib.hid (Tryz.Builder_String_any_k _ _ _ _ hIx hsx)
          go_wp2_with fail
          with_reducible refine Calls.mono HS.out ?_
          rintro e w5 ⟨rfl, -, hb5, -⟩
          have hB5 := hBx.trans hb5
          go_wp2_with fail
          exact bodyPost_ret (v := .string (txt a)) (by simp [results, Tryz.results42, go_sem, txt]) rfl ⟨rfl, hBr.trans (hB5.mono hBr.size)⟩
    · have hkt : k ≤ top := hq1 h0
      have hlp : 0 < (digs q).length := by rw [digs_pos (by omega)]; exact Nat.succ_pos _
      have hlp1 : decide ((0 : Int) < ((digs q).length : Int)) = true := decide_eq_true (by omega)
      have HDv := Lib.hid (fun w h => divC gD cD q Z hlq w h)
      have hlp2 : decide (0 < (digs q).length) = true := decide_eq_true hlp
      clear hlp hq0 hq1
      go_wp2_with fail
      with_reducible refine Calls.mono (HDv.out _ hdD) ?_
      rintro e w3 ⟨rfl, Z', Q, hQ1, hQ2, hQ3, hQ4, hQ5, hg3⟩
      have hch3 := hch.keep hg3 (.inr hne)
      have hB3 : Below w.heap.size w w3 := hBr.grown hg3 hBr.size (fun k hk => by obtain rfl := Option.some.inj hk; exact hgD)
      have hs3 := hB3.size
      have hlt3 := hQ4.lt
      have hr : chunkV a k = .int .u64 ((q % CB : Nat) : Int) := by rw [HQ.out]; rfl
      obtain ⟨r, hrr⟩ : ∃ r, r = q % CB := ⟨_, rfl⟩
      rw [← hrr] at hr ⊢
      clear HDv hdD hch hrr
      have HR := Lib.hid hr
      clear hr
      go_wp2_with (at_builtin; refine wpList_append_lies _ rfl (.tmp 21) (.tmp 24) 158 rfl w.heap.size 30 i0 (.int .u64 0) 1 8 Tryz.underlying158 hi hz0 hz1 hz2 rfl (by decide) (.slice ao k cc) k (chunksV a k) (by rfl) (World.ownsRow.alloc hch3 _) ⟨w3.heap.size, 0, none⟩ 1 1 [.int .u64 (r : Int)] (by rfl) rfl (World.news_of_block (heap_alloc_new w3 _)) (by simp [Value.oneCell']) (by decide) (by unfold maxLen; omega) (by omega) (by simp; omega) (w3.heap.size + 1) (by simp) ?_)
      rintro g4 cap4 w4 hown4 hgrow4 hat4 hlt4
      have hch4 : Ch w4 w.heap.size a (.slice (some ⟨g4, 0, none⟩) (k + 1) cap4) (k + 1) := by
        unfold Ch
        rw [chunksV_succ, HR.out]; exact hown4
      have hB4 : Below w.heap.size w w4 := (hB3.alloc hs3 _).grown hgrow4 (by simp; omega) (fun k' hk' => (World.ownsRow.lt hch3 k' hk').1)
      have hd4 : ∀ l, DB w3 gD l → DB w4 gD l := fun l h => h.keep ((hgrow4.block gD (by simp; omega) (Ne.symm hne)).trans (heap_alloc_old w3 _ hlt3))
      have hne4 : (Value.slice (some ⟨g4, 0, none⟩) (k + 1) cap4).ownBlock ≠ some gD := by
        rcases hat4 with h' | h'
        · rw [h'] at hne; exact hne
        · simp only [Value.ownBlock, h']
          intro he
          have := Option.some.inj he
          omega
      have hQ4' := hd4 _ hQ4
      have hQ5' := hd4 _ hQ5
      clear hch3 hB3 hgrow4 hat4 hown4 hd4 hQ4 hQ5 hg3
      have HTr := Lib.hid (trimQ gD cD (digs q).length (q / CB) Q Z hQ1 hQ2 hQ3 hlq hcD w4 hQ4')
      have hq' : q / CB = a / CB ^ (k + 1) := by rw [HQ.out, Nat.pow_succ, Nat.div_div_eq_div_mul]
      have hcD' : (digs (q / CB)).length ≤ cD := Nat.le_trans (digs_mono (Nat.div_le_self _ _)) hcD
      rw [hq'] at HTr hQ5' hcD'
      clear hQ4' hQ1 hQ2 hQ3 hq'
      go_wp2_with fail
      with_reducible refine Calls.mono HTr.out ?_
      rintro e w5 ⟨rfl, rfl⟩
      clear HTr
      go_wp2_with fail
      go_roundw
      case rel => exact ⟨k + 1, gD, cD, Z', by omega, rfl, hcD', hQ5', hch4, hne4, hB4, hgD⟩
      case measure => simp [sLen]; omega

theorem text_any (a : Nat) (hl : (digs a).length ≤ 1000000) (w : World) (htab : Tab w) :
    Calls Tryz.prog 42 #[natV a] w fun e w' => e = .returned (.string (txt a)) ∧ Below w.heap.size w w' := by
  by_cases h : a < Bs
  · exact text_small a h w htab
  · exact text_big a h hl w htab
end Go.Proofs.YtecdnohhengfaaaGreatDoor

/-
  Layer 1, walks Z: Parse's parts: decimalForm, chunkOf.
-/
namespace Go.Proofs.YtecdnohhengfaaaGreatDoor
open Go.RowKit
attribute [local irreducible] lo hs sm val hiB

/-- A string, out of its bytes. -/
def st (l : List UInt8) : ByteArray := ⟨l.toArray⟩
theorem st_size (l : List UInt8) : (st l).size = l.length := rfl
theorem st_toList (l : List UInt8) : (st l).data.toList = l := by simp [st]

theorem st_list (l : List UInt8) : (st l).toList = l := by rw [ByteArray.toList_eq]; exact st_toList l

open Classical in
/-- Whether bytes are a decimal form. -/
noncomputable def decB (l : List UInt8) : Bool := if isDec l then true else false
theorem decB_true {l : List UInt8} (h : isDec l) : decB l = true := by unfold decB; exact if_pos h
theorem decB_false {l : List UInt8} (h : ¬ isDec l) : decB l = false := by unfold decB; exact if_neg h
attribute [local irreducible] decB

set_option maxHeartbeats 2000000 in
set_option maxRecDepth 100000 in
theorem form_any (l : List UInt8) (hl : l.length ≤ 1000000) (w : World) :
    Calls Tryz.prog 176 #[.string (st l)] w fun e w' => e = .returned (.bool (decB l)) ∧ Below w.heap.size w w' := by
  go_enter Tryz.func176, Tryz.ntmps176
  go_wp2_with fail
  go_loopw [6] (fun z wx => ∃ i : Nat, i ≤ l.length ∧ z = .int .i64 i ∧ (∀ c ∈ l.take i, isDig c) ∧ Below w.heap.size w wx) (fun z _ => l.length - (intOf z).toNat)
  case atStart => exact ⟨0, Nat.zero_le _, rfl, by simp, Below.refl _ _⟩
  case round =>
    obtain ⟨i, hi, rfl, hd, hb⟩ := hrel
    rcases Nat.lt_or_eq_of_le hi with h | rfl
    · obtain ⟨c, hc⟩ : ∃ c, c = l[i] := ⟨_, rfl⟩
      have hlt : i < (st l).size := h
      have hget : (st l)[i]'hlt = c := by rw [hc]; rfl
      have hmem : c ∈ l := by rw [hc]; exact List.getElem_mem h
      have htk : l.take (i + 1) = l.take i ++ [c] := by rw [List.take_add_one, List.getElem?_eq_getElem h, ← hc]; rfl
      have HTK := Lib.hid htk
      clear hc htk
      by_cases hdg : isDig c
      · have h1 : decide ((c.toNat : Int) < 48) = false := decide_eq_false (by unfold isDig at hdg; omega)
        have h2 : decide (57 < (c.toNat : Int)) = false := decide_eq_false (by unfold isDig at hdg; omega)
        have h3 : (48 : Int) ≤ (c.toNat : Int) := by unfold isDig at hdg; omega
        have h4 : (c.toNat : Int) ≤ 57 := by unfold isDig at hdg; omega
        have HC := Lib.hid (⟨hd, hdg, hmem⟩ : (∀ c ∈ l.take i, isDig c) ∧ isDig c ∧ c ∈ l)
        clear hd hdg hmem
        go_wp2_with fail
        go_roundw
        case rel =>
          refine ⟨i + 1, h, rfl, fun x hx => ?_, hb⟩
          rw [HTK.out] at hx
          rcases List.mem_append.1 hx with hx | hx
          · exact HC.out.1 x hx
          · rw [List.mem_singleton.1 hx]; exact HC.out.2.1
        case measure => simp [intOf]; omega
      · have HC := Lib.hid (⟨hd, hdg, hmem⟩ : (∀ c ∈ l.take i, isDig c) ∧ ¬ isDig c ∧ c ∈ l)
        have h5 : (c.toNat : Int) < 48 ∨ 57 < (c.toNat : Int) := by unfold isDig at hdg; omega
        clear hd hdg hmem
        rcases h5 with h5 | h5
        · have h1 : decide ((c.toNat : Int) < 48) = true := decide_eq_true h5
          go_wp2_with fail
          exact bodyPost_ret (v := .bool false) (by simp [results, Tryz.results176, go_sem]) rfl ⟨by rw [decB_false fun h => absurd (h.1 c HC.out.2.2) HC.out.2.1], hb⟩
        · have h1 : decide ((c.toNat : Int) < 48) = false := decide_eq_false (by omega)
          have h2 : decide (57 < (c.toNat : Int)) = true := decide_eq_true h5
          go_wp2_with fail
          exact bodyPost_ret (v := .bool false) (by simp [results, Tryz.results176, go_sem]) rfl ⟨by rw [decB_false fun h => absurd (h.1 c HC.out.2.2) HC.out.2.1], hb⟩
    · rw [List.take_length] at hd
      have hst := st_list l
      have h0 : decide (l.length < (st l).size) = false := decide_eq_false (by rw [st_size]; omega)
      by_cases h1 : l = [48]
      · subst h1
        have hD : decB [48] = true := decB_true ⟨hd, .inl rfl⟩
        have HD := Lib.hid hD
        clear hd hD
        go_wp2_with fail
        exact bodyPost_ret (v := .bool true) (by simp [results, Tryz.results176, go_sem]) rfl ⟨by rw [HD.out], hb⟩
      · cases l with
        | nil =>
          have hD : decB [] = false := decB_false fun h => by rcases h.2 with h | h <;> simp at h
          have HD := Lib.hid hD
          clear hd hD
          go_wp2_with fail
          exact bodyPost_ret (v := .bool false) (by simp [results, Tryz.results176, go_sem]) rfl ⟨by rw [HD.out], hb⟩
        | cons c m =>
          have hlt : 0 < (st (c :: m)).size := Nat.succ_pos _
          have hget : (st (c :: m))[0]'hlt = c := rfl
          have hne : (c :: m) ≠ [] := by simp
          have hD : decB (c :: m) = ((c :: m) == [48] || !(c :: m).isEmpty && ((c.toNat : Int) != 48)) := by
            have e1 : ((c :: m) == [48]) = false := beq_eq_false_iff_ne.2 h1
            rw [e1, Bool.false_or, show (c :: m).isEmpty = false from rfl, Bool.not_false, Bool.true_and]
            by_cases h48 : c = 48
            · subst h48
              rw [decB_false fun h => by
                rcases h.2 with h | ⟨_, h⟩
                · exact h1 h
                · exact h rfl]
              rfl
            · rw [decB_true ⟨hd, .inr ⟨by simp, by simpa using h48⟩⟩]
              symm
              refine bne_iff_ne.2 fun h => h48 ?_
              apply UInt8.toNat_inj.1
              have : c.toNat = 48 := by omega
              rw [this]; rfl
          obtain ⟨l', hl'⟩ : ∃ l', l' = c :: m := ⟨_, rfl⟩
          have hD' : decB (c :: m) = ((c.toNat : Int) != 48) := by
            rw [hD, beq_eq_false_iff_ne.2 h1, Bool.false_or, show (c :: m).isEmpty = false from rfl, Bool.not_false, Bool.true_and]
          have HD := Lib.hid hD'
          have hlt' : 0 < (st l').size := by rw [hl']; exact hlt
          have hget' : (st l')[0]'hlt' = c := by subst hl'; rfl
          have hst' : (st l').toList = l' := st_list l'
          have h0' : decide (l'.length < (st l').size) = false := decide_eq_false (by rw [st_size]; omega)
          have n1 : ¬ l' = [48] := by rw [hl']; exact h1
          have n2 : ¬ l' = [] := by rw [hl']; exact hne
          have e1 : (l' == [48]) = false := beq_eq_false_iff_ne.2 n1
          have e2 : l'.isEmpty = false := by rw [hl']; rfl
          clear hst h0 hget hlt
          simp only [← hl']
          clear hd hD hl hi hne hD' h1 hl'
          rcases Bool.eq_false_or_eq_true ((c.toNat : Int) != 48) with e3 | e3
          · go_wp2_with fail
            exact bodyPost_ret (v := .bool true) (by simp [results, Tryz.results176, go_sem]) rfl ⟨by rw [HD.out, e3], hb⟩
          · go_wp2_with fail
            exact bodyPost_ret (v := .bool false) (by simp [results, Tryz.results176, go_sem]) rfl ⟨by rw [HD.out, e3], hb⟩

theorem pow10_le (i : Nat) (h : i ≤ 19) : 10 ^ i ≤ CB := by rw [CB_pow]; exact Nat.pow_le_pow_right (by omega) h

theorem wrapU {z : Int} (h0 : 0 ≤ z) (h1 : z ≤ 18446744073709551615) : IntKind.u64.wrap z = z := by rw [IntKind.wrap_u64]; omega

set_option maxHeartbeats 2000000 in
set_option maxRecDepth 100000 in
theorem chunkOf_any (l : List UInt8) (hd : ∀ c ∈ l, isDig c) (hl : l.length ≤ 19) (w : World) :
    Calls Tryz.prog 177 #[.string (st l)] w fun e w' => e = .returned (.tuple #[.int .u64 ((10 ^ l.length : Nat) : Int), .int .u64 ((dval l : Nat) : Int)]) ∧ Below w.heap.size w w' := by
  go_enter Tryz.func177, Tryz.ntmps177
  go_wp2_with fail
  go_loopw [2, 3, 7] (fun x y z wx => ∃ i b v : Nat, i ≤ l.length ∧ z = .int .i64 i ∧ x = .int .u64 (b : Int) ∧ y = .int .u64 (v : Int) ∧ b = 10 ^ i ∧ v = dval (l.take i) ∧ Below w.heap.size w wx) (fun _ _ z _ => l.length - (intOf z).toNat)
  case atStart => exact ⟨0, 1, 0, Nat.zero_le _, rfl, rfl, rfl, rfl, rfl, Below.refl _ _⟩
  case round =>
    obtain ⟨i, b, v, hi, rfl, rfl, rfl, hb, hv, hB⟩ := hrel
    rcases Nat.lt_or_eq_of_le hi with h | h
    · obtain ⟨c, hc⟩ : ∃ c, c = l[i] := ⟨_, rfl⟩
      have hlt : i < (st l).size := h
      have hget : (st l)[i]'hlt = c := by rw [hc]; rfl
      have hmem : isDig c := by rw [hc]; exact hd _ (List.getElem_mem h)
      have htk : l.take (i + 1) = l.take i ++ [c] := by rw [List.take_add_one, List.getElem?_eq_getElem h, ← hc]; rfl
      have hv' : dval (l.take (i + 1)) = v * 10 + (c.toNat - 48) := by rw [htk, dval_snoc, hv]
      have hvb : v * 10 + 9 < CB := by
        have h1 : v < 10 ^ i := by
          rw [hv]
          have := dval_lt (l := l.take i) fun x hx => hd x (List.mem_of_mem_take hx)
          rw [List.length_take, Nat.min_eq_left (by omega)] at this
          exact this
        have h2 := pow10_le (i + 1) (by omega)
        rw [Nat.pow_succ] at h2
        omega
      have hbb : b * 10 ≤ CB := by rw [hb, ← Nat.pow_succ]; exact pow10_le (i + 1) (by omega)
      obtain ⟨d, hdd⟩ : ∃ d : Nat, d = c.toNat - 48 := ⟨_, rfl⟩
      have hd9 : d ≤ 9 ∧ (c.toNat : Int) - 48 = (d : Int) := by unfold isDig at hmem; omega
      have w1 : IntKind.u64.wrap ((b : Int) * 10) = ((b * 10 : Nat) : Int) := by rw [wrapU (by omega) (by unfold CB at hbb; omega)]; omega
      have w2 : IntKind.u64.wrap ((v : Int) * 10) = ((v * 10 : Nat) : Int) := by rw [wrapU (by omega) (by unfold CB at hvb; omega)]; omega
      have w3 : IntKind.u8.wrap ((c.toNat : Int) - 48) = (d : Int) := by rw [IntKind.wrap_u8]; omega
      have w5 : IntKind.u64.wrap (d : Int) = (d : Int) := wrapU (by omega) (by omega)
      have w4 : IntKind.u64.wrap (((v * 10 : Nat) : Int) + (d : Int)) = ((v * 10 + d : Nat) : Int) := by rw [wrapU (by omega) (by unfold CB at hvb; omega)]; omega
      rw [← hdd] at hv'
      have hb' : 10 ^ (i + 1) = b * 10 := by rw [Nat.pow_succ, hb]
      generalize b * 10 = b1 at *
      generalize v * 10 = v1 at *
      have HV := Lib.hid hv'.symm
      have HB := Lib.hid hb'.symm
      clear hc hmem htk hv' hb' hb hv hvb hbb hdd
      generalize v1 + d = v2 at *
      go_wp2_with fail
      go_roundw
      case rel => exact ⟨i + 1, b1, v2, h, rfl, rfl, rfl, HB.out, HV.out, hB⟩
      case measure => simp [intOf]; omega
    · subst h
      rw [List.take_length] at hv
      have HV := Lib.hid hv
      have HB := Lib.hid hb
      have h0 : decide (l.length < (st l).size) = false := decide_eq_false (by rw [st_size]; omega)
      clear hv hb
      go_wp2_with fail
      exact bodyPost_ret (v := .tuple #[.int .u64 (b : Int), .int .u64 (v : Int)]) (by simp [results, Tryz.results177, go_sem]) rfl ⟨by rw [HB.out, HV.out], hB⟩
end Go.Proofs.YtecdnohhengfaaaGreatDoor

/-
  Layer 1, walks Za: timesPlus.
-/
namespace Go.Proofs.YtecdnohhengfaaaGreatDoor
open Go.RowKit

/-- What the loop of timesPlus keeps. -/
structure TimI (l : List Nat) (f s i carry : Nat) (O : List Nat) : Prop where
  len : O.length = i
  dig : Dig O
  lt : carry < Bs
  eq : val O + carry * Bs ^ i = val (l.take i) * f + s

theorem TimI.start (l : List Nat) (f s : Nat) (hs : s < Bs) : TimI l f s 0 s [] := ⟨rfl, Dig.nil, hs, by simp [val]⟩

theorem tim_arith (V T X d f s o over low carry mh B : Nat) (e1 : o + B * over = low + carry) (e2 : low + B * mh = d * f) (e0 : V + carry * X = T * f + s) :
    V + X * o + (mh + over) * (X * B) = (T + X * d) * f + s := by
  have h1 : X * o + X * (B * over) = X * low + X * carry := by rw [← Nat.mul_add, e1, Nat.mul_add]
  have h2 : X * low + X * (B * mh) = X * (d * f) := by rw [← Nat.mul_add, e2]
  have h3 : (mh + over) * (X * B) = X * (B * mh) + X * (B * over) := by
    rw [Nat.add_mul, Nat.mul_comm mh, Nat.mul_comm over, Nat.mul_assoc, Nat.mul_assoc]
  have h4 : (T + X * d) * f = T * f + X * (d * f) := by rw [Nat.add_mul, Nat.mul_assoc]
  have h5 : carry * X = X * carry := Nat.mul_comm _ _
  rw [h3, h4]
  rw [h5] at e0
  generalize X * o = a1 at *
  generalize X * (B * over) = a2 at *
  generalize X * (B * mh) = a3 at *
  generalize X * (d * f) = a4 at *
  generalize X * low = a5 at *
  generalize X * carry = a6 at *
  generalize T * f = a7 at *
  omega

theorem TimI.step {l O : List Nat} {f s i carry : Nat} (h : TimI l f s i carry O) (hd : Dig l) (hf : f < Bs) (hi : i < l.length) :
    TimI l f s (i + 1) (mh l[i] f + c64 (ml l[i] f) carry 0) (O ++ [s64 (ml l[i] f) carry 0]) := by
  have hdi := hd.get i hi
  have h1 := s64_spec (ml l[i] f) carry 0
  have h2 := mul_spec l[i] f
  have h3 := mh_lt hdi hf
  have h4 : c64 (ml l[i] f) carry 0 ≤ 1 := c64_le (ml_lt _ _) h.lt (by omega)
  have hB := Bs_gt
  refine ⟨by rw [List.length_append, h.len]; rfl, (fun x hx => by
    rcases List.mem_append.1 hx with hx | hx
    · exact h.dig x hx
    · rw [List.mem_singleton.1 hx]; exact s64_lt _ _ _), by omega, ?_⟩
  rw [List.take_add_one, List.getElem?_eq_getElem hi]
  show val (O ++ [_]) + _ = val (l.take i ++ [l[i]]) * f + s
  rw [val_append, val_append, h.len, List.length_take, Nat.min_eq_left (by omega), Nat.pow_succ]
  have v1 : ∀ x, val [x] = x := fun x => by simp [val]
  rw [v1, v1]
  exact tim_arith _ _ _ _ _ _ _ _ _ _ _ _ (by rw [Nat.add_zero] at h1; exact h1) h2 h.eq

theorem infoU64' : (Tryz.prog.info? 30).map (fun i => (i.zero, i.size, i.bytes)) = some (some (.int .u64 0), 1, 8) := by kernel_rfl

theorem set_mid_map (O l : List Nat) (i o : Nat) (hO : O.length = i) (hi : i < l.length) : ((O ++ l.drop i).map u64V).set i (u64V o) = ((O ++ [o]) ++ l.drop (i + 1)).map u64V := by
  have e : (O ++ l.drop i).set i o = (O ++ [o]) ++ l.drop (i + 1) := by
    rw [List.set_append_right _ _ (by omega), hO, Nat.sub_self, List.drop_eq_getElem_cons hi, List.set_cons_zero, List.append_assoc]; rfl
  rw [← e, List.map_set]

set_option maxHeartbeats 2000000 in
set_option maxRecDepth 100000 in
theorem timesPlus_any (B f s n : Nat) (v : Value) (l : List Nat) (hn : l.length = n) (hd : Dig l) (hf : f < Bs) (hs : s < Bs) (hl : n ≤ 1000000) (w : World) (hB : B ≤ w.heap.size) (hown : w.ownsRow B 30 1 v n (l.map u64V)) :
    Calls Tryz.prog 178 #[v, .int .u64 (f : Int), .int .u64 (s : Int)] w fun e w' => ∃ (v' : Value) (l' : List Nat), e = .returned v' ∧ Dig l' ∧ val l' = val l * f + s ∧ l'.length ≤ n + 1 ∧ w'.ownsRow B 30 1 v' l'.length (l'.map u64V) ∧ Below B w w' := by
  obtain ⟨i0, hi0, hz0, hz1, hz2⟩ := info_parts infoU64'
  obtain ⟨ao, c, rfl⟩ : ∃ ao c, v = .slice ao n c := by
    rcases hown.2 with ⟨rfl, rfl⟩ | ⟨g, c, cur, rfl, _⟩
    · exact ⟨_, _, rfl⟩
    · exact ⟨_, _, rfl⟩
  go_enter Tryz.func178, Tryz.ntmps178
  go_wp2_with fail
  go_loopw [7, 16] (fun x y wr => ∃ (i carry : Nat) (O : List Nat), i ≤ n ∧ x = .int .u64 carry ∧ y = .int .i64 i ∧ TimI l f s i carry O ∧ wr.ownsRow B 30 1 (.slice ao n c) n ((O ++ l.drop i).map u64V) ∧ Below B w wr) (fun _ y _ => n - (intOf y).toNat)
  case atStart => exact ⟨0, s, [], Nat.zero_le _, rfl, rfl, TimI.start l f s hs, by simpa using hown, Below.refl _ _⟩
  case round =>
    obtain ⟨i, carry, O, hi, rfl, rfl, hI, hO, hBr⟩ := hrel
    clear hown
    have hsz := hBr.size
    rcases Nat.lt_or_eq_of_le hi with h | h
    · obtain ⟨g, rfl, hg⟩ : ∃ g, ao = some ⟨g, 0, none⟩ ∧ B ≤ g := by
        rcases hO.2 with ⟨_, rfl⟩ | ⟨g, c', cur, he, hb, _⟩
        · omega
        · simp at he; exact ⟨g, he.1, hb⟩
      have hli : i < l.length := by omega
      have hcell : wr.cell? ⟨g, i, none⟩ = some (.int .u64 ((l[i] : Nat) : Int)) := by
        rw [hO.cellAt i (by omega), List.getElem?_map, List.getElem?_append_right (by rw [hI.len]; exact Nat.le_refl _), hI.len, Nat.sub_self, List.getElem?_drop, Nat.add_zero, List.getElem?_eq_getElem hli]
        rfl
      have hfz := hO.frozenAt i
      have hstep := hI.step hd hf hli
      have hst := hO.stored i (u64V (s64 (ml l[i] f) carry 0))
      rw [set_mid_map O l i _ hI.len hli] at hst
      have hdi := hd.get i hli
      generalize l[i] = di at *
      have hadd := add64c (ml di f) carry
      have HM := Lib.hid (mul64 di f hdi hf)
      have hcl := hstep.lt
      have b1 : ((mh di f : Nat) : Int) + ((c64 (ml di f) carry 0 : Nat) : Int) ≤ 18446744073709551615 := by unfold Bs at hcl; omega
      have HS := Lib.hid hstep
      have HT := Lib.hid hst
      clear hstep hst hI hO hdi hcl hi0 hz0 hz1 hz2
      go_wp2_with (go_at_call 156; refine (HM.out _).mono ?_; rintro e w1 ⟨rfl, rfl⟩)
      go_roundw
      case rel => exact ⟨i + 1, _, _, h, by go_num, by go_num, HS.out, HT.out.1, hBr.setCell (p := ⟨g, i, none⟩) hg _⟩
      case measure => simp [intOf]; omega
    · subst h
      have hlen := hI.len
      have heq := hI.eq
      have hdig := hI.dig
      have hlt := hI.lt
      rw [← hn, List.take_length] at heq
      rw [show l.drop i = [] by rw [List.drop_eq_nil_iff]; omega, List.append_nil] at hO
      rcases Nat.eq_zero_or_pos carry with h0 | h0
      · subst h0
        rw [Nat.zero_mul, Nat.add_zero] at heq
        have HE := Lib.hid heq
        clear heq hi0 hz0 hz1 hz2 hI
        go_wp2_with fail
        refine bodyPost_ret (v := .slice ao i c) (by simp [results, Tryz.results178, go_sem]) rfl ⟨_, O, rfl, hdig, HE.out, by omega, ?_, hBr⟩
        rw [hlen]; exact hO
      · have hc1 : decide ((0 : Int) < (carry : Int)) = true := decide_eq_true (by omega)
        have hc2 : decide (0 < carry) = true := decide_eq_true (by omega)
        have HE := Lib.hid heq
        clear heq hI
        go_wp2_with (at_builtin; refine wpList_append_lies _ rfl (.tmp 42) (.tmp 44) 158 rfl B 30 i0 (.int .u64 0) 1 8 Tryz.underlying158 hi0 hz0 hz1 hz2 rfl (by decide) (.slice ao i c) i (O.map u64V) (by rfl) (World.ownsRow.alloc hO _) ⟨wr.heap.size, 0, none⟩ 1 1 [.int .u64 (carry : Int)] (by rfl) rfl (World.news_of_block (heap_alloc_new wr _)) (by simp [Value.oneCell']) (by decide) (by unfold maxLen; omega) (by omega) (by simp; omega) (wr.heap.size + 1) (by simp) ?_)
        rintro g4 cap4 w4 hown4 hgrow4 hat4 hlt4
        have hB4 : Below B w w4 := (hBr.alloc (Nat.le_trans hB hsz) _).grown hgrow4 (by simp; omega) (fun k' hk' => (World.ownsRow.lt hO k' hk').1)
        clear hO hgrow4 hat4 hBr
        have hl' : (O ++ [carry]).length = i + 1 := by rw [List.length_append, hlen]; rfl
        go_wp2_with fail
        refine bodyPost_ret (v := .slice (some ⟨g4, 0, none⟩) (i + 1) cap4) (by simp [results, Tryz.results178, go_sem]) rfl ⟨_, O ++ [carry], rfl, hdig.app (Dig.cons hlt Dig.nil), ?_, by omega, ?_, hB4⟩
        · rw [val_append, hlen, show val [carry] = carry by simp [val], Nat.mul_comm]; have h9 := HE.out; rw [hn] at h9; exact h9
        · rw [hl', List.map_append]; exact hown4
end Go.Proofs.YtecdnohhengfaaaGreatDoor

/-
  Layer 1, walks Zb: Parse.
-/
namespace Go.Proofs.YtecdnohhengfaaaGreatDoor
open Go.RowKit
attribute [local irreducible] lo hs sm s64 c64 d64 b64 mh ml pd pc qd qc val hiB str cmpI srD lz nb isq decB

set_option maxHeartbeats 2000000 in
set_option maxRecDepth 100000 in
theorem parse_form (l : List UInt8) (h : l.length ≤ 4096) (hd : ¬ isDec l) (w : World) :
    Calls Tryz.prog 116 #[.string (st l)] w fun e w' => e = .returned (.tuple #[natV 0, .int .i64 4]) ∧ Below w.heap.size w w' := by
  obtain ⟨w0, hw0, hA, hb0, hsz0⟩ := boxes1 w (.int .u64 0) (.string ⟨#[]⟩) 32
  have h1 : decide ((4096 : Int) < ((st l).size : Int)) = false := decide_eq_false (by rw [st_size]; omega)
  have h2 : decide (4096 < (st l).size) = false := decide_eq_false (by rw [st_size]; omega)
  have HF := Lib.hid (fun w => form_any l (by omega) w)
  rw [decB_false hd] at HF
  go_enter Tryz.func116, Tryz.ntmps116
  go_wp2_with fail
  refine (HF.out _).mono ?_
  rintro e w1 ⟨rfl, hb1⟩
  obtain ⟨a0, a1, af⟩ := hA.below hb1 hsz0
  have hB1 := hb0.trans (hb1.mono hb0.size)
  go_wp2_with fail
  exact bodyPost_ret (v := .tuple #[natV 0, .int .i64 4]) (by rw [natV_zero]; simp [results, Tryz.results116, go_sem, a0, a1]) rfl ⟨rfl, (hB1.setCell (by simp <;> omega) _).setCell (by simp <;> omega) _⟩

/-- The length of a string, out of its value. -/
def strL : Value → Nat
  | .string s => s.size
  | _ => 0

theorem row_below {w w' : World} {B n : Nat} {v : Value} {xs : List Value} (h : w.ownsRow B 30 1 v n xs) (hb : Below w.heap.size w w') : w'.ownsRow B 30 1 v n xs := by
  refine h.kept (row := none) ⟨hb.os, hb.tape, hb.output, hb.size, fun k hk _ => hb.block k hk⟩ ?_
  cases v.ownBlock with
  | none => exact .inl rfl
  | some x => exact .inr (by simp)

theorem pack_row (B n : Nat) (v : Value) (l : List Nat) (hn : l.length = n) (hd : Dig l) (hl : n ≤ 1000000) (w : World) (h : w.ownsRow B 30 1 v n (l.map u64V)) :
    Calls Tryz.prog 154 #[v] w fun e w' => e = .returned (natV (val l)) ∧ Below w.heap.size w w' := by
  subst hn
  rcases id h with ⟨h1, ⟨rfl, h0⟩ | ⟨g, c, cur, rfl, hb, hg, hnc, hcm, hcs, ht⟩⟩
  · have : l = [] := List.length_eq_zero_iff.1 h0
    subst this
    rw [show val [] = 0 by simp [val]]
    exact pack_nil w
  · refine pack_any g 0 c l hd (by omega) hnc w (Array.getElem?_eq_some_iff.1 hg).1 fun i hi => ?_
    rw [Nat.zero_add, h.cellAt i (by omega), List.getElem?_map, List.getElem?_eq_getElem hi]
    rfl

theorem ba_ext {a b : ByteArray} (h : a.data = b.data) : a = b := by
  cases a; cases b; simp_all
theorem st_take (r : List UInt8) (k : Nat) : (st r).extract 0 k = st (r.take k) := by
  apply ba_ext
  rw [ByteArray.data_extract]
  show r.toArray.extract 0 k = (r.take k).toArray
  simp
theorem st_drop (r : List UInt8) (k : Nat) : (st r).extract k (st r).size = st (r.drop k) := by
  apply ba_ext
  rw [ByteArray.data_extract]
  show r.toArray.extract k r.length = (r.drop k).toArray
  simp
  exact List.take_of_length_le (by rw [List.length_drop]; exact Nat.le_refl _)

set_option maxHeartbeats 2000000 in
set_option maxRecDepth 100000 in
theorem parse_ok (l : List UInt8) (h : l.length ≤ 4096) (hd : isDec l) (w : World) :
    Calls Tryz.prog 116 #[.string (st l)] w fun e w' => e = .returned (.tuple #[natV (dval l), .int .i64 0]) ∧ Below w.heap.size w w' := by
  obtain ⟨w0, hw0, hA, hb0, hsz0⟩ := boxes1 w (.int .u64 0) (.string ⟨#[]⟩) 32
  have h1 : decide ((4096 : Int) < ((st l).size : Int)) = false := decide_eq_false (by rw [st_size]; omega)
  have h2 : decide (4096 < (st l).size) = false := decide_eq_false (by rw [st_size]; omega)
  have HF := Lib.hid (fun w => form_any l (by omega) w)
  rw [decB_true hd] at HF
  go_enter Tryz.func116, Tryz.ntmps116
  go_wp2_with fail
  refine (HF.out _).mono ?_
  rintro e w1 ⟨rfl, hb1⟩
  have hA1 := hA.below hb1 hsz0
  have hB1 := hb0.trans (hb1.mono hb0.size)
  have hs1 := Nat.lt_of_lt_of_le hsz0 hb1.size
  clear hA hb1 hb0 hw0 hsz0 h1 h2 HF
  obtain ⟨K, hK⟩ : ∃ K, K = w.heap.size := ⟨_, rfl⟩
  go_wp2_with fail
  go_loopw [0, 4] (fun x y wr => ∃ (j : Nat) (dl : List Nat), j ≤ l.length ∧ x = .string (st (l.drop j)) ∧ Dig dl ∧ val dl = dval (l.take j) ∧ dl.length ≤ j ∧ wr.ownsRow (K + 1) 30 1 y dl.length (dl.map u64V) ∧ Bx wr w.heap.size (.int .u64 0) (.string ⟨#[]⟩) ∧ Below w.heap.size w wr ∧ w.heap.size < wr.heap.size) (fun x _ _ => strL x)
  case atStart => exact ⟨0, [], Nat.zero_le _, rfl, Dig.nil, by rw [List.take_zero, dval_nil]; unfold val; rfl, Nat.zero_le _, ⟨rfl, .inl ⟨rfl, rfl⟩⟩, hA1, hB1, hs1⟩
  case round =>
    obtain ⟨j, dl, hj, rfl, hdl, hv, hjl, hown, hAr, hBr, hsr⟩ := hrel
    clear hA1 hB1 hs1
    obtain ⟨r, hr⟩ : ∃ r, r = l.drop j := ⟨_, rfl⟩
    have hrl : r.length = l.length - j := by rw [hr, List.length_drop]
    rw [← hr]
    rcases Nat.eq_zero_or_pos r.length with h0 | h0
    · have hrn : r = [] := List.length_eq_zero_iff.1 h0
      have hjn : j = l.length := by omega
      rw [hjn, List.take_length] at hv
      have HP := Lib.hid (pack_row _ _ _ dl rfl hdl (by omega) wr hown)
      obtain ⟨V, hV⟩ : ∃ V, V = dval l := ⟨_, rfl⟩
      rw [hv, ← hV] at HP
      have HVV := Lib.hid hV
      clear hV
      subst hrn
      have hz : (st []).size = 0 := rfl
      clear hr hown hv hdl hj hjl
      go_wp2_with fail
      refine (HP.out).mono ?_
      rintro e w2 ⟨rfl, hb2⟩
      obtain ⟨a0, a1, af⟩ := hAr.below hb2 hsr
      have hB2 := hBr.trans (hb2.mono hBr.size)
      clear HP hb2 hAr
      go_wp2_with fail
      exact bodyPost_ret (v := .tuple #[natV V, .int .i64 0]) (by simp [results, Tryz.results116, go_sem, a0, a1]) rfl ⟨by rw [HVV.out], (hB2.setCell (by simp <;> omega) _).setCell (by simp <;> omega) _⟩
    · obtain ⟨k, hk⟩ : ∃ k, k = min r.length 19 := ⟨_, rfl⟩
      have hk1 : 0 < k := by omega
      have hk2 : k ≤ r.length := by omega
      have hk3 : k ≤ 19 := by omega
      have g1 : decide ((0 : Int) < ((st r).size : Int)) = true := decide_eq_true (by rw [st_size]; omega)
      have g2 : decide (0 < (st r).size) = true := decide_eq_true (by rw [st_size]; omega)
      have HC := Lib.hid (fun w => chunkOf_any (r.take k) (fun c hc => hd.1 c (List.mem_of_mem_drop (by rw [← hr]; exact List.mem_of_mem_take hc))) (by rw [List.length_take]; omega) w)
      have hr' := hr
      have hx1 := st_take r k
      have hx2 := st_drop r k
      have hm1 : min ((st r).size : Int) 19 = (k : Int) := by rw [st_size]; omega
      have hk4 : (k : Int) ≤ ((st r).size : Int) := by rw [st_size]; omega
      clear hr
      have htl : (r.take k).length = k := by rw [List.length_take]; omega
      rw [htl] at HC
      have hfB : 10 ^ k < Bs := Nat.lt_of_le_of_lt (pow10_le k hk3) (by unfold CB Bs; omega)
      have hsB : dval (r.take k) < Bs := by
        have h1 := dval_lt (l := r.take k) (fun c hc => hd.1 c (List.mem_of_mem_drop (by rw [← hr']; exact List.mem_of_mem_take hc)))
        rw [htl] at h1
        omega
      have hvn : dval (l.take (j + k)) = val dl * 10 ^ k + dval (r.take k) := by rw [hv, List.take_add, ← hr', dval_append, htl]
      have hrn : r.drop k = l.drop (j + k) := by rw [hr', List.drop_drop]
      generalize 10 ^ k = f at *
      generalize dval (r.take k) = s at *
      have HV := Lib.hid hvn
      have HN := Lib.hid hrn
      clear hk hr' hvn hrn htl hv
      go_wp2_with fail
      refine (HC.out _).mono ?_
      rintro e w2 ⟨rfl, hb2⟩
      have hown2 := row_below hown hb2
      have hA2 := hAr.below hb2 hsr
      have hB2 := hBr.trans (hb2.mono hBr.size)
      have hs2 := Nat.lt_of_lt_of_le hsr hb2.size
      have HT := Lib.hid (timesPlus_any (K + 1) f s dl.length _ dl rfl hdl hfB hsB (by omega) w2 (by omega) hown2)
      clear HC hown hb2 hAr hBr hsr hfB hsB
      go_wp2_with fail
      refine (HT.out).mono ?_
      rintro e w3 ⟨v', l', rfl, hl1, hl2, hl3, hown3, hb3⟩
      have hA3 := hA2.below hb3 (by omega)
      have hB3 := hB2.trans (hb3.mono (by omega))
      have hs3 := Nat.lt_of_lt_of_le hs2 hb3.size
      clear HT hown2 hA2 hB2 hs2 hb3
      go_wp2_with fail
      go_roundw
      case rel => exact ⟨j + k, l', by omega, by rw [HN.out], hl1, by rw [hl2, HV.out], by omega, hown3, hA3, hB3, hs3⟩
      case measure => simp only [strL, st_size, List.length_drop]; omega
end Go.Proofs.YtecdnohhengfaaaGreatDoor

/-
  Layer 1, law A: Made.
-/
namespace Go.Proofs.YtecdnohhengfaaaGreatDoor
open Go.RowKit
attribute [local irreducible] lo hs sm s64 c64 d64 b64 mh ml pd pc qd qc val hiB str cmpI srD lz nb isq decB

/-- The number with the given 32-bit words, the least first. -/
def made : List Nat → Nat
  | [] => 0
  | x :: l => x + 4294967296 * made l

/-- A slice of 32-bit words. -/
structure Wd (w : World) (a : Addr) (l : List Nat) : Prop where
  lt : ∀ x ∈ l, x < 4294967296
  cell : ∀ (i : Nat) (h : i < l.length), w.cell? (a.add i) = some (.int .u32 ((l[i] : Nat) : Int))
  blk : a.block < w.heap.size
theorem Wd.below {w w' : World} {a : Addr} {l : List Nat} (h : Wd w a l) (hb : Below w.heap.size w w') : Wd w' a l :=
  ⟨h.lt, fun i hi => (hb.cell (p := a.add i) (by rw [show (a.add i).block = a.block from by unfold Addr.add; split <;> rfl]; exact h.blk)).trans (h.cell i hi), Nat.lt_of_lt_of_le h.blk hb.size⟩

theorem of_val (z : Int) (d : Nat) (hz : z = (d : Int)) (hd : d < Bs) (w : World) :
    Calls Tryz.prog 88 #[.int .u64 z] w fun e w' => e = .returned (natV d) ∧ Below w.heap.size w w' := by rw [hz]; exact of_any d hd w

/-- What Made's rounds keep. -/
structure MS (w w' : World) (a : Addr) (l : List Nat) (m : Nat) : Prop where
  O : Bx w' (w.heap.size + 1) (.int .u64 ((lo m : Nat) : Int)) (.string (hs m))
  R : Bx w' w.heap.size (.int .u64 0) (.string ⟨#[]⟩)
  W : Wd w' a l
  sz : w.heap.size + 2 ≤ w'.heap.size
  bl : Below w.heap.size w w'
theorem MS.below {w w' w'' : World} {a : Addr} {l : List Nat} {m : Nat} (h : MS w w' a l m) (hb : Below w'.heap.size w' w'') : MS w w'' a l m :=
  ⟨h.O.below hb (by have := h.sz; omega), h.R.below hb (by have := h.sz; omega), h.W.below hb, Nat.le_trans h.sz hb.size, h.bl.trans (hb.mono (by have := h.sz; omega))⟩
theorem MS.drew {w w' : World} {a : Addr} {l : List Nat} {m : Nat} (h : MS w w' a l m) : MS w w'.drew a l m := ⟨h.O, h.R, ⟨h.W.lt, h.W.cell, h.W.blk⟩, h.sz, h.bl.drew⟩
theorem MS.put {w w' : World} {a : Addr} {l : List Nat} {m : Nat} (h : MS w w' a l m) (ha : a.block < w.heap.size) (m' : Nat) :
    MS w ((w'.setCell ⟨w.heap.size + 1, 0, none⟩ (.int .u64 ((lo m' : Nat) : Int))).setCell ⟨w.heap.size + 1, 1, none⟩ (.string (hs m'))) a l m' := by
  have hb : Below (w.heap.size + 1) w' ((w'.setCell ⟨w.heap.size + 1, 0, none⟩ (.int .u64 ((lo m' : Nat) : Int))).setCell ⟨w.heap.size + 1, 1, none⟩ (.string (hs m'))) := ((Below.refl _ _).setCell (p := ⟨w.heap.size + 1, 0, none⟩) (Nat.le_refl _) _).setCell (p := ⟨w.heap.size + 1, 1, none⟩) (Nat.le_refl _) _
  refine ⟨put2 h.O _ _, h.R.below hb (by omega), ⟨h.W.lt, fun i hi => ?_, Nat.lt_of_lt_of_le h.W.blk hb.size⟩, Nat.le_trans h.sz hb.size, h.bl.trans (hb.mono (by omega))⟩
  exact (hb.cell (p := a.add i) (by rw [show (a.add i).block = a.block from by unfold Addr.add; split <;> rfl]; omega)).trans (h.W.cell i hi)
theorem MS.cells {w w' : World} {a : Addr} {l : List Nat} {m : Nat} (h : MS w w' a l m) (i x : Nat) (hi : i < l.length) (hx : x = l[i]) :
    w'.cell? ⟨w.heap.size + 1, 0, none⟩ = some (.int .u64 ((lo m : Nat) : Int)) ∧ w'.cell? ⟨w.heap.size + 1, 1, none⟩ = some (.string (hs m)) ∧ w'.cell? (a.add i) = some (.int .u32 (x : Int)) :=
  ⟨h.O.1, h.O.2.1, by rw [hx]; exact h.W.cell i hi⟩

/-- A slice of words, nil or not. -/
def Ws (w : World) (v : Value) (l : List Nat) : Prop := (∃ ao c, v = .slice ao 0 c ∧ l = []) ∨ ∃ a c, v = .slice (some a) l.length c ∧ Wd w a l
theorem Ws.below {w w' : World} {v : Value} {l : List Nat} (h : Ws w v l) (hb : Below w.heap.size w w') : Ws w' v l := by
  rcases h with h | ⟨a, c, h1, h2⟩
  · exact .inl h
  · exact .inr ⟨a, c, h1, h2.below hb⟩
theorem Ws.lt {w : World} {v : Value} {l : List Nat} (h : Ws w v l) : ∀ x ∈ l, x < 4294967296 := by
  rcases h with ⟨_, _, _, rfl⟩ | ⟨a, c, _, h2⟩
  · intro x hx; cases hx
  · exact h2.lt
end Go.Proofs.YtecdnohhengfaaaGreatDoor

/-
  Layer 1, law: the boxes of a law's numbers.
-/
namespace Go.Proofs.YtecdnohhengfaaaGreatDoor
open Go.RowKit
attribute [local irreducible] lo hs sm s64 c64 d64 b64 mh ml pd pc qd qc val hiB str cmpI srD lz nb isq decB

/-- Whether bytes are a decimal form, by computation. -/
def decC (l : List UInt8) : Bool := l.all (fun c => decide (48 ≤ c.toNat) && decide (c.toNat ≤ 57)) && (l == [48] || (!l.isEmpty && l.head? != some 48))
theorem decC_iff (l : List UInt8) : decC l = true ↔ isDec l := by
  unfold decC isDec isDig
  simp only [Bool.and_eq_true, List.all_eq_true, decide_eq_true_eq, Bool.or_eq_true, beq_iff_eq, Bool.not_eq_true', bne_iff_ne, List.isEmpty_eq_false_iff]
theorem isDec_no {l : List UInt8} (h : decC l = false) : ¬ isDec l := fun h' => by rw [(decC_iff l).2 h'] at h; cases h

/-- A box that holds a number. -/
structure NX (w : World) (k n : Nat) : Prop where
  b : Bx w k (.int .u64 ((lo n : Nat) : Int)) (.string (hs n))
  lt : k < w.heap.size
theorem NX.below {w w' : World} {k n : Nat} (h : NX w k n) (hb : Below w.heap.size w w') : NX w' k n := ⟨h.b.below hb h.lt, Nat.lt_of_lt_of_le h.lt hb.size⟩

/-- The boxes that a call has made, with what they hold. -/
structure NL (w0 W : World) (L : List (Nat × Nat)) : Prop where
  bl : Below w0.heap.size w0 W
  all : ∀ p ∈ L, w0.heap.size ≤ p.1 ∧ NX W p.1 p.2
  nd : (L.map (·.1)).Nodup

theorem NL.start (w : World) : NL w w [] := ⟨Below.refl _ _, (fun p hp => by cases hp), List.nodup_nil⟩
theorem NL.call {w0 W W' : World} {L : List (Nat × Nat)} (h : NL w0 W L) (hb : Below W.heap.size W W') : NL w0 W' L :=
  ⟨h.bl.trans (hb.mono h.bl.size), fun p hp => ⟨(h.all p hp).1, (h.all p hp).2.below hb⟩, h.nd⟩
theorem NL.drew {w0 W : World} {L : List (Nat × Nat)} (h : NL w0 W L) : NL w0 W.drew L :=
  ⟨h.bl.drew, fun p hp => ⟨(h.all p hp).1, (h.all p hp).2.b, (h.all p hp).2.lt⟩, h.nd⟩
theorem szA (W : World) (o : Obj) : (W.alloc o).heap.size = W.heap.size + 1 := World.size_alloc _ _
theorem NL.new {w0 W : World} {L : List (Nat × Nat)} {K : Nat} (h : NL w0 W L) (hK : W.heap.size = K) (n : Nat) (t : TypeId) : NL w0 (W.alloc (.cells #[.int .u64 ((lo n : Nat) : Int), .string (hs n)] t)) ((K, n) :: L) := by
  subst hK
  obtain ⟨w1, h1, h2, h3, h4⟩ := boxes1 W (.int .u64 ((lo n : Nat) : Int)) (.string (hs n)) t
  rw [h1]
  refine ⟨h.bl.trans (h3.mono h.bl.size), fun p hp => ?_, ?_⟩
  · rcases List.mem_cons.1 hp with rfl | hp
    · exact ⟨h.bl.size, h2, h4⟩
    · exact ⟨(h.all p hp).1, (h.all p hp).2.below h3⟩
  · rw [List.map_cons, List.nodup_cons]
    refine ⟨fun hm => ?_, h.nd⟩
    obtain ⟨p, hp, he⟩ := List.mem_map.1 hm
    have := (h.all p hp).2.lt
    simp only at he
    omega
theorem NL.tail {w0 W : World} {L : List (Nat × Nat)} {x : Nat × Nat} (h : NL w0 W (x :: L)) : NL w0 W L :=
  ⟨h.bl, fun p hp => h.all p (List.mem_cons_of_mem _ hp), (List.nodup_cons.1 h.nd).2⟩
theorem NL.swap {w0 W : World} {L : List (Nat × Nat)} {x y : Nat × Nat} (h : NL w0 W (x :: y :: L)) : NL w0 W (y :: x :: L) := by
  refine ⟨h.bl, fun p hp => h.all p ?_, ?_⟩
  · simp only [List.mem_cons] at hp ⊢
    rcases hp with h | h | h
    · exact .inr (.inl h)
    · exact .inl h
    · exact .inr (.inr h)
  · have := h.nd
    simp only [List.map_cons, List.nodup_cons, List.mem_cons, not_or] at this ⊢
    exact ⟨⟨fun e => this.1.1 e.symm, this.2.1⟩, this.1.2, this.2.2⟩
theorem NL.get {w0 W : World} {L : List (Nat × Nat)} (h : NL w0 W L) (k n : Nat) (hm : (k, n) ∈ L) : W.cell? ⟨k, 0, none⟩ = some (.int .u64 ((lo n : Nat) : Int)) ∧ W.cell? ⟨k, 1, none⟩ = some (.string (hs n)) :=
  ⟨(h.all _ hm).2.b.1, (h.all _ hm).2.b.2.1⟩
theorem NL.frozen {w0 W : World} {L : List (Nat × Nat)} (h : NL w0 W L) (k n : Nat) (hm : (k, n) ∈ L) : ∀ j, W.frozen? ⟨k, j, none⟩ = false := (h.all _ hm).2.b.2.2
theorem NL.cells {w0 W : World} {L : List (Nat × Nat)} {k n : Nat} (hm : (k, n) ∈ L) (h : NL w0 W L) : W.cell? ⟨k, 0, none⟩ = some (.int .u64 ((lo n : Nat) : Int)) ∧ W.cell? ⟨k, 1, none⟩ = some (.string (hs n)) := h.get k n hm

/-- A box's number is none of these. -/
def ne (k : Nat) : List (Nat × Nat) → Prop
  | [] => True
  | p :: L => k ≠ p.1 ∧ p.1 ≠ k ∧ ne k L
theorem ne_of {k : Nat} : ∀ {L : List (Nat × Nat)}, k ∉ L.map (·.1) → ne k L
  | [], _ => trivial
  | p :: L, h => by
    simp only [List.map_cons, List.mem_cons, not_or] at h
    exact ⟨h.1, fun e => h.1 e.symm, ne_of h.2⟩
theorem alloc_cell {W : World} (o : Obj) {k j : Nat} (h : k < W.heap.size) : (W.alloc o).cell? ⟨k, j, none⟩ = W.cell? ⟨k, j, none⟩ := (Below.refl W.heap.size W |>.alloc (Nat.le_refl _) o).cell (p := ⟨k, j, none⟩) h
theorem alloc_frozen {W : World} (o : Obj) {k j : Nat} (h : k < W.heap.size) : (W.alloc o).frozen? ⟨k, j, none⟩ = W.frozen? ⟨k, j, none⟩ := (Below.refl W.heap.size W |>.alloc (Nat.le_refl _) o).frozen (p := ⟨k, j, none⟩) h
/-- What the boxes hold, one fact each. -/
def fc (W : World) : List (Nat × Nat) → Prop
  | [] => True
  | p :: L => W.cell? ⟨p.1, 0, none⟩ = some (.int .u64 ((lo p.2 : Nat) : Int)) ∧ W.cell? ⟨p.1, 1, none⟩ = some (.string (hs p.2)) ∧ (∀ j, W.frozen? ⟨p.1, j, none⟩ = false) ∧ (∀ o, (W.alloc o).cell? ⟨p.1, 0, none⟩ = some (.int .u64 ((lo p.2 : Nat) : Int))) ∧ (∀ o, (W.alloc o).cell? ⟨p.1, 1, none⟩ = some (.string (hs p.2))) ∧ (∀ o j, (W.alloc o).frozen? ⟨p.1, j, none⟩ = false) ∧ (p.1 ≠ W.heap.size ∧ W.heap.size ≠ p.1 ∧ p.1 ≠ W.heap.size + 1 ∧ W.heap.size + 1 ≠ p.1) ∧ ne p.1 L ∧ fc W L
theorem NL.fc {w0 W : World} : ∀ {L : List (Nat × Nat)}, NL w0 W L → fc W L
  | [], _ => trivial
  | p :: L, h => ⟨(h.all p List.mem_cons_self).2.b.1, (h.all p List.mem_cons_self).2.b.2.1, (h.all p List.mem_cons_self).2.b.2.2, (fun o => by rw [alloc_cell o (h.all p List.mem_cons_self).2.lt]; exact (h.all p List.mem_cons_self).2.b.1), (fun o => by rw [alloc_cell o (h.all p List.mem_cons_self).2.lt]; exact (h.all p List.mem_cons_self).2.b.2.1), (fun o j => by rw [alloc_frozen o (h.all p List.mem_cons_self).2.lt]; exact (h.all p List.mem_cons_self).2.b.2.2 j), (by have := (h.all p List.mem_cons_self).2.lt; omega), ne_of (List.nodup_cons.1 h.nd).1, h.tail.fc⟩

/-- The cells of boxes, one behind the other. -/
def cl (W : World) : List (Nat × Nat) → Prop
  | [] => True
  | [p] => W.cell? ⟨p.1, 0, none⟩ = some (.int .u64 ((lo p.2 : Nat) : Int)) ∧ W.cell? ⟨p.1, 1, none⟩ = some (.string (hs p.2))
  | p :: q :: L => W.cell? ⟨p.1, 0, none⟩ = some (.int .u64 ((lo p.2 : Nat) : Int)) ∧ W.cell? ⟨p.1, 1, none⟩ = some (.string (hs p.2)) ∧ cl W (q :: L)
theorem cl_of {W : World} : ∀ {C : List (Nat × Nat)}, (∀ p ∈ C, W.cell? ⟨p.1, 0, none⟩ = some (.int .u64 ((lo p.2 : Nat) : Int)) ∧ W.cell? ⟨p.1, 1, none⟩ = some (.string (hs p.2))) → cl W C
  | [], _ => trivial
  | [p], h => h p List.mem_cons_self
  | p :: q :: L, h => ⟨(h p List.mem_cons_self).1, (h p List.mem_cons_self).2, cl_of fun r hr => h r (List.mem_cons_of_mem _ hr)⟩
/-- Old boxes, read in a newer world. -/
theorem NL.keep {w w0 W : World} {L C : List (Nat × Nat)} {L0 : List (Nat × Nat)} (h0 : NL w w0 L0) (hC : C ⊆ L0) (h : NL w0 W L) : cl W C :=
  cl_of fun p hp => by
    have hx := h0.all p (hC hp)
    exact ⟨(h.bl.cell (p := ⟨p.1, 0, none⟩) hx.2.lt).trans hx.2.b.1, (h.bl.cell (p := ⟨p.1, 1, none⟩) hx.2.lt).trans hx.2.b.2.1⟩
end Go.Proofs.YtecdnohhengfaaaGreatDoor

/-
  Layer 1, law: regions that only read, and whose callees make memory of their own: one walk serves every order.
-/
namespace Go.Proofs.YtecdnohhengfaaaGreatDoor
open Go.RowKit
attribute [local irreducible] lo hs sm s64 c64 d64 b64 mh ml pd pc qd qc val hiB str cmpI srD lz nb isq decB

/-- The worlds that keep what w0 holds, as the values of a function. -/
theorem cls (w0 : World) : ∃ (α : Type) (_ : Nonempty α) (F : α → World), (∀ x, Below w0.heap.size w0 (F x)) ∧ (∀ W, Below w0.heap.size w0 W → ∃ x, W = F x) :=
  ⟨{W : World // Below w0.heap.size w0 W}, ⟨⟨w0, Below.refl _ _⟩⟩, fun x => x.1, fun x => x.2, fun W h => ⟨⟨W, h⟩, rfl⟩⟩

theorem cls_call {α : Type} {F : α → World} {w0 : World} (h1 : ∀ x, Below w0.heap.size w0 (F x)) (h2 : ∀ W, Below w0.heap.size w0 W → ∃ x, W = F x) {P : Program} {f : FuncId} {args : Array Value} {v : Value}
    (h : ∀ w, Calls P f args w fun e w' => e = .returned v ∧ Below w.heap.size w w') (x : α) : Calls P f args (F x) fun e w'' => e = .returned v ∧ ∃ y, w'' = F y :=
  (h (F x)).mono fun _ _ ⟨he, hb⟩ => ⟨he, h2 _ ((h1 x).trans (hb.mono (h1 x).size))⟩
theorem cls_callT {α : Type} {F : α → World} {w0 : World} (h1 : ∀ x, Below w0.heap.size w0 (F x)) (h2 : ∀ W, Below w0.heap.size w0 W → ∃ x, W = F x) (ht : Tab w0) {f : FuncId} {args : Array Value} {v : Value}
    (h : ∀ w, Tab w → Calls Tryz.prog f args w fun e w' => e = .returned v ∧ Below w.heap.size w w') (x : α) : Calls Tryz.prog f args (F x) fun e w'' => e = .returned v ∧ ∃ y, w'' = F y :=
  (h (F x) (ht.below (h1 x))).mono fun _ _ ⟨he, hb⟩ => ⟨he, h2 _ ((h1 x).trans (hb.mono (h1 x).size))⟩
theorem cls_drew {α : Type} {F : α → World} {w0 : World} (h2 : ∀ W, Below w0.heap.size w0 W → ∃ x, W = F x) : ∃ x, w0.drew = F x := h2 _ (Below.refl _ _).drew
end Go.Proofs.YtecdnohhengfaaaGreatDoor

/-
  Regions that draw their order and hold calls, new boxes and one store into each of these: one walk in the order of the text serves every order.
-/
namespace Go.Proofs.YtecdnohhengfaaaGreatDoor
open Go Go.RowKit

/-! ### A call returns one value -/

theorem runN_next {P : Program} {n m : Nat} {a b c : Machine} (h1 : runN P n a = .next b) (h2 : runN P (n + m) a = .next c) : runN P m b = .next c := by
  rw [runN_add, h1] at h2
  exact h2

/-- A frame of no function: once its callee has returned, nothing goes on. -/
def deadF (P : Program) : Frame := { fn := P.funcs.size, tmps := #[], todo := [.code (.refuse "")], defers := [], mode := .run, kind := .normal }
theorem dead_finish (P : Program) (v : Value) : (deadF P).finish v = deadF P := rfl
theorem dead_stops {P : Program} {w : World} : ∀ m, step P (lone (deadF P) [] w) ≠ .next m := by
  have h : ∃ o w', step P (lone (deadF P) [] w) = .ended o w' := by
    generalize hs : stepG P true { frame := deadF P, callers := [], status := .running, dying := none } w = s
    have hb : ∃ o w', s.bare = .ended o w' := by
      rw [← hs]
      exact ⟨_, _, by simp [stepG, stepG.exec, deadF]; exact ⟨rfl, rfl⟩⟩
    obtain ⟨o, w', hb⟩ := hb
    exact ⟨o, w', step_lone_ended (by rw [hs]; exact hb)⟩
  obtain ⟨o, w', h⟩ := h
  intro m hm
  rw [h] at hm
  cases hm

theorem Calls.uniq {P : Program} {f : FuncId} {args : Array Value} {w : World} {v1 v2 : Value} {A B : World → Prop}
    (h1 : Calls P f args w fun e w' => e = .returned v1 ∧ A w') (h2 : Calls P f args w fun e w' => e = .returned v2 ∧ B w') : v1 = v2 := by
  obtain ⟨e1, w1, fr1, ⟨rfl, -⟩, c1, f1, l1⟩ := h1 [deadF P]
  obtain ⟨e2, w2, fr2, ⟨rfl, -⟩, c2, f2, l2⟩ := h2 [deadF P]
  obtain ⟨n1, s1⟩ := (show Steps P _ _ from c1)
  obtain ⟨n2, s2⟩ := (show Steps P _ _ from c2)
  have key : ∀ {n m : Nat} {fr fr' : Frame} {w w' : World} {v v' : Value} {M : Machine}, runN P n M = .next (lone fr [deadF P] w) → runN P (n + m) M = .next (lone fr' [deadF P] w') →
      fr.leaving P w (.returned v) → fr'.leaving P w' (.returned v') → fr = fr' ∧ w = w' := by
    intro n m fr fr' w w' v v' M a b la lb
    have hc := runN_next a b
    have hst := step_leave_returned (cs := []) (c := deadF P) la
    rw [dead_finish] at hst
    cases m with
    | zero =>
      simp only [runN] at hc
      have := Stepped.next.inj hc
      simp [lone] at this
      exact ⟨this.2, this.1⟩
    | succ m =>
      simp only [runN, hst] at hc
      cases m with
      | zero =>
        simp only [runN] at hc
        have := Stepped.next.inj hc
        simp [lone] at this
      | succ m =>
        simp only [runN] at hc
        cases hd : step P (lone (deadF P) [] w) with
        | next m' => exact absurd hd (dead_stops m')
        | ended o w'' => rw [hd] at hc; cases hc
  have hh : fr1 = fr2 ∧ w1 = w2 := by
    rcases Nat.le_total n1 n2 with h | h
    · obtain ⟨m, rfl⟩ := Nat.exists_eq_add_of_le h
      exact key s1 s2 l1 l2
    · obtain ⟨m, rfl⟩ := Nat.exists_eq_add_of_le h
      have := key s2 s1 l2 l1
      exact ⟨this.1.symm, this.2.symm⟩
  obtain ⟨rfl, rfl⟩ := hh
  obtain ⟨-, -, -, fn1, hf1, hr1⟩ := l1
  obtain ⟨-, -, -, fn2, hf2, hr2⟩ := l2
  rw [hf1] at hf2
  obtain rfl := Option.some.inj hf2
  rw [hr1] at hr2
  exact (Result.ok.inj hr2).1

/-! ### Boxes -/

/-- What a box holds. -/
structure Hd (w : World) (k : Nat) (c : List Value) : Prop where
  cell : ∀ i (h : i < c.length), w.cell? ⟨k, i, none⟩ = some c[i]
  frz : ∀ j, w.frozen? ⟨k, j, none⟩ = false
  lt : k < w.heap.size
  row : ∃ arr t, w.heap[k]? = some (.cells arr t (0, 0)) ∧ arr.size = c.length
theorem Hd.below {w w' : World} {k : Nat} {c : List Value} (h : Hd w k c) (hb : Below w.heap.size w w') : Hd w' k c :=
  ⟨fun i hi => (hb.cell (p := ⟨k, i, none⟩) h.lt).trans (h.cell i hi), fun j => (hb.frozen (p := ⟨k, j, none⟩) h.lt).trans (h.frz j), Nat.lt_of_lt_of_le h.lt hb.size, by rw [hb.block k h.lt]; exact h.row⟩

theorem row_set {w : World} {k n : Nat} (h : ∃ arr t, w.heap[k]? = some (.cells arr t (0, 0)) ∧ arr.size = n) (i : Nat) (v : Value) : ∃ arr t, (w.setCell ⟨k, i, none⟩ v).heap[k]? = some (.cells arr t (0, 0)) ∧ arr.size = n := by
  obtain ⟨arr, t, h1, h2⟩ := h
  exact ⟨_, t, heap_setCell_same w k i arr t v h1, by simpa using h2⟩
/-- Only the block k has turned. -/
structure Upd (k : Nat) (w w' : World) : Prop where
  os : w'.os = w.os
  tape : w'.tape = w.tape
  output : w'.output = w.output
  size : w'.heap.size = w.heap.size
  block : ∀ j, j ≠ k → w'.heap[j]? = w.heap[j]?
theorem Upd.refl (k : Nat) (w : World) : Upd k w w := ⟨rfl, rfl, rfl, rfl, fun _ _ => rfl⟩
theorem Upd.setCell {k : Nat} {a w : World} (h : Upd k a w) (i : Nat) (v : Value) : Upd k a (w.setCell ⟨k, i, none⟩ v) :=
  ⟨h.os, h.tape, h.output, by rw [← h.size]; simp [World.setCell], fun j hj => (Below.heap_setCell _ _ _ _ hj).trans (h.block j hj)⟩
theorem Upd.below {k B : Nat} {w w' : World} (h : Upd k w w') (hB : B ≤ k) : Below B w w' :=
  ⟨h.os, h.tape, h.output, Nat.le_of_eq h.size.symm, fun j hj => h.block j (by omega)⟩
theorem Upd.hd {k j : Nat} {c : List Value} {w w' : World} (h : Upd k w w') (hj : j ≠ k) (hd : Hd w j c) : Hd w' j c :=
  ⟨fun i hi => (World.cell?_of_block (w := w) (h.block j hj)).trans (hd.cell i hi), fun i => (World.frozen?_of_block (w := w) (h.block j hj)).trans (hd.frz i), by rw [h.size]; exact hd.lt, by rw [h.block j hj]; exact hd.row⟩

/-! ### What an operation does -/

inductive Eff where
  | quiet (v : Value)
  | new (c : List Value)
  | put (d : Nat) (c : List Value)
def Eff.val : Eff → Value
  | .quiet v => v
  | _ => undef
/-- The new boxes: by the slot that holds the box's address, what it holds, and whether it has been stored into. -/
abbrev Gh := Nat → Option (List Value × Bool)
def upd (g : Gh) (d : Nat) (x : List Value × Bool) : Gh := fun t => if t = d then some x else g t
theorem upd_same (g : Gh) (d : Nat) (x : List Value × Bool) : upd g d x d = some x := by simp [upd]
theorem upd_ne (g : Gh) {d t : Nat} (x : List Value × Bool) (h : t ≠ d) : upd g d x t = g t := by simp [upd, h]
theorem upd_comm (g : Gh) {d t : Nat} (x y : List Value × Bool) (h : d ≠ t) : upd (upd g d x) t y = upd (upd g t y) d x := by
  funext s
  by_cases h1 : s = t
  · subst h1; rw [upd_same, upd_ne _ _ (fun e => h e.symm), upd_same]
  · by_cases h2 : s = d
    · subst h2; rw [upd_ne _ _ h1, upd_same, upd_same]
    · rw [upd_ne _ _ h1, upd_ne _ _ h2, upd_ne _ _ h2, upd_ne _ _ h1]
theorem upd_none {g : Gh} {d t : Nat} {x : List Value × Bool} (h : upd g d x t = none) : t ≠ d ∧ g t = none := by
  by_cases h1 : t = d
  · subst h1; rw [upd_same] at h; cases h
  · exact ⟨h1, by rwa [upd_ne _ _ h1] at h⟩
def Eff.gh (o : Oper) (g : Gh) : Eff → Gh
  | .quiet _ => g
  | .new c => match o.dst with | some d => upd g d (c, false) | none => g
  | .put d c => upd g d (c, true)

/-- The slot that an operation's guard looks at. -/
def guardT (ops : Array Oper) (o : Oper) : List Nat := match o.guard with | some (g, _) => ((ops[g]?).bind (·.dst)).toList | none => []
theorem guardT_looks {ops : Array Oper} {o : Oper} {t : Nat} (h : t ∈ guardT ops o) : t ∈ o.looksAt ops := List.mem_append_right _ h
def operT : Operand → List Nat | .tmp t => [t] | _ => []
theorem oper_looks {ops : Array Oper} {o : Oper} {x : Operand} (hx : x ∈ o.op.operands) {t : Nat} (h : t ∈ operT x) : t ∈ o.looksAt ops := by
  cases x <;> simp only [operT, List.mem_singleton, List.not_mem_nil] at h
  subst h
  exact List.mem_append_left _ (List.mem_filterMap.2 ⟨_, by simpa using hx, rfl⟩)

section
variable {P : Program} {ops : Array Oper} {md : Region.Mode} {w0 : World}

/-- What an operation does, in every world that keeps what was there. -/
def Valid (P : Program) (ops : Array Oper) (w0 : World) (o : Oper) (a : Act) (g : Gh) : Eff → Prop
  | .quiet v => (∀ t ∈ o.looksAt ops, g t = none) ∧ (∀ d, o.dst = some d → g d = none) ∧
      ((Region.wanted o (yielded ops a.tmps) = true ∧ ∀ w, Below w0.heap.size w0 w → o.quietAt P a (fun w'' => Below w.heap.size w w'') w v) ∨ (Region.wanted o (yielded ops a.tmps) = false ∧ v = undef))
  | .new c => (∀ t ∈ guardT ops o, g t = none) ∧ Region.wanted o (yielded ops a.tmps) = true ∧ ∃ d e t, o.op = .alloc e ∧ o.dst = some d ∧ d < a.tmps.size ∧ g d = none ∧
      ∀ w, (Instr.alloc e true (.tuple #[])).run P w = .ok (.pointer (some ⟨w.heap.size, 0, none⟩)) (w.alloc (.cells c.toArray t))
  | .put d c => (∀ t ∈ guardT ops o, g t = none) ∧ (∀ d, o.dst = some d → g d = none) ∧ Region.wanted o (yielded ops a.tmps) = true ∧ ∃ t x c0, o.op = .store t (.tmp d) x ∧ (∀ t ∈ operT x, g t = none) ∧ g d = some (c0, false) ∧
      ∀ w k, Hd w k c0 → ∃ w', (Instr.storeAt t (.pointer (some ⟨k, 0, none⟩)) (a.eval x)).run P w = .ok () w' ∧ Hd w' k c ∧ Upd k w w'

theorem size_put (a : Act) (dst : Option Tmp) (v : Value) : (a.put dst v).tmps.size = a.tmps.size := by cases dst <;> simp [Act.put]
theorem quietAt_put {C : World → Prop} {o : Oper} (hs : ∀ cs b, o.op ≠ .select cs b) {a : Act} {dst : Option Tmp} {v u : Value} {w : World} (h : ∀ d, dst = some d → d ∉ o.looksAt ops) :
    o.quietAt P (a.put dst v) C w u ↔ o.quietAt P a C w u := by unfold Oper.quietAt; rw [execOp_put o hs a dst v h]
theorem eval_put' {o : Oper} {x : Operand} (hx : x ∈ o.op.operands) {a : Act} {dst : Option Tmp} {v : Value} (h : ∀ d, dst = some d → d ∉ o.looksAt ops) : (a.put dst v).eval x = a.eval x :=
  Act.eval_put fun d hd e => h d hd (oper_looks hx (by subst e; simp [operT]))

theorem Valid.back {oi oj : Oper} {a : Act} {g : Gh} {yi yj : Eff} (hap : oi.apart ops oj = true) (hsi : ∀ cs b, oi.op ≠ .select cs b) (hsj : ∀ cs b, oj.op ≠ .select cs b)
    (hi : Valid P ops w0 oi a g yi) (hj : Valid P ops w0 oj (a.put oi.dst yi.val) (yi.gh oi g) yj) :
    Valid P ops w0 oj a g yj ∧ Valid P ops w0 oi (a.put oj.dst yj.val) (yj.gh oj g) yi ∧ yi.gh oi (yj.gh oj g) = yj.gh oj (yi.gh oi g) := by
  obtain ⟨h1, h2, h3⟩ := Oper.apart_spec hap
  have gi : ∀ {t}, yi.gh oi g t = none → g t = none := fun {t} h => by
    cases yi with
    | quiet v => exact h
    | new c => cases hd : oi.dst <;> simp only [Eff.gh, hd] at h; exact h; exact (upd_none h).2
    | put d c => exact (upd_none h).2
  have hwj := wanted_put (ops := ops) oj a oi.dst yi.val h1
  have hwi := fun (u : Value) => wanted_put (ops := ops) oi a oj.dst u h3
  -- backward: oj at (a, g)
  have A : Valid P ops w0 oj a g yj := by
    cases yj with
    | quiet v =>
      obtain ⟨q1, q2, q3⟩ := hj
      rw [hwj] at q3
      refine ⟨fun t ht => gi (q1 t ht), fun d hd => gi (q2 d hd), ?_⟩
      rcases q3 with ⟨q3, q4⟩ | q3
      · exact .inl ⟨q3, fun w hw => (quietAt_put hsj h1).1 (q4 w hw)⟩
      · exact .inr q3
    | new c =>
      obtain ⟨q1, q2, d, e, t, q3, q4, q5, q6, q7⟩ := hj
      rw [hwj] at q2
      rw [size_put] at q5
      exact ⟨fun t ht => gi (q1 t ht), q2, d, e, t, q3, q4, q5, gi q6, q7⟩
    | put d c =>
      obtain ⟨q1, q0, q2, t, x, c0, q3, q4, q5, q6⟩ := hj
      rw [hwj] at q2
      have hx : x ∈ oj.op.operands := by rw [q3]; simp [Op.operands]
      have hd : d ∈ oj.looksAt ops := oper_looks (x := .tmp d) (by rw [q3]; simp [Op.operands]) (by simp [operT])
      rw [eval_put' hx h1] at q6
      refine ⟨fun t ht => gi (q1 t ht), fun d hd => gi (q0 d hd), q2, t, x, c0, q3, fun t ht => gi (q4 t ht), ?_, q6⟩
      cases yi with
      | quiet v => exact q5
      | new c' =>
        obtain ⟨-, -, d', e', t', -, r4, -⟩ := hi
        simp only [Eff.gh, r4] at q5
        have hne : d ≠ d' := fun e => h1 d' r4 (by rw [← e]; exact hd)
        rwa [upd_ne _ _ hne] at q5
      | put d' c' =>
        simp only [Eff.gh] at q5
        by_cases e : d = d'
        · subst e; rw [upd_same] at q5; simp at q5
        · rwa [upd_ne _ _ e] at q5
  -- forward
  have gj : ∀ {t}, g t = none → (∀ d, oj.dst = some d → d ≠ t) → yj.gh oj g t = none := fun {t} h hn => by
    cases yj with
    | quiet v => exact h
    | new c =>
      obtain ⟨-, -, d, e, t', -, r4, -⟩ := A
      simp only [Eff.gh, r4]
      rw [upd_ne _ _ (fun e => hn d r4 e.symm)]; exact h
    | put d c =>
      obtain ⟨-, -, -, t', x, c0, -, -, r5, -⟩ := A
      simp only [Eff.gh]
      rw [upd_ne _ _ (fun e => by subst e; rw [h] at r5; cases r5)]; exact h
  have nl : ∀ {t}, t ∈ oi.looksAt ops → ∀ d, oj.dst = some d → d ≠ t := fun {t} ht d hd e => h3 d hd (e ▸ ht)
  have nd : ∀ {t}, oi.dst = some t → ∀ d, oj.dst = some d → d ≠ t := fun {t} ht d hd e => h2 t ht (e ▸ hd)
  have B : Valid P ops w0 oi (a.put oj.dst yj.val) (yj.gh oj g) yi := by
    cases yi with
    | quiet v =>
      obtain ⟨q1, q2, q3⟩ := hi
      refine ⟨fun t ht => gj (q1 t ht) (nl ht), fun d hd => gj (q2 d hd) (nd hd), ?_⟩
      rw [hwi]
      rcases q3 with ⟨q3, q4⟩ | q3
      · exact .inl ⟨q3, fun w hw => (quietAt_put hsi h3).2 (q4 w hw)⟩
      · exact .inr q3
    | new c =>
      obtain ⟨q1, q2, d, e, t, q3, q4, q5, q6, q7⟩ := hi
      exact ⟨fun t ht => gj (q1 t ht) (nl (guardT_looks ht)), by rw [hwi]; exact q2, d, e, t, q3, q4, by rw [size_put]; exact q5, gj q6 (nd q4), q7⟩
    | put d c =>
      obtain ⟨q1, q0, q2, t, x, c0, q3, q4, q5, q6⟩ := hi
      have hx : x ∈ oi.op.operands := by rw [q3]; simp [Op.operands]
      refine ⟨fun t ht => gj (q1 t ht) (nl (guardT_looks ht)), fun d hd => gj (q0 d hd) (nd hd), by rw [hwi]; exact q2, t, x, c0, q3, fun t ht => gj (q4 t ht) (nl (oper_looks hx ht)), ?_, by rw [eval_put' hx h3]; exact q6⟩
      cases yj with
      | quiet v => exact q5
      | new c' =>
        obtain ⟨-, -, d', e', t', -, r4, -, r6, -⟩ := A
        simp only [Eff.gh, r4]
        rw [upd_ne _ _ (fun e => by subst e; rw [r6] at q5; cases q5)]; exact q5
      | put d' c' =>
        obtain ⟨-, -, -, t', x', c0', -, -, r5, -⟩ := hj
        simp only [Eff.gh] at r5 ⊢
        have hne : d ≠ d' := fun e => by subst e; rw [upd_same] at r5; simp at r5
        rw [upd_ne _ _ hne]; exact q5
  refine ⟨A, B, ?_⟩
  cases yi with
  | quiet v => rfl
  | new c =>
    obtain ⟨-, -, d, e, t, q3, q4, q5, q6, q7⟩ := hi
    cases yj with
    | quiet v => rfl
    | new c' =>
      obtain ⟨-, -, d', e', t', -, r4, -, r6, -⟩ := hj
      simp only [Eff.gh, q4, r4] at r6 ⊢
      exact upd_comm _ _ _ (fun e => (upd_none r6).1 e.symm |>.elim) |> fun h => by first | exact h | exact h.symm
    | put d' c' =>
      obtain ⟨-, -, -, t', x', c0', r3, -⟩ := hj
      have hd : d' ∈ oj.looksAt ops := oper_looks (x := .tmp d') (by rw [r3]; simp [Op.operands]) (by simp [operT])
      simp only [Eff.gh, q4]
      exact upd_comm _ _ _ (fun e => h1 d q4 (by rw [← e]; exact hd))
  | put d c =>
    obtain ⟨-, -, -, t, x, c0, -, -, q5, -⟩ := hi
    cases yj with
    | quiet v => rfl
    | new c' =>
      obtain ⟨-, -, d', e', t', -, r4, -, r6, -⟩ := hj
      simp only [Eff.gh, r4] at r6 ⊢
      exact upd_comm _ _ _ (fun e => (upd_none r6).1 e.symm |>.elim) |> fun h => by first | exact h | exact h.symm
    | put d' c' =>
      obtain ⟨-, -, -, t', x', c0', -, -, r5, -⟩ := hj
      simp only [Eff.gh] at r5 ⊢
      have hne : d' ≠ d := fun e => by subst e; rw [upd_same] at r5; simp at r5
      exact upd_comm _ _ _ hne

/-! ### Every order -/

def gOp (P : Program) (ops : Array Oper) (w0 : World) (i : Nat) (K : Act → Gh → Prop) (a : Act) (g : Gh) : Prop :=
  match ops[i]? with
  | none => K a g
  | some o => ∃ y, Valid P ops w0 o a g y ∧ K (a.put o.dst y.val) (y.gh o g)
theorem gOp_mono {i : Nat} {a : Act} {g : Gh} {K K' : Act → Gh → Prop} (h : ∀ a g, K a g → K' a g) (hh : gOp P ops w0 i K a g) : gOp P ops w0 i K' a g := by
  unfold gOp at *
  split
  · exact h _ _ (by simpa [*] using hh)
  · rename_i o ho
    simp only [ho] at hh
    obtain ⟨y, h1, h2⟩ := hh
    exact ⟨y, h1, h _ _ h2⟩
theorem gOp_of {i : Nat} {o : Oper} {y : Eff} {a : Act} {g : Gh} (hi : ops[i]? = some o) (hy : Valid P ops w0 o a g y) {K : Act → Gh → Prop} (h : K (a.put o.dst y.val) (y.gh o g)) : gOp P ops w0 i K a g := by
  unfold gOp; simp only [hi]; exact ⟨y, hy, h⟩

def wpAnyG (P : Program) (md : Region.Mode) (ops : Array Oper) (w0 : World) (Q : Act → Gh → Prop) : Nat → Array Bool → Act → Gh → Prop
  | 0, listed, a, g => Region.ready md ops listed = [] ∧ Q a g
  | fuel + 1, listed, a, g => (Region.ready md ops listed = [] → Q a g) ∧ ∀ i ∈ Region.ready md ops listed, gOp P ops w0 i (wpAnyG P md ops w0 Q fuel (listed.setIfInBounds i true)) a g

theorem gOp_put {j : Nat} {oi oj : Oper} {y : Eff} (hj : ops[j]? = some oj) (hap : oi.apart ops oj = true) (hsi : ∀ cs b, oi.op ≠ .select cs b) (hsj : ∀ cs b, oj.op ≠ .select cs b) {K : Act → Gh → Prop} {a : Act} {g : Gh}
    (hy : Valid P ops w0 oi a g y) (h : gOp P ops w0 j K (a.put oi.dst y.val) (y.gh oi g)) :
    gOp P ops w0 j (fun a' g' => Valid P ops w0 oi a' g' y ∧ K (a'.put oi.dst y.val) (y.gh oi g')) a g := by
  obtain ⟨h1, h2, h3⟩ := Oper.apart_spec hap
  unfold gOp at *
  simp only [hj] at *
  obtain ⟨z, hz, hK⟩ := h
  obtain ⟨A, B, C⟩ := Valid.back hap hsi hsj hy hz
  refine ⟨z, A, B, ?_⟩
  rw [C, ← Act.put_comm a y.val z.val h2]
  exact hK

theorem wpAnyG_first {Q : Act → Gh → Prop} {i : Nat} {oi : Oper} {y : Eff} (hi : ops[i]? = some oi) (hsel : ∀ (j : Nat) (o : Oper) cs b, ops[j]? = some o → o.op ≠ .select cs b) :
    ∀ (fuel : Nat) (listed : Array Bool) (a : Act) (g : Gh),
      (∀ j oj, ops[j]? = some oj → j ≠ i → listed.getD j true = false → (∀ e ∈ oj.after, Region.binds md e = true → e.on ≠ i) → oi.apart ops oj = true) →
      i ∈ Region.ready md ops listed → Valid P ops w0 oi a g y →
      wpAnyG P md ops w0 Q fuel (listed.setIfInBounds i true) (a.put oi.dst y.val) (y.gh oi g) → wpAnyG P md ops w0 Q (fuel + 1) listed a g := by
  intro fuel
  induction fuel with
  | zero =>
    intro listed a g _ hr hy H
    refine ⟨fun h => (by rw [h] at hr; cases hr), fun j hj => ?_⟩
    by_cases hji : j = i
    · subst hji; exact gOp_of hi hy H
    · have := ready_mono hj hji
      rw [H.1] at this
      cases this
  | succ fuel ih =>
    intro listed a g hfree hr hy H
    refine ⟨fun h => (by rw [h] at hr; cases hr), fun j hj => ?_⟩
    by_cases hji : j = i
    · subst hji; exact gOp_of hi hy H
    · have h1 := H.2 j (ready_mono hj hji)
      obtain ⟨hjun, oj, hoj, hall⟩ := mem_ready.1 hj
      have hnot : ∀ e ∈ oj.after, Region.binds md e = true → e.on ≠ i := fun e he hb heq => by
        have h1 := hall e he hb
        have h0 := (mem_ready.1 hr).1
        rw [heq] at h1
        rcases Nat.lt_or_ge i listed.size with h' | h'
        · simp [h'] at h0 h1; rw [h0] at h1; cases h1
        · simp [Array.getElem?_eq_none h'] at h1
      have h2 := gOp_put hoj (hfree j oj hoj hji hjun hnot) (fun cs b => hsel i oi cs b hi) (fun cs b => hsel j oj cs b hoj) hy h1
      have hfree' : ∀ k ok, ops[k]? = some ok → k ≠ i → (listed.setIfInBounds j true).getD k true = false →
          (∀ e ∈ ok.after, Region.binds md e = true → e.on ≠ i) → oi.apart ops ok = true := fun k ok hk hki hun hno => by
        refine hfree k ok hk hki ?_ hno
        by_cases hjk : j = k
        · subst hjk; exact hjun
        · rw [getD_set_ne true hjk] at hun; exact hun
      refine gOp_mono (fun a' g' h3 => ih (listed.setIfInBounds j true) a' g' hfree' (ready_mono hr (Ne.symm hji)) h3.1 ?_) h2
      rw [Array.setIfInBounds_comm _ _ hji]
      exact h3.2

/-- The walk in the order of the text. -/
def wpLexG (P : Program) (ops : Array Oper) (w0 : World) (Q : Act → Gh → Prop) : List Oper → Act → Gh → Prop
  | [], a, g => Q a g
  | o :: rest, a, g => ∃ y, Valid P ops w0 o a g y ∧ wpLexG P ops w0 Q rest (a.put o.dst y.val) (y.gh o g)

theorem wpAnyG_lex {Q : Act → Gh → Prop} (hs : Region.noSelect ops = true) : ∀ (l : List Oper) (k : Nat) (listed : Array Bool) (a : Act) (g : Gh), (∀ j, l[j]? = ops[k + j]?) →
    Region.lexFrom md ops l.length k listed = true → wpLexG P ops w0 Q l a g → wpAnyG P md ops w0 Q l.length listed a g
  | [], _, _, _, _, _, hB, h => ⟨by simpa [Region.lexFrom] using hB, h⟩
  | o :: l, k, listed, a, g, hl, hB, h => by
    have h0 : ops[k]? = some o := by simpa using (hl 0).symm
    simp only [List.length_cons, Region.lexFrom, Bool.and_eq_true] at hB
    obtain ⟨⟨hr, hf⟩, hB'⟩ := hB
    obtain ⟨y, hy, hK⟩ := h
    exact wpAnyG_first h0 (Region.noSelect_spec hs) l.length listed a g (Region.free_spec h0 hf) (by simpa using hr) hy
      (wpAnyG_lex hs l (k + 1) _ _ _ (fun j => by have := hl (j + 1); simpa [Nat.add_assoc, Nat.add_comm 1 j] using this) hB' hK)

/-! ### The real frame and the real world -/

/-- The frame with the boxes' addresses in their slots. -/
def over (κ : Nat → Nat) (g : Gh) (a : Act) : Act := { a with tmps := a.tmps.mapIdx fun t v => if (g t).isSome then .pointer (some ⟨κ t, 0, none⟩) else v }
theorem over_get (κ : Nat → Nat) (g : Gh) (a : Act) (t : Nat) (h : g t = none) : (over κ g a).tmps[t]? = a.tmps[t]? := by
  simp [over, h]
theorem over_eval {κ : Nat → Nat} {g : Gh} {a : Act} {x : Operand} (h : ∀ t ∈ operT x, g t = none) : (over κ g a).eval x = a.eval x := by
  cases x with
  | tmp t =>
    have := over_get κ g a t (h t (by simp [operT]))
    simp only [Act.eval, Array.getD_eq_getD_getElem?, this]
  | _ => rfl
theorem over_at {κ : Nat → Nat} {g : Gh} {a : Act} {d : Nat} {x : List Value × Bool} (h : g d = some x) (hd : d < a.tmps.size) : (over κ g a).eval (.tmp d) = .pointer (some ⟨κ d, 0, none⟩) := by
  simp [Act.eval, over, Array.getD_eq_getD_getElem?, h, hd]
theorem over_put {κ : Nat → Nat} {g : Gh} {a : Act} {dst : Option Tmp} {v : Value} (h : ∀ d, dst = some d → g d = none) : (over κ g a).put dst v = over κ g (a.put dst v) := by
  cases dst with
  | none => rfl
  | some d =>
    have hd := h d rfl
    simp only [over, Act.put]
    congr 1
    apply Array.ext_getElem?
    intro i
    by_cases hi : d = i
    · subst hi
      by_cases hs : d < a.tmps.size
      · simp [hs, hd]
      · simp [hs]
    · simp [Array.getElem?_setIfInBounds_ne hi]
theorem over_congr {κ κ' : Nat → Nat} {g g' : Gh} (a : Act) (h : ∀ t, (g t).isSome = (g' t).isSome ∧ ((g t).isSome = true → κ t = κ' t)) : over κ g a = over κ' g' a := by
  simp only [over]
  congr 1
  apply Array.ext_getElem?
  intro i
  simp only [Array.getElem?_mapIdx]
  cases a.tmps[i]? with
  | none => rfl
  | some v =>
    simp only [Option.map_some]
    obtain ⟨h1, h2⟩ := h i
    cases hg : (g i).isSome
    · rw [hg] at h1; simp [← h1]
    · rw [hg] at h1; simp [← h1, h2 hg]
theorem over_new {κ : Nat → Nat} {g : Gh} {a : Act} {d : Nat} (x : List Value × Bool) (h : g d = none) (k : Nat) (hd : d < a.tmps.size) :
    (over κ g a).put (some d) (.pointer (some ⟨k, 0, none⟩)) = over (fun t => if t = d then k else κ t) (upd g d x) (a.put (some d) undef) := by
  simp only [over, Act.put]
  congr 1
  apply Array.ext_getElem?
  intro i
  by_cases hi : d = i
  · subst hi
    simp [hd, upd_same]
  · have hi' : ¬ i = d := fun e => hi e.symm
    simp [Array.getElem?_setIfInBounds_ne hi, upd_ne g x hi', hi']
theorem wanted_over {κ : Nat → Nat} {g : Gh} {a : Act} {o : Oper} (h : ∀ t ∈ guardT ops o, g t = none) : Region.wanted o (yielded ops (over κ g a).tmps) = Region.wanted o (yielded ops a.tmps) := by
  unfold Region.wanted
  cases hg : o.guard with
  | none => rfl
  | some gw =>
    obtain ⟨gg, want⟩ := gw
    have hy : yielded ops (over κ g a).tmps gg = yielded ops a.tmps gg := by
      unfold yielded
      cases ht : (ops[gg]?).bind (·.dst) with
      | none => rfl
      | some t =>
        have := over_get κ g a t (h t (by simp [guardT, hg, ht]))
        simp [this]
    simp only [hy]
theorem exec_over {κ : Nat → Nat} {g : Gh} {a : Act} {o : Oper} (hs : ∀ cs b, o.op ≠ .select cs b) (h : ∀ t ∈ o.looksAt ops, g t = none) : execOp (over κ g a).eval o = execOp a.eval o :=
  execOp_congr o hs fun x hx => over_eval fun t ht => h t (oper_looks hx ht)

/-- What is known of a world, and where the boxes are. -/
structure Sim (w0 : World) (g : Gh) (κ : Nat → Nat) (w : World) : Prop where
  base : Below w0.heap.size w0 w
  hd : ∀ d c b, g d = some (c, b) → w0.heap.size ≤ κ d ∧ Hd w (κ d) c
  inj : ∀ d d', (g d).isSome → (g d').isSome → d ≠ d' → κ d ≠ κ d'

theorem Sim.below {g : Gh} {κ : Nat → Nat} {w w' : World} (h : Sim w0 g κ w) (hb : Below w.heap.size w w') : Sim w0 g κ w' :=
  ⟨h.base.trans (hb.mono h.base.size), fun d c b hd => ⟨(h.hd d c b hd).1, (h.hd d c b hd).2.below hb⟩, h.inj⟩

theorem Sim.new {g : Gh} {κ : Nat → Nat} {w : World} (h : Sim w0 g κ w) {d : Nat} (hd : g d = none) (c : List Value) (t : TypeId) :
    Sim w0 (upd g d (c, false)) (fun s => if s = d then w.heap.size else κ s) (w.alloc (.cells c.toArray t)) := by
  have hb : Below w.heap.size w (w.alloc (.cells c.toArray t)) := (Below.refl _ _).alloc (Nat.le_refl _) _
  have hsz : (w.alloc (.cells c.toArray t)).heap.size = w.heap.size + 1 := World.size_alloc _ _
  refine ⟨h.base.trans (hb.mono h.base.size), fun s c' b hs => ?_, fun s s' h1 h2 hne => ?_⟩
  · by_cases e : s = d
    · subst e
      rw [upd_same] at hs
      simp only [Option.some.injEq, Prod.mk.injEq] at hs
      obtain ⟨rfl, rfl⟩ := hs
      simp only [if_true]
      have hrow := heap_alloc_new w (.cells c.toArray t)
      exact ⟨h.base.size, fun i hi => by rw [cell_of_row _ _ i _ _ _ hrow]; simp [hi], fun j => frozen_of_row _ _ j _ _ hrow, by rw [hsz]; omega, _, _, hrow, by simp⟩
    · rw [upd_ne _ _ e] at hs
      simp only [e, if_false]
      exact ⟨(h.hd s c' b hs).1, (h.hd s c' b hs).2.below hb⟩
  · have lt : ∀ {s}, s ≠ d → (upd g d (c, false) s).isSome → κ s < w.heap.size := fun {s} e hs => by
      rw [upd_ne _ _ e] at hs
      obtain ⟨⟨c', b⟩, hx⟩ := Option.isSome_iff_exists.1 hs
      exact (h.hd s c' b hx).2.lt
    by_cases e : s = d
    · have e' : s' ≠ d := fun e' => hne (e.trans e'.symm)
      have := lt e' h2
      simp only [e, e', if_true, if_false]; omega
    · by_cases e' : s' = d
      · have := lt e h1
        simp only [e, e', if_true, if_false]; omega
      · simp only [e, e', if_false]
        rw [upd_ne _ _ e] at h1; rw [upd_ne _ _ e'] at h2
        exact h.inj s s' h1 h2 hne

theorem Sim.put {g : Gh} {κ : Nat → Nat} {w w' : World} (h : Sim w0 g κ w) {d : Nat} {c0 c : List Value} {b : Bool} (hd : g d = some (c0, b)) (hh : Hd w' (κ d) c) (hu : Upd (κ d) w w') : Sim w0 (upd g d (c, true)) κ w' := by
  have hk := (h.hd d c0 b hd).1
  refine ⟨h.base.trans (hu.below hk), fun s c' b' hs => ?_, fun s s' h1 h2 hne => ?_⟩
  · by_cases e : s = d
    · subst e
      rw [upd_same] at hs
      simp only [Option.some.injEq, Prod.mk.injEq] at hs
      obtain ⟨rfl, rfl⟩ := hs
      exact ⟨hk, hh⟩
    · rw [upd_ne _ _ e] at hs
      exact ⟨(h.hd s c' b' hs).1, hu.hd (h.inj s d (by rw [hs]; rfl) (by rw [hd]; rfl) e) (h.hd s c' b' hs).2⟩
  · have up : ∀ {s}, (upd g d (c, true) s).isSome → (g s).isSome := fun {s} hs => by
      by_cases e : s = d
      · subst e; rw [hd]; rfl
      · rwa [upd_ne _ _ e] at hs
    exact h.inj s s' (up h1) (up h2) hne

theorem wp_of_valid {o : Oper} (hs : ∀ cs b, o.op ≠ .select cs b) {a : Act} {g : Gh} {κ : Nat → Nat} {y : Eff} {w : World} {K : Act → Gh → Prop} {K' : Act → World → Prop} {Q' : Exit → Act → World → Prop}
    (hy : Valid P ops w0 o a g y) (hw : Sim w0 g κ w) (hsz : ∀ d, (g d).isSome → d < a.tmps.size) (hk : K (a.put o.dst y.val) (y.gh o g))
    (h : ∀ a' g' κ' w', Sim w0 g' κ' w' → (∀ d, (g' d).isSome → d < a'.tmps.size) → K a' g' → K' (over κ' g' a') w') :
    (if Region.wanted o (yielded ops (over κ g a).tmps) then o.wp P (over κ g a) w K' Q' ∨ (o.asks P (over κ g a) w ∧ LetsOut Q') else K' ((over κ g a).put o.dst undef) w) := by
  cases y with
  | quiet v =>
    obtain ⟨q1, q2, q3⟩ := hy
    rw [wanted_over fun t ht => q1 t (guardT_looks ht)]
    have fin : ∀ w', Sim w0 g κ w' → K' ((over κ g a).put o.dst v) w' := fun w' hw' => by
      rw [over_put q2]; exact h _ _ _ _ hw' (by rw [size_put]; exact hsz) hk
    rcases q3 with ⟨q3, q4⟩ | ⟨q3, rfl⟩
    · simp only [q3, if_true]
      refine .inl ?_
      have q5 := q4 w hw.base
      unfold Oper.quietAt at q5
      unfold Oper.wp
      rw [exec_over hs q1]
      generalize (execOp a.eval o).run P w = r at *
      cases r with
      | ok n w' =>
        cases n <;> simp only [Oper.quietUpon] at q5 <;> simp only [Oper.upon]
        case value u =>
          obtain ⟨rfl, rfl⟩ := q5
          exact fin _ hw
        case skip =>
          obtain ⟨rfl, e2⟩ := q5
          rw [← e2]
          exact fin _ hw
        case enter f args =>
          obtain ⟨rfl, hc⟩ := q5
          exact hc.mono fun e w'' ⟨he, hw''⟩ => by subst he; exact fin _ (hw.below hw'')
      | halt x w' => simp only [Oper.quietUpon] at q5
    · simp only [q3, Bool.false_eq_true, if_false]
      exact fin _ hw
  | new c =>
    obtain ⟨q1, q2, d, e, t, q3, q4, q5, q6, q7⟩ := hy
    rw [wanted_over q1]
    simp only [q2, if_true]
    refine .inl ?_
    unfold Oper.wp
    have hr : (execOp (over κ g a).eval o).run P w = .ok (.value (.pointer (some ⟨w.heap.size, 0, none⟩))) (w.alloc (.cells c.toArray t)) := by
      simp only [execOp, q3]
      rw [Sem.run_bind, q7 w]
      rfl
    rw [hr]
    simp only [Oper.upon, q4]
    rw [over_new (c, false) q6 _ q5]
    simp only [Eff.val, Eff.gh, q4] at hk
    refine h _ _ _ _ (hw.new q6 c t) (fun s hs => ?_) hk
    rw [size_put]
    by_cases e : s = d
    · subst e; exact q5
    · rw [upd_ne _ _ e] at hs; exact hsz s hs
  | put d c =>
    obtain ⟨q1, q0, q2, t, x, c0, q3, q4, q5, q6⟩ := hy
    rw [wanted_over q1]
    simp only [q2, if_true]
    refine .inl ?_
    unfold Oper.wp
    have hd := hw.hd d c0 false q5
    obtain ⟨w', r1, r2, r3⟩ := q6 w (κ d) hd.2
    have hr : (execOp (over κ g a).eval o).run P w = .ok .skip w' := by
      simp only [execOp, q3]
      rw [over_at q5 (hsz d (by rw [q5]; rfl)), over_eval q4, Sem.run_bind, r1]
      rfl
    rw [hr]
    simp only [Oper.upon]
    rw [over_put q0]
    simp only [Eff.val, Eff.gh] at hk
    have hc : over κ g (a.put o.dst undef) = over κ (upd g d (c, true)) (a.put o.dst undef) := over_congr _ fun s => by
      by_cases e : s = d
      · subst e; rw [upd_same, q5]; simp
      · rw [upd_ne _ _ e]; simp
    rw [hc]
    refine h _ _ _ _ (hw.put q5 r2 r3) (fun s hs => ?_) hk
    rw [size_put]
    by_cases e : s = d
    · subst e; exact hsz s (by rw [q5]; rfl)
    · rw [upd_ne _ _ e] at hs; exact hsz s hs

theorem wpAny_of_gh (hsel : ∀ (j : Nat) (o : Oper) cs b, ops[j]? = some o → o.op ≠ .select cs b) {Q : Act → Gh → Prop} {Q' : Exit → Act → World → Prop} (hQ : ∀ a g κ w, Sim w0 g κ w → Q a g → Q' .normal (over κ g a) w) :
    ∀ (fuel : Nat) (listed : Array Bool) (a : Act) (g : Gh) (κ : Nat → Nat) (w : World), Sim w0 g κ w → (∀ d, (g d).isSome → d < a.tmps.size) → wpAnyG P md ops w0 Q fuel listed a g → wpAny P md ops Q' fuel listed (over κ g a) w
  | 0, _, _, _, _, _, hw, _, h => ⟨h.1, hQ _ _ _ _ hw h.2⟩
  | fuel + 1, listed, a, g, κ, w, hw, hz, h => ⟨fun h0 => hQ _ _ _ _ hw (h.1 h0), fun i hi => by
      have hg := h.2 i hi
      unfold gOp at hg
      unfold wpOp
      cases ho : ops[i]? with
      | none => simp only [ho] at hg; exact wpAny_of_gh hsel hQ fuel _ _ _ _ _ hw hz hg
      | some o =>
        simp only [ho] at hg
        obtain ⟨y, hy, hk⟩ := hg
        exact wp_of_valid (hsel i o · · ho) hy hw hz hk (fun a' g' κ' w' hw' hz' hk' => wpAny_of_gh hsel hQ fuel _ _ _ _ _ hw' hz' hk')⟩

theorem over_none (κ : Nat → Nat) (a : Act) : over κ (fun _ => none) a = a := by
  unfold over
  cases a with
  | mk t d =>
    simp only [Act.mk.injEq, and_true]
    apply Array.ext_getElem?
    intro i
    simp

/-- **One walk in the order of the text serves every order.** -/
theorem region_gh {id : Nat} {Q : Exit → Act → World → Prop} {a : Act} {w : World} {l : List Oper} (hm : P.follows .mixedOrders = true) (hB : Region.lexB .any l.toArray = true)
    (h : wpLexG P l.toArray w.drew (fun a' g' => ∀ κ w', Sim w.drew g' κ w' → Q .normal (over κ g' a') w') l a (fun _ => none)) : (Code.region id l.toArray true).wp P Q a w := by
  simp only [Region.lexB, Bool.and_eq_true] at hB
  have hsel := Region.noSelect_spec hB.1
  refine wp_region_any hm ?_
  have h1 := wpAnyG_lex (md := .any) (P := P) (w0 := w.drew) hB.1 l 0 (Array.replicate l.length false) a (fun _ => none) (by simp) (by simpa using hB.2) h
  have h2 := wpAny_of_gh (Q' := Q) hsel (fun a' g' κ w' hw' hq => hq κ w' hw') _ _ _ _ (fun _ => 0) w.drew ⟨Below.refl _ _, (fun _ _ _ h => by cases h), (fun _ _ h => by cases h)⟩ (fun _ h => by cases h) h1
  rw [over_none] at h2
  simpa using h2

/-! ### The steps -/

/-- The new boxes, as a list. -/
def toG : List (Nat × List Value × Bool) → Gh
  | [] => fun _ => none
  | (d, x) :: l => upd (toG l) d x
theorem toG_none {l : List (Nat × List Value × Bool)} {t : Nat} (h : ∀ p ∈ l, p.1 ≠ t) : toG l t = none := by
  induction l with
  | nil => rfl
  | cons p l ih =>
    obtain ⟨d, x⟩ := p
    rw [toG, upd_ne _ _ (fun e => h _ List.mem_cons_self e.symm)]
    exact ih fun q hq => h q (List.mem_cons_of_mem _ hq)
/-- Slots apart from the boxes' own. -/
def clearT (l : List (Nat × List Value × Bool)) (ts : List Nat) : Bool := ts.all fun t => (l.map (·.1)).all fun d => !(d == t)
theorem clearT_spec {l : List (Nat × List Value × Bool)} {ts : List Nat} (h : clearT l ts = true) : ∀ t ∈ ts, toG l t = none := fun t ht => by
  unfold clearT at h
  rw [List.all_eq_true] at h
  have := h t ht
  rw [List.all_eq_true] at this
  exact toG_none fun p hp e => by
    have := this p.1 (List.mem_map.2 ⟨p, hp, rfl⟩)
    simp [e] at this
def seesT (ops : Array Oper) (o : Oper) : List Nat := o.looksAt ops ++ o.dst.toList

variable {Q : Act → Gh → Prop}
theorem lexG_nil {a : Act} {g : Gh} (h : Q a g) : wpLexG P ops w0 Q [] a g := h

theorem quiet_uniq {o : Oper} {a : Act} {z : World} {u v : Value} {C D : World → Prop} (h1 : o.quietAt P a C z u) (h2 : o.quietAt P a D z v) : u = v := by
  unfold Oper.quietAt at h1 h2
  generalize (execOp a.eval o).run P z = r at *
  cases r with
  | ok n w' =>
    cases n <;> simp only [Oper.quietUpon] at h1 h2
    case value x => rw [← h1.2, ← h2.2]
    case skip => rw [h1.2, h2.2]
    case enter f args => exact Calls.uniq h1.2 h2.2
  | halt x w' => simp only [Oper.quietUpon] at h1

theorem lex_quiet {g : Gh} {l2 : List Oper} : ∀ {l1 : List Oper} {a : Act}, (∀ o ∈ l1, ∀ t ∈ seesT ops o, g t = none) →
    (∀ z, Below w0.heap.size w0 z → wpQuiet P ops (fun w'' => Below z.heap.size z w'') (fun a' => wpLexG P ops w0 Q l2 a' g) l1 a) → wpLexG P ops w0 Q (l1 ++ l2) a g
  | [], a, _, h => h w0 (Below.refl _ _)
  | o :: l1, a, hb, h => by
    have hb0 := hb o List.mem_cons_self
    have v1 : ∀ t ∈ o.looksAt ops, g t = none := fun t ht => hb0 t (List.mem_append_left _ ht)
    have v2 : ∀ d, o.dst = some d → g d = none := fun d hd => hb0 d (List.mem_append_right _ (by rw [hd]; simp))
    have rest := fun {a'} => lex_quiet (l2 := l2) (l1 := l1) (a := a') fun o' ho' => hb o' (List.mem_cons_of_mem _ ho')
    rw [List.cons_append]
    by_cases hw : Region.wanted o (yielded ops a.tmps) = true
    · simp only [wpQuiet, hw, if_true, Oper.quiet] at h
      obtain ⟨v, hv, -⟩ := h w0 (Below.refl _ _)
      have hall : ∀ z, Below w0.heap.size w0 z → (∀ w, Below z.heap.size z w → o.quietAt P a (fun w'' => Below z.heap.size z w'') w v) ∧ wpQuiet P ops (fun w'' => Below z.heap.size z w'') (fun a' => wpLexG P ops w0 Q l2 a' g) l1 (a.put o.dst v) := fun z hz => by
        obtain ⟨u, hu, hn⟩ := h z hz
        obtain rfl : u = v := quiet_uniq (hu z (Below.refl _ _)) (hv z hz)
        exact ⟨hu, hn⟩
      exact ⟨.quiet v, ⟨v1, v2, .inl ⟨hw, fun w hww => (hall w hww).1 w (Below.refl _ _)⟩⟩, rest fun z hz => (hall z hz).2⟩
    · simp only [wpQuiet, hw] at h
      exact ⟨.quiet undef, ⟨v1, v2, .inr ⟨by simpa using hw, rfl⟩⟩, rest h⟩

/-- A stretch of the text that only reads and calls. -/
theorem lex_seg (n : Nat) {gl : List (Nat × List Value × Bool)} {l : List Oper} {a : Act} (hb : (l.take n).all (fun o => clearT gl (seesT ops o)) = true)
    (h : ∀ (α : Type) (_ : Nonempty α) (F : α → World), (∀ x, Below w0.heap.size w0 (F x)) → (∀ x W, Below (F x).heap.size (F x) W → ∃ y, W = F y) →
      wpQuiet P ops (fun w'' => ∃ x, w'' = F x) (fun a' => wpLexG P ops w0 Q (l.drop n) a' (toG gl)) (l.take n) a) : wpLexG P ops w0 Q l a (toG gl) := by
  have key : wpLexG P ops w0 Q (l.take n ++ l.drop n) a (toG gl) := by
    refine lex_quiet (fun o ho => ?_) fun z hz => ?_
    · rw [List.all_eq_true] at hb
      exact clearT_spec (hb o ho)
    · have := h {W : World // Below z.heap.size z W} ⟨⟨z, Below.refl _ _⟩⟩ (fun x => x.1) (fun x => hz.trans (x.2.mono hz.size)) (fun x W hW => ⟨⟨W, x.2.trans (hW.mono x.2.size)⟩, rfl⟩)
      have e : (fun w'' => ∃ x : {W : World // Below z.heap.size z W}, w'' = x.1) = fun w'' => Below z.heap.size z w'' := by
        funext w''
        exact propext ⟨fun ⟨x, hx⟩ => hx ▸ x.2, fun hx => ⟨⟨w'', hx⟩, rfl⟩⟩
      rwa [e] at this
  rwa [List.take_append_drop] at key

theorem seg_call {α : Type} {F : α → World} (h2 : ∀ x W, Below (F x).heap.size (F x) W → ∃ y, W = F y) {f : FuncId} {args : Array Value} {v : Value}
    (h : ∀ w, Calls P f args w fun e w' => e = .returned v ∧ Below w.heap.size w w') (x : α) : Calls P f args (F x) fun e w'' => e = .returned v ∧ ∃ y, w'' = F y :=
  (h (F x)).mono fun _ _ ⟨he, hb⟩ => ⟨he, h2 x _ hb⟩

/-- A new box. -/
theorem lex_new {gl : List (Nat × List Value × Bool)} {o : Oper} {rest : List Oper} {a : Act} (c : List Value) (d : Nat) (e t : TypeId) (ho : o.op = .alloc e) (hd : o.dst = some d) (hz : d < a.tmps.size)
    (hc : clearT gl (d :: guardT ops o) = true) (hw : Region.wanted o (yielded ops a.tmps) = true)
    (hr : ∀ w, (Instr.alloc e true (.tuple #[])).run P w = .ok (.pointer (some ⟨w.heap.size, 0, none⟩)) (w.alloc (.cells c.toArray t)))
    (h : wpLexG P ops w0 Q rest (a.put (some d) undef) (toG ((d, c, false) :: gl))) : wpLexG P ops w0 Q (o :: rest) a (toG gl) := by
  have hcs := clearT_spec hc
  refine ⟨.new c, ⟨fun t ht => hcs t (List.mem_cons_of_mem _ ht), hw, d, e, t, ho, hd, hz, hcs d List.mem_cons_self, hr⟩, ?_⟩
  simpa only [Eff.val, Eff.gh, hd, toG] using h

/-- A store into a new box. -/
theorem lex_put {gl : List (Nat × List Value × Bool)} {o : Oper} {rest : List Oper} {a : Act} (c c0 : List Value) (d : Nat) (t : TypeId) (x : Operand) (ho : o.op = .store t (.tmp d) x)
    (hc : clearT gl (operT x ++ guardT ops o ++ o.dst.toList) = true) (hg : toG gl d = some (c0, false)) (hw : Region.wanted o (yielded ops a.tmps) = true)
    (hr : ∀ w k, Hd w k c0 → ∃ w', (Instr.storeAt t (.pointer (some ⟨k, 0, none⟩)) (a.eval x)).run P w = .ok () w' ∧ Hd w' k c ∧ Upd k w w')
    (h : wpLexG P ops w0 Q rest (a.put o.dst undef) (toG ((d, c, true) :: gl))) : wpLexG P ops w0 Q (o :: rest) a (toG gl) := by
  have hcs := clearT_spec hc
  refine ⟨.put d c, ⟨fun t ht => hcs t (by simp [ht]), fun d' hd' => hcs d' (by simp [hd']), hw, t, x, c0, ho, fun t ht => hcs t (by simp [ht]), hg, hr⟩, ?_⟩
  simpa only [Eff.val, Eff.gh, toG] using h

theorem over_toG (κ : Nat → Nat) (d : Nat) (x : List Value × Bool) (l : List (Nat × List Value × Bool)) (a : Act) :
    over κ (toG ((d, x) :: l)) a = (over κ (toG l) a).put (some d) (.pointer (some ⟨κ d, 0, none⟩)) := by
  simp only [over, Act.put, toG]
  congr 1
  apply Array.ext_getElem?
  intro i
  by_cases hi : d = i
  · subst hi
    by_cases hs : d < a.tmps.size
    · simp [hs, upd_same]
    · simp [hs]
  · have hi' : ¬ i = d := fun e => hi e.symm
    simp [Array.getElem?_setIfInBounds_ne hi, upd_ne (toG l) x hi']
theorem over_nil (κ : Nat → Nat) (a : Act) : over κ (toG []) a = a := over_none κ a
end
end Go.Proofs.YtecdnohhengfaaaGreatDoor

/-
  Layer 1, law: a law's numbers in new boxes, whatever the order.
-/
namespace Go.Proofs.YtecdnohhengfaaaGreatDoor
open Go.RowKit
attribute [local irreducible] lo hs sm s64 c64 d64 b64 mh ml pd pc qd qc val hiB str cmpI srD lz nb isq decB

/-- The cells of a number. -/
abbrev nc (n : Nat) : List Value := [.int .u64 ((lo n : Nat) : Int), .string (hs n)]
theorem Hd.nx {w : World} {k n : Nat} (h : Hd w k (nc n)) : NX w k n :=
  ⟨⟨h.cell 0 (by simp), h.cell 1 (by simp), fun j => h.frz j⟩, h.lt⟩
theorem below_drew {x W : World} (hb : Below x.drew.heap.size x.drew W) : Below x.heap.size x W := ((Below.refl x.heap.size x).drew).trans hb
theorem NL.plus {w W : World} {L : List (Nat × Nat)} {k n : Nat} (h : NL w W L) (hw : w.heap.size ≤ k) (hk : ∀ p ∈ L, p.1 ≠ k) (hx : NX W k n) : NL w W ((k, n) :: L) := by
  refine ⟨h.bl, fun p hp => ?_, ?_⟩
  · rcases List.mem_cons.1 hp with rfl | hp
    · exact ⟨hw, hx⟩
    · exact h.all p hp
  · rw [List.map_cons, List.nodup_cons]
    exact ⟨fun hm => by obtain ⟨p, hp, he⟩ := List.mem_map.1 hm; exact hk p hp he, h.nd⟩
/-- The boxes that a region has made. -/
theorem NL.ghs {w x W : World} {L : List (Nat × Nat)} {g : Gh} {κ : Nat → Nat} (h : NL w x L) (hS : Sim x.drew g κ W) : ∀ (ds : List (Nat × Nat)), (ds.map (·.1)).Nodup → (∀ p ∈ ds, ∃ b, g p.1 = some (nc p.2, b)) →
    NL w W (ds.map (fun p => (κ p.1, p.2)) ++ L)
  | [], _, _ => h.call (below_drew hS.base)
  | p :: ds, hn, hg => by
    rw [List.map_cons, List.nodup_cons] at hn
    have ih := NL.ghs h hS ds hn.2 fun q hq => hg q (List.mem_cons_of_mem _ hq)
    obtain ⟨b, hb⟩ := hg p List.mem_cons_self
    obtain ⟨h1, h2⟩ := hS.hd _ _ _ hb
    refine ih.plus (Nat.le_trans h.bl.size h1) (fun q hq => ?_) h2.nx
    rcases List.mem_append.1 hq with hq | hq
    · obtain ⟨r, hr, rfl⟩ := List.mem_map.1 hq
      obtain ⟨b', hb'⟩ := hg r (List.mem_cons_of_mem _ hr)
      exact hS.inj _ _ (by rw [hb']; rfl) (by rw [hb]; rfl) fun e => hn.1 (List.mem_map.2 ⟨r, hr, e⟩)
    · have := (h.all q hq).2.lt
      have h1' : x.heap.size ≤ κ p.1 := h1
      omega

end Go.Proofs.YtecdnohhengfaaaGreatDoor

/-
  Regions that draw their order, whose first operations only read and call (their callees may make memory), and whose last ones (stores into boxes that were there) stand behind all of those, in one order: ONE walk serves every order.
-/
namespace Go.Proofs.YtecdnohhengfaaaGreatDoor
open Go.RowKit

section
variable {P : Program} {ops : Array Oper} {md : Region.Mode} {C : World → Prop}

def doneN (n : Nat) (listed : Array Bool) : Bool := (List.range n).all fun i => listed.getD i false
theorem doneN_iff {n : Nat} {listed : Array Bool} : doneN n listed = true ↔ ∀ i, i < n → listed.getD i false = true := by
  simp only [doneN, List.all_eq_true, List.mem_range]
theorem unl {listed : Array Bool} {i : Nat} (h : listed.getD i true = false) : listed.getD i false = false := by
  rcases Nat.lt_or_ge i listed.size with h' | h'
  · simpa [h'] using h
  · simp [Array.getElem?_eq_none h'] at h
/-- What has come up has what it waits for behind it. -/
def closedL (md : Region.Mode) (ops : Array Oper) (listed : Array Bool) : Prop := ∀ j o, ops[j]? = some o → listed.getD j false = true → ∀ e ∈ o.after, Region.binds md e = true → listed.getD e.on false = true
theorem closedL.set {listed : Array Bool} {j : Nat} (h : closedL md ops listed) (hj : j ∈ Region.ready md ops listed) : closedL md ops (listed.setIfInBounds j true) := by
  intro k o hk hl e he hb
  by_cases hkj : j = k
  · subst hkj
    obtain ⟨-, o', ho', hall⟩ := mem_ready.1 hj
    rw [hk] at ho'
    obtain rfl := Option.some.inj ho'
    exact getD_set_true (hall e he hb)
  · rw [getD_set_ne false hkj] at hl
    exact getD_set_true (h k o hk hl e he hb)
/-- What an operation waits for. -/
def predsOf (md : Region.Mode) (ops : Array Oper) (i : Nat) : List Nat := match ops[i]? with
  | none => []
  | some o => (o.after.toList.filter fun e => Region.binds md e).map fun e => e.on
def ancOf (md : Region.Mode) (ops : Array Oper) (j : Nat) : List Nat := (List.range ops.size).reverse.foldl (fun S i => if S.contains i then S ++ predsOf md ops i else S) (predsOf md ops j)
theorem preds_listed {listed : Array Bool} (h : closedL md ops listed) {i : Nat} (hi : listed.getD i false = true) : ∀ x ∈ predsOf md ops i, listed.getD x false = true := by
  intro x hx
  unfold predsOf at hx
  cases ho : ops[i]? with
  | none => simp [ho] at hx
  | some o =>
    simp only [ho, List.mem_map, List.mem_filter] at hx
    obtain ⟨e, ⟨he, hb⟩, rfl⟩ := hx
    exact h i o ho hi e (by simpa using he) hb
theorem fold_listed {listed : Array Bool} (h : closedL md ops listed) : ∀ (r S : List Nat), (∀ x ∈ S, listed.getD x false = true) →
    ∀ x ∈ r.foldl (fun S i => if S.contains i then S ++ predsOf md ops i else S) S, listed.getD x false = true
  | [], S, hS => hS
  | i :: r, S, hS => by
    rw [List.foldl_cons]
    refine fold_listed h r _ ?_
    by_cases hc : S.contains i = true
    · rw [if_pos hc]
      intro x hx
      rcases List.mem_append.1 hx with hx | hx
      · exact hS x hx
      · exact preds_listed h (hS i (by simpa using hc)) x hx
    · rw [if_neg hc]; exact hS
/-- The last operations wait for the first n. -/
def barB (md : Region.Mode) (ops : Array Oper) (n : Nat) : Bool := (List.range ops.size).all fun j => decide (j < n) || (List.range n).all fun i => (ancOf md ops j).contains i
theorem bar {n : Nat} {listed : Array Bool} {j : Nat} (hB : barB md ops n = true) (h : closedL md ops listed) (hj : j ∈ Region.ready md ops listed) (hd : doneN n listed = false) : j < n := by
  rcases Nat.lt_or_ge j n with hn | hn
  · exact hn
  · exfalso
    obtain ⟨-, o, ho, hall⟩ := mem_ready.1 hj
    have hjs : j < ops.size := (Array.getElem?_eq_some_iff.1 ho).1
    simp only [barB, List.all_eq_true, List.mem_range, Bool.or_eq_true, decide_eq_true_eq] at hB
    rcases hB j hjs with h1 | h1
    · omega
    · have hp : ∀ x ∈ predsOf md ops j, listed.getD x false = true := by
        intro x hx
        unfold predsOf at hx
        simp only [ho, List.mem_map, List.mem_filter] at hx
        obtain ⟨e, ⟨he, hb⟩, rfl⟩ := hx
        exact hall e (by simpa using he) hb
      have h2 : doneN n listed = true := doneN_iff.2 fun i hi => fold_listed h _ _ hp i (List.contains_iff_mem.1 (h1 i hi))
      rw [h2] at hd; cases hd

/-- Whatever order is picked from here on, till the first n have come up. -/
def wpAnyB (P : Program) (md : Region.Mode) (ops : Array Oper) (C : World → Prop) (n : Nat) (Q : Act → Prop) : Nat → Array Bool → Act → Prop
  | 0, listed, a => doneN n listed = true ∧ Q a
  | fuel + 1, listed, a => doneN n listed = false ∧ Region.ready md ops listed ≠ [] ∧ ∀ i ∈ Region.ready md ops listed, qOp P ops C i (wpAnyB P md ops C n Q fuel (listed.setIfInBounds i true)) a

theorem wpAnyB_first {n : Nat} {Q : Act → Prop} {i : Nat} {oi : Oper} {v : Value} (hi : ops[i]? = some oi) (hin : i < n) (hB : barB md ops n = true) (hsel : ∀ (j : Nat) (o : Oper) cs b, ops[j]? = some o → o.op ≠ .select cs b) :
    ∀ (fuel : Nat) (listed : Array Bool) (a : Act), closedL md ops listed →
      (∀ j oj, ops[j]? = some oj → j ≠ i → listed.getD j true = false → (∀ e ∈ oj.after, Region.binds md e = true → e.on ≠ i) → oi.apart ops oj = true) →
      i ∈ Region.ready md ops listed → YieldsIn P ops C oi v a →
      wpAnyB P md ops C n Q fuel (listed.setIfInBounds i true) (a.put oi.dst v) → wpAnyB P md ops C n Q (fuel + 1) listed a := by
  intro fuel
  induction fuel with
  | zero =>
    intro listed a hc _ hr hy H
    have hiu := (mem_ready.1 hr).1
    have hnd : doneN n listed = false := Bool.eq_false_iff.2 fun h => by have := doneN_iff.1 h i hin; rw [unl hiu] at this; cases this
    refine ⟨hnd, List.ne_nil_of_mem hr, fun j hj => ?_⟩
    by_cases hji : j = i
    · subst hji; exact hy.qOp hi H
    · have hjn := bar hB hc hj hnd
      have h1 := doneN_iff.1 H.1 j hjn
      rw [getD_set_ne false (fun e => hji e.symm), unl (mem_ready.1 hj).1] at h1
      cases h1
  | succ fuel ih =>
    intro listed a hc hfree hr hy H
    have hiu := (mem_ready.1 hr).1
    have hnd : doneN n listed = false := Bool.eq_false_iff.2 fun h => by have := doneN_iff.1 h i hin; rw [unl hiu] at this; cases this
    refine ⟨hnd, List.ne_nil_of_mem hr, fun j hj => ?_⟩
    by_cases hji : j = i
    · subst hji; exact hy.qOp hi H
    · have h1 := H.2.2 j (ready_mono hj hji)
      obtain ⟨hjun, oj, hoj, hall⟩ := mem_ready.1 hj
      have hnot : ∀ e ∈ oj.after, Region.binds md e = true → e.on ≠ i := fun e he hb heq => by
        have h1 := hall e he hb
        rw [heq, unl hiu] at h1
        cases h1
      have h2 := qOp_put hoj (hfree j oj hoj hji hjun hnot) (fun cs b => hsel i oi cs b hi) (fun cs b => hsel j oj cs b hoj) hy h1
      have hfree' : ∀ k ok, ops[k]? = some ok → k ≠ i → (listed.setIfInBounds j true).getD k true = false →
          (∀ e ∈ ok.after, Region.binds md e = true → e.on ≠ i) → oi.apart ops ok = true := fun k ok hk hki hun hno => by
        refine hfree k ok hk hki ?_ hno
        by_cases hjk : j = k
        · subst hjk; exact hjun
        · rw [getD_set_ne true hjk] at hun; exact hun
      refine qOp_mono (fun a' h3 => ih (listed.setIfInBounds j true) a' (hc.set hj) hfree' (ready_mono hr (Ne.symm hji)) h3.1 ?_) h2
      rw [Array.setIfInBounds_comm _ _ hji]
      exact h3.2

def lexTo (md : Region.Mode) (ops : Array Oper) (n : Nat) : Nat → Nat → Array Bool → Bool
  | 0, _, listed => doneN n listed
  | fuel + 1, k, listed => (Region.ready md ops listed).contains k && Region.free md ops listed k && decide (k < n) && lexTo md ops n fuel (k + 1) (listed.setIfInBounds k true)

theorem wpAnyB_lex {n : Nat} {Q : Act → Prop} (hs : Region.noSelect ops = true) (hB : barB md ops n = true) : ∀ (l : List Oper) (k : Nat) (listed : Array Bool) (a : Act), (∀ j, j < l.length → l[j]? = ops[k + j]?) → closedL md ops listed →
    lexTo md ops n l.length k listed = true → wpQuiet P ops C Q l a → wpAnyB P md ops C n Q l.length listed a
  | [], _, _, _, _, _, hL, h => ⟨hL, h⟩
  | o :: l, k, listed, a, hl, hc, hL, h => by
    have h0 : ops[k]? = some o := by simpa using (hl 0 (by simp)).symm
    simp only [List.length_cons, lexTo, Bool.and_eq_true, decide_eq_true_eq] at hL
    obtain ⟨⟨⟨hr, hf⟩, hk⟩, hL'⟩ := hL
    have hr' : k ∈ Region.ready md ops listed := by simpa using hr
    have hq : qOp P ops C k (wpQuiet P ops C Q l) a := by unfold qOp; simp only [h0]; exact h
    obtain ⟨v, hy, hK⟩ := yieldsIn_of_qOp h0 hq
    exact wpAnyB_first h0 hk hB (Region.noSelect_spec hs) l.length listed a hc (Region.free_spec h0 hf) hr' hy
      (wpAnyB_lex hs hB l (k + 1) _ _ (fun j hj => by have := hl (j + 1) (by rw [List.length_cons]; omega); simpa [Nat.add_assoc, Nat.add_comm 1 j] using this) (hc.set hr') hL' hK)

/-- The first n have come up, and no other. -/
def canonL (s n : Nat) : Array Bool := ((List.range s).map fun i => decide (i < n)).toArray
def sufL (n : Nat) (ops : Array Oper) (listed : Array Bool) : Prop := listed.size = ops.size ∧ ∀ j, n ≤ j → j < ops.size → listed.getD j true = false
theorem canon_of {n : Nat} {listed : Array Bool} (h : sufL n ops listed) (hd : doneN n listed = true) : listed = canonL ops.size n := by
  apply Array.ext
  · simp [canonL, h.1]
  · intro i h1 h2
    have hs : i < ops.size := h.1 ▸ h1
    simp only [canonL, List.getElem_toArray, List.getElem_map, List.getElem_range]
    by_cases hi : i < n
    · have := doneN_iff.1 hd i hi
      simpa [h1, hi] using this
    · have := h.2 i (by omega) hs
      simpa [h1, hi] using this

theorem wpAny_of_B {n m : Nat} {Q : Act → Prop} {Q' : Exit → Act → World → Prop} (hB : barB md ops n = true) (hQ : ∀ a w, C w → Q a → wpAny P md ops Q' m (canonL ops.size n) a w) :
    ∀ (fuel : Nat) (listed : Array Bool) (a : Act) (w : World), C w → closedL md ops listed → sufL n ops listed → wpAnyB P md ops C n Q fuel listed a → wpAny P md ops Q' (m + fuel) listed a w
  | 0, listed, a, w, hw, hc, hu, h => by rw [canon_of hu h.1]; exact hQ a w hw h.2
  | fuel + 1, listed, a, w, hw, hc, hu, h => ⟨fun h0 => absurd h0 h.2.1, fun i hi => by
      have hin := bar hB hc hi h.1
      refine wpOp_of_qOp hw (fun a' w' hw' hh => wpAny_of_B hB hQ fuel _ a' w' hw' (hc.set hi) ⟨by simpa using hu.1, fun j hj hjs => ?_⟩ hh) (h.2.2 i hi)
      rw [getD_set_ne true (by omega)]; exact hu.2 j hj hjs⟩

theorem wpQuiet_mono {Q Q' : Act → Prop} (h : ∀ a, Q a → Q' a) : ∀ (l : List Oper) (a : Act), wpQuiet P ops C Q l a → wpQuiet P ops C Q' l a
  | [], a, hh => h a hh
  | o :: l, a, hh => by
    simp only [wpQuiet] at hh ⊢
    split
    · rename_i hw
      simp only [hw, if_true] at hh
      exact Oper.quiet_mono (fun a' => wpQuiet_mono h l a') hh
    · rename_i hw
      simp only [hw] at hh
      exact wpQuiet_mono h l _ hh

/-- One order only. -/
def seqB (md : Region.Mode) (ops : Array Oper) : Nat → Nat → Array Bool → Bool
  | 0, _, listed => (Region.ready md ops listed).isEmpty
  | fuel + 1, k, listed => Region.ready md ops listed == [k] && seqB md ops fuel (k + 1) (listed.setIfInBounds k true)
theorem wpAny_of_seq {Q' : Exit → Act → World → Prop} : ∀ (l : List Oper) (k : Nat) (listed : Array Bool) (a : Act) (w : World), (∀ j, j < l.length → l[j]? = ops[k + j]?) → seqB md ops l.length k listed = true →
    wpList P ops Q' l a w → wpAny P md ops Q' l.length listed a w
  | [], _, _, _, _, _, hS, h => ⟨by simpa [seqB] using hS, h⟩
  | o :: l, k, listed, a, w, hl, hS, h => by
    have h0 : ops[k]? = some o := by simpa using (hl 0 (by simp)).symm
    simp only [List.length_cons, seqB, Bool.and_eq_true, beq_iff_eq] at hS
    obtain ⟨hr, hS'⟩ := hS
    have ih := fun a w => wpAny_of_seq (Q' := Q') l (k + 1) (listed.setIfInBounds k true) a w (fun j hj => by have := hl (j + 1) (by rw [List.length_cons]; omega); simpa [Nat.add_assoc, Nat.add_comm 1 j] using this) hS'
    rw [List.length_cons]
    unfold wpAny
    refine ⟨fun h1 => absurd h1 (by rw [hr]; simp), fun i hi => ?_⟩
    rw [hr] at hi
    obtain rfl := List.mem_singleton.1 hi
    unfold wpOp
    simp only [h0]
    simp only [wpList] at h
    split
    · rename_i hw
      simp only [hw, if_true] at h
      rcases h with h | h
      · exact .inl (Oper.wp_mono ih h)
      · exact .inr h
    · rename_i hw
      simp only [hw] at h
      exact ih _ _ h

def qaB (n : Nat) (l : List Oper) : Bool :=
  Region.noSelect l.toArray && decide (n ≤ l.length) && barB .any l.toArray n && lexTo .any l.toArray n n 0 (Array.replicate l.length false)
/-- **First what only reads and calls, in any order; then the others, in any order of theirs.** -/
theorem region_qa (n : Nat) {id : Nat} {Q : Exit → Act → World → Prop} {a : Act} {w : World} {l : List Oper} (hm : P.follows .mixedOrders = true) (hB : qaB n l = true) (hC : C w.drew)
    (h : wpQuiet P l.toArray C (fun a' => ∀ w', C w' → wpAny P .any l.toArray Q (l.length - n) (canonL l.length n) a' w') (l.take n) a) : (Code.region id l.toArray true).wp P Q a w := by
  simp only [qaB, Bool.and_eq_true, decide_eq_true_eq] at hB
  obtain ⟨⟨⟨hs, hn⟩, hb⟩, hl⟩ := hB
  refine wp_region_any hm ?_
  have hlen : (l.take n).length = n := by rw [List.length_take]; omega
  have h0 : closedL .any l.toArray (Array.replicate l.length false) := fun j o _ hl => by
    rcases Nat.lt_or_ge j l.length with h' | h' <;> simp [h'] at hl
  have h1 := wpAnyB_lex (md := .any) (n := n) hs hb (l.take n) 0 (Array.replicate l.length false) a (fun j hj => by rw [hlen] at hj; simp [List.getElem?_take, hj]) h0 (by rw [hlen]; exact hl) h
  rw [hlen] at h1
  have h2 := wpAny_of_B (m := l.length - n) (Q' := Q) hb (fun a' w' hw' hh => by simpa using hh w' hw') n (Array.replicate l.length false) a w.drew hC h0 ⟨by simp, fun j _ hj => by simp at hj; simp [hj]⟩ h1
  rw [Nat.sub_add_cancel hn] at h2
  simpa using h2

def qsB (n : Nat) (l : List Oper) : Bool := qaB n l && seqB .any l.toArray (l.length - n) n (canonL l.length n)

/-- **First what only reads and calls, in any order; then the stores.** -/
theorem region_qs (n : Nat) {id : Nat} {Q : Exit → Act → World → Prop} {a : Act} {w : World} {l : List Oper} (hm : P.follows .mixedOrders = true) (hB : qsB n l = true) (hC : C w.drew)
    (h : wpQuiet P l.toArray C (fun a' => ∀ w', C w' → wpList P l.toArray Q (l.drop n) a' w') (l.take n) a) : (Code.region id l.toArray true).wp P Q a w := by
  simp only [qsB, Bool.and_eq_true] at hB
  refine region_qa n hm hB.1 hC ?_
  refine wpQuiet_mono (fun a' hh w' hw' => ?_) _ _ h
  have h3 := wpAny_of_seq (md := .any) (P := P) (Q' := Q) (l.drop n) n (canonL l.length n) a' w' (fun j hj => by simp [List.getElem?_drop]) (by rw [List.length_drop]; exact hB.2) (hh w' hw')
  rw [List.length_drop] at h3
  exact h3
/-- One pure operation ahead. -/
theorem any_pure {i m : Nat} {listed : Array Bool} {l : List Oper} {Q : Exit → Act → World → Prop} {a : Act} {w : World} (oi : Oper) (v : Value) (hi : l.toArray[i]? = some oi) (hg : oi.guard = none)
    (hB : (Region.noSelect l.toArray && Region.free .any l.toArray listed i && (Region.ready .any l.toArray listed).contains i) = true)
    (hQ : ∀ c a w, Q (.panic c) (a.put oi.dst v) w → Q (.panic c) a w) (hy : ∀ w, (execOp a.eval oi).run P w = .ok (.value v) w)
    (h : wpAny P .any l.toArray Q m (listed.setIfInBounds i true) (a.put oi.dst v) w) : wpAny P .any l.toArray Q (m + 1) listed a w := by
  simp only [Bool.and_eq_true] at hB
  exact wpAny_take hi hB.1.1 hB.1.2 hB.2 hQ (.inl ⟨by unfold Region.wanted; rw [hg], hy⟩) h
theorem any_seq (k : Nat) {m : Nat} {listed : Array Bool} {l : List Oper} {Q : Exit → Act → World → Prop} {a : Act} {w : World} (hm : (l.drop k).length = m) (hB : seqB .any l.toArray m k listed = true)
    (h : wpList P l.toArray Q (l.drop k) a w) : wpAny P .any l.toArray Q m listed a w := by
  subst hm
  exact wpAny_of_seq (md := .any) (P := P) (Q' := Q) (l.drop k) k listed a w (fun j hj => by simp [List.getElem?_drop]) hB h
end
end Go.Proofs.YtecdnohhengfaaaGreatDoor

/-
  Boxes of any cells: what a call has made, with what they hold (layers 2 and on).
-/
namespace Go.Proofs.YtecdnohhengfaaaGreatDoor
open Go.RowKit

/-- Cells stored one behind the other. -/
def setAll (W : World) (k : Nat) : Nat → List Value → World
  | _, [] => W
  | i, v :: vs => setAll (W.setCell ⟨k, i, none⟩ v) k (i + 1) vs
theorem setAll_upd (k : Nat) : ∀ (c : List Value) (i : Nat) (W : World), Upd k W (setAll W k i c)
  | [], _, W => Upd.refl k W
  | v :: vs, i, W => by
    have h1 := (Upd.refl k W).setCell i v
    have h2 := setAll_upd k vs (i + 1) (W.setCell ⟨k, i, none⟩ v)
    exact ⟨h2.os.trans h1.os, h2.tape.trans h1.tape, h2.output.trans h1.output, h2.size.trans h1.size, fun j hj => (h2.block j hj).trans (h1.block j hj)⟩
theorem hd_set {W : World} {k : Nat} {c : List Value} (h : Hd W k c) (i : Nat) (v : Value) (hi : i < c.length) : Hd (W.setCell ⟨k, i, none⟩ v) k (c.set i v) := by
  refine ⟨fun j hj => ?_, fun j => by simp [go_sem, h.frz j], by simp [World.setCell]; exact h.lt, by rw [List.length_set]; exact row_set h.row i v⟩
  rw [List.length_set] at hj
  by_cases e : i = j
  · subst e
    rw [World.cell?_setCell_same _ _ _ (h.cell i hi)]
    simp
  · rw [World.cell?_setCell_other _ _ _ _ (by intro h; simp only [Addr.mk.injEq] at h; omega), h.cell j hj]
    simp [e]
theorem setAll_hd : ∀ (c : List Value) (i : Nat) (W : World) (k : Nat) (p s : List Value), p.length = i → s.length = c.length → Hd W k (p ++ s) → Hd (setAll W k i c) k (p ++ c)
  | [], i, W, k, p, s, hp, hs, h => by
    rw [List.length_nil, List.length_eq_zero_iff] at hs
    subst hs; exact h
  | v :: vs, i, W, k, p, s, hp, hs, h => by
    cases s with
    | nil => simp at hs
    | cons s0 s =>
      have h1 := hd_set h i v (by rw [List.length_append, List.length_cons]; omega)
      rw [show (p ++ s0 :: s).set i v = (p ++ [v]) ++ s by subst hp; simp] at h1
      have h2 := setAll_hd vs (i + 1) (W.setCell ⟨k, i, none⟩ v) k (p ++ [v]) s (by simp [hp]) (by simpa using hs) h1
      rw [List.append_assoc] at h2
      exact h2

/-- The boxes that a call has made, with what they hold. -/
structure GL (w0 W : World) (L : List (Nat × List Value)) : Prop where
  bl : Below w0.heap.size w0 W
  all : ∀ p ∈ L, w0.heap.size ≤ p.1 ∧ Hd W p.1 p.2
  nd : (L.map (·.1)).Nodup

theorem GL.start (w : World) : GL w w [] := ⟨Below.refl _ _, (fun p hp => by cases hp), List.nodup_nil⟩
theorem GL.call {w0 W W' : World} {L : List (Nat × List Value)} (h : GL w0 W L) (hb : Below W.heap.size W W') : GL w0 W' L :=
  ⟨h.bl.trans (hb.mono h.bl.size), fun p hp => ⟨(h.all p hp).1, (h.all p hp).2.below hb⟩, h.nd⟩
theorem GL.drew {w0 W : World} {L : List (Nat × List Value)} (h : GL w0 W L) : GL w0 W.drew L :=
  ⟨h.bl.drew, fun p hp => ⟨(h.all p hp).1, (h.all p hp).2.cell, (h.all p hp).2.frz, (h.all p hp).2.lt, (h.all p hp).2.row⟩, h.nd⟩
theorem hd_new (W : World) (c : List Value) (t : TypeId) : Hd (W.alloc (.cells c.toArray t)) W.heap.size c := by
  have hrow := heap_alloc_new W (.cells c.toArray t)
  exact ⟨fun i hi => by rw [cell_of_row _ _ i _ _ _ hrow]; simp [hi], fun j => frozen_of_row _ _ j _ _ hrow, by rw [World.size_alloc]; omega, _, _, hrow, by simp⟩
theorem GL.new {w0 W : World} {L : List (Nat × List Value)} {K : Nat} (h : GL w0 W L) (hK : W.heap.size = K) (c : List Value) (t : TypeId) : GL w0 (W.alloc (.cells c.toArray t)) ((K, c) :: L) := by
  subst hK
  have hb : Below W.heap.size W (W.alloc (.cells c.toArray t)) := (Below.refl _ _).alloc (Nat.le_refl _) _
  refine ⟨h.bl.trans (hb.mono h.bl.size), fun p hp => ?_, ?_⟩
  · rcases List.mem_cons.1 hp with rfl | hp
    · exact ⟨h.bl.size, hd_new W c t⟩
    · exact ⟨(h.all p hp).1, (h.all p hp).2.below hb⟩
  · rw [List.map_cons, List.nodup_cons]
    refine ⟨fun hm => ?_, h.nd⟩
    obtain ⟨p, hp, he⟩ := List.mem_map.1 hm
    have := (h.all p hp).2.lt
    simp only at he
    omega
theorem GL.put {w0 W : World} {L : List (Nat × List Value)} (h : GL w0 W L) (i k : Nat) (c0 : List Value) (hi : L[i]? = some (k, c0)) (c : List Value) (hc : c.length = c0.length) :
    GL w0 (setAll W k 0 c) (L.set i (k, c)) := by
  have hu := setAll_upd k c 0 W
  obtain ⟨hil, he⟩ := List.getElem?_eq_some_iff.1 hi
  have hm : (k, c0) ∈ L := he ▸ List.getElem_mem hil
  have hk := h.all _ hm
  have hd := setAll_hd c 0 W k [] c0 rfl hc.symm hk.2
  have hmap : (L.set i (k, c)).map (·.1) = L.map (·.1) := by
    rw [List.map_set]
    apply List.ext_getElem?
    intro j
    by_cases e : i = j
    · subst e
      rw [List.getElem?_set_self (by simpa using hil), List.getElem?_map, hi]; rfl
    · rw [List.getElem?_set_ne e]
  refine ⟨h.bl.trans (hu.below hk.1), fun p hp => ?_, by rw [hmap]; exact h.nd⟩
  obtain ⟨j, hj, hpj⟩ := List.getElem_of_mem hp
  by_cases e : i = j
  · subst e
    rw [List.getElem_set_self] at hpj
    subst hpj
    exact ⟨hk.1, hd⟩
  · rw [List.getElem_set_ne e] at hpj
    rw [List.length_set] at hj
    have hp' : p ∈ L := hpj ▸ List.getElem_mem hj
    have hne : p.1 ≠ k := fun e2 => by
      have h1 : (L.map (·.1))[i]? = some k := by rw [List.getElem?_map, hi]; rfl
      have h2 : (L.map (·.1))[j]? = some k := by rw [List.getElem?_map, List.getElem?_eq_getElem hj, hpj]; simp [e2]
      exact e ((List.getElem?_inj (by simpa using hil) h.nd).1 (h1.trans h2.symm))
    exact ⟨(h.all p hp').1, hu.hd hne (h.all p hp').2⟩
theorem GL.get {w0 W : World} {L : List (Nat × List Value)} (h : GL w0 W L) (k : Nat) (c : List Value) (hm : (k, c) ∈ L) : Hd W k c := (h.all _ hm).2
theorem GL.weak {w0 W : World} {L L' : List (Nat × List Value)} (h : GL w0 W L) (hs : L'.Sublist L) : GL w0 W L' :=
  ⟨h.bl, fun p hp => h.all p (hs.subset hp), h.nd.sublist (hs.map _)⟩

/-- What cells hold, one fact each. -/
def cellsF (W : World) (k : Nat) : Nat → List Value → Prop
  | _, [] => True
  | i, v :: vs => W.cell? ⟨k, i, none⟩ = some v ∧ cellsF W k (i + 1) vs
theorem cells_of {W : World} {k : Nat} : ∀ (c : List Value) (i : Nat) (p : List Value), p.length = i → Hd W k (p ++ c) → cellsF W k i c
  | [], _, _, _, _ => trivial
  | v :: vs, i, p, hp, h => ⟨by have := h.cell i (by rw [List.length_append, List.length_cons]; omega); rw [this]; subst hp; simp,
      cells_of vs (i + 1) (p ++ [v]) (by simp [hp]) (by rw [List.append_assoc]; exact h)⟩
def neK (k : Nat) : List (Nat × List Value) → Prop
  | [] => True
  | p :: L => k ≠ p.1 ∧ p.1 ≠ k ∧ neK k L
theorem neK_of {k : Nat} : ∀ {L : List (Nat × List Value)}, k ∉ L.map (·.1) → neK k L
  | [], _ => trivial
  | p :: L, h => by
    simp only [List.map_cons, List.mem_cons, not_or] at h
    exact ⟨h.1, fun e => h.1 e.symm, neK_of h.2⟩
def fcG (W : World) : List (Nat × List Value) → Prop
  | [] => True
  | p :: L => cellsF W p.1 0 p.2 ∧ (∀ j, W.frozen? ⟨p.1, j, none⟩ = false) ∧ neK p.1 L ∧ fcG W L
theorem GL.fc {w0 W : World} : ∀ {L : List (Nat × List Value)}, GL w0 W L → fcG W L
  | [], _ => trivial
  | p :: L, h => ⟨cells_of p.2 0 [] rfl (h.all p List.mem_cons_self).2, (h.all p List.mem_cons_self).2.frz, neK_of (List.nodup_cons.1 h.nd).1,
      GL.fc (L := L) ⟨h.bl, fun q hq => h.all q (List.mem_cons_of_mem _ hq), (List.nodup_cons.1 h.nd).2⟩⟩

/-! In a class of worlds that keep what z holds. -/
def cellsC {α : Type} (F : α → World) (k : Nat) : Nat → List Value → Prop
  | _, [] => True
  | i, v :: vs => (∀ x, (F x).cell? ⟨k, i, none⟩ = some v) ∧ cellsC F k (i + 1) vs
theorem cellsC_of {α : Type} {F : α → World} {k : Nat} : ∀ (c : List Value) (i : Nat), (∀ x, cellsF (F x) k i c) → cellsC F k i c
  | [], _, _ => trivial
  | v :: vs, i, h => ⟨fun x => (h x).1, cellsC_of vs (i + 1) fun x => (h x).2⟩
def fcC {α : Type} (F : α → World) : List (Nat × List Value) → Prop
  | [] => True
  | p :: L => cellsC F p.1 0 p.2 ∧ fcC F L
theorem GL.fcC {α : Type} {F : α → World} {z : World} (h1 : ∀ x, Below z.heap.size z (F x)) {w : World} : ∀ {L : List (Nat × List Value)}, GL w z L → fcC F L
  | [], _ => trivial
  | p :: L, h => ⟨cellsC_of p.2 0 fun x => cells_of p.2 0 [] rfl ((h.all p List.mem_cons_self).2.below (h1 x)), GL.fcC h1 (L := L) ⟨h.bl, fun q hq => h.all q (List.mem_cons_of_mem _ hq), (List.nodup_cons.1 h.nd).2⟩⟩

/-- The boxes that a region has made. -/
theorem GL.ghs {w x W : World} {L : List (Nat × List Value)} {g : Gh} {κ : Nat → Nat} (h : GL w x L) (hS : Sim x.drew g κ W) : ∀ (ds : List (Nat × List Value)), (ds.map (·.1)).Nodup → (∀ p ∈ ds, ∃ b, g p.1 = some (p.2, b)) →
    GL w W (ds.map (fun p => (κ p.1, p.2)) ++ L)
  | [], _, _ => h.call (below_drew hS.base)
  | p :: ds, hn, hg => by
    rw [List.map_cons, List.nodup_cons] at hn
    have ih := GL.ghs h hS ds hn.2 fun q hq => hg q (List.mem_cons_of_mem _ hq)
    obtain ⟨b, hb⟩ := hg p List.mem_cons_self
    obtain ⟨h1, h2⟩ := hS.hd _ _ _ hb
    refine ⟨ih.bl, fun q hq => ?_, ?_⟩
    · rw [List.map_cons, List.cons_append] at hq
      rcases List.mem_cons.1 hq with rfl | hq
      · exact ⟨Nat.le_trans h.bl.size h1, h2⟩
      · exact ih.all q hq
    · rw [List.map_cons, List.cons_append, List.map_cons, List.nodup_cons]
      refine ⟨fun hm => ?_, ih.nd⟩
      obtain ⟨q, hq, he⟩ := List.mem_map.1 hm
      rcases List.mem_append.1 hq with hq | hq
      · obtain ⟨r, hr, rfl⟩ := List.mem_map.1 hq
        obtain ⟨b', hb'⟩ := hg r (List.mem_cons_of_mem _ hr)
        exact hS.inj _ _ (by rw [hb']; rfl) (by rw [hb]; rfl) (fun e => hn.1 (List.mem_map.2 ⟨r, hr, e⟩)) he
      · have := (h.all q hq).2.lt
        have h1' : x.heap.size ≤ κ p.1 := h1
        simp only at he
        omega
theorem GL.seg {α : Type} {F : α → World} {x : World} (h1 : ∀ y, Below x.drew.heap.size x.drew (F y)) {w : World} {L : List (Nat × List Value)} (hL : GL w x L) : Go.Proofs.YtecdnohhengfaaaGreatDoor.fcC F L := GL.fcC (fun y => below_drew (h1 y)) hL
end Go.Proofs.YtecdnohhengfaaaGreatDoor

/-
  Layer 2, walks A: From, Of, Abs, Sign, Neg.
-/
namespace Go.Proofs.YtecdnohhengfaaaGreatDoor
open Go.RowKit
attribute [local irreducible] lo hs sm s64 c64 d64 b64 mh ml pd pc qd qc val hiB str cmpI srD lz nb isq decB

/-- An integer, by its sign and its absolute value. -/
abbrev zV (s : Bool) (m : Nat) : Value := .agg #[.int .u64 ((lo m : Nat) : Int), .string (hs m), .bool s]
theorem ne0 {d : Nat} (h : d ≠ 0) : (((lo d : Nat) : Int) == 0) = false ∨ ((((lo d : Nat) : Int) == 0) = true ∧ ((hs d).toList == []) = false) := by
  have e := eq_zero (Nat.pos_of_ne_zero h)
  rwa [show ((lo 0 : Nat) : Int) = 0 by rw [lo_small Bs_pos]; rfl, show (hs 0).toList = [] by rw [hs_small Bs_pos, ByteArray.toList_eq]] at e
theorem zV_zero : zV false 0 = .agg #[.int .u64 0, .string ⟨#[]⟩, .bool false] := by unfold zV; rw [lo_small Bs_pos, hs_small Bs_pos]; rfl

set_option maxHeartbeats 4000000 in
set_option maxRecDepth 100000 in
theorem from_pos (n : Nat)  (w : World) :
    Calls Tryz.prog 91 #[.bool false, natV n] w fun e w' => e = .returned (zV false n) ∧ Below w.heap.size w w' := by
  have hL0 : GL w w [] := GL.start w
  replace hL0 := ((hL0.new rfl [.int .u64 ((lo n : Nat) : Int), .string (hs n)] 32).new (K := w.heap.size + 1) (szA _ _) [.int .u64 0, .string ⟨#[]⟩, .bool false] 39)
  generalize hweq : ((w.alloc (.cells #[.int .u64 ((lo n : Nat) : Int), .string (hs n)] 32)).alloc (.cells #[.int .u64 0, .string ⟨#[]⟩, .bool false] 39)) = x1 at hL0
  go_enter Tryz.func91, Tryz.ntmps91
  have hA := hL0.fc
  simp only [fcG, cellsF, neK, and_true, ne_eq, Nat.zero_add, Nat.reduceAdd] at hA
  go_upto_region 1 with fail
  clear hA
  clear hweq
  obtain ⟨α, iα, F, hF1, hF2⟩ := cls x1
  have hq := GL.fcC hF1 hL0
  simp only [fcC, cellsC, and_true, Nat.zero_add, Nat.reduceAdd] at hq
  refine region_qs 8 (C := fun w' => ∃ x, w' = F x) (by kernel_rfl) (by kernel_rfl) (cls_drew hF2) ?_
  simp only [List.take_succ_cons, List.take_zero, List.drop_succ_cons, List.drop_zero, List.take_nil, List.drop_nil]
  repeat (go_big_quiet_step (first | fail))
  refine wpQuiet_nil ?_
  rintro wq ⟨xq, rfl⟩
  replace hL0 := hL0.call (hF1 xq)
  clear hq hF2
  generalize F xq = x2 at hL0 ⊢
  clear hF1 xq iα F α
  have hA := hL0.fc
  simp only [fcG, cellsF, neK, and_true, ne_eq, Nat.zero_add, Nat.reduceAdd] at hA
  have hP := hL0.put 0 (w.heap.size + 1) _ rfl [.int .u64 ((lo n : Nat) : Int), .string (hs n), .bool false] rfl
  simp only [setAll, List.set_cons_zero, List.set_cons_succ] at hP
  generalize hput1 : (((x2.setCell ⟨w.heap.size + 1, 0, none⟩ (.int .u64 ((lo n : Nat) : Int))).setCell ⟨w.heap.size + 1, 1, none⟩ (.string (hs n))).setCell ⟨w.heap.size + 1, 2, none⟩ (.bool false)) = x3 at hP
  have hB1 := hP.fc
  simp only [fcG, cellsF, neK, and_true, ne_eq, Nat.zero_add, Nat.reduceAdd] at hB1
  replace hL0 := hP
  go_wp2_with fail
  exact bodyPost_ret (v := zV false n) (by simp [results, Tryz.results91, go_sem, hB1]) rfl ⟨rfl, hL0.bl⟩

set_option maxHeartbeats 4000000 in
set_option maxRecDepth 100000 in
theorem from_zero  (w : World) :
    Calls Tryz.prog 91 #[.bool true, natV 0] w fun e w' => e = .returned (zV false 0) ∧ Below w.heap.size w w' := by
  have hL0 : GL w w [] := GL.start w
  rw [natV_zero]
  replace hL0 := ((hL0.new rfl [.int .u64 0, .string ⟨#[]⟩] 32).new (K := w.heap.size + 1) (szA _ _) [.int .u64 0, .string ⟨#[]⟩, .bool false] 39)
  generalize hweq : ((w.alloc (.cells #[.int .u64 0, .string ⟨#[]⟩] 32)).alloc (.cells #[.int .u64 0, .string ⟨#[]⟩, .bool false] 39)) = x1 at hL0
  go_enter Tryz.func91, Tryz.ntmps91
  have hA := hL0.fc
  simp only [fcG, cellsF, neK, and_true, ne_eq, Nat.zero_add, Nat.reduceAdd] at hA
  go_upto_region 1 with fail
  clear hA
  clear hweq
  obtain ⟨α, iα, F, hF1, hF2⟩ := cls x1
  have hq := GL.fcC hF1 hL0
  simp only [fcC, cellsC, and_true, Nat.zero_add, Nat.reduceAdd] at hq
  refine region_qs 8 (C := fun w' => ∃ x, w' = F x) (by kernel_rfl) (by kernel_rfl) (cls_drew hF2) ?_
  simp only [List.take_succ_cons, List.take_zero, List.drop_succ_cons, List.drop_zero, List.take_nil, List.drop_nil]
  repeat (go_big_quiet_step (first | fail))
  refine wpQuiet_nil ?_
  rintro wq ⟨xq, rfl⟩
  replace hL0 := hL0.call (hF1 xq)
  clear hq hF2
  generalize F xq = x2 at hL0 ⊢
  clear hF1 xq iα F α
  have hA := hL0.fc
  simp only [fcG, cellsF, neK, and_true, ne_eq, Nat.zero_add, Nat.reduceAdd] at hA
  have hP := hL0.put 0 (w.heap.size + 1) _ rfl [.int .u64 0, .string ⟨#[]⟩, .bool false] rfl
  simp only [setAll, List.set_cons_zero, List.set_cons_succ] at hP
  generalize hput1 : (((x2.setCell ⟨w.heap.size + 1, 0, none⟩ (.int .u64 0)).setCell ⟨w.heap.size + 1, 1, none⟩ (.string ⟨#[]⟩)).setCell ⟨w.heap.size + 1, 2, none⟩ (.bool false)) = x3 at hP
  have hB1 := hP.fc
  simp only [fcG, cellsF, neK, and_true, ne_eq, Nat.zero_add, Nat.reduceAdd] at hB1
  replace hL0 := hP
  go_wp2_with fail
  exact bodyPost_ret (v := zV false 0) (by rw [zV_zero]; simp [results, Tryz.results91, go_sem, hB1]) rfl ⟨rfl, hL0.bl⟩

set_option maxHeartbeats 4000000 in
set_option maxRecDepth 100000 in
theorem from_neg (n : Nat) (hn : n ≠ 0) (w : World) :
    Calls Tryz.prog 91 #[.bool true, natV n] w fun e w' => e = .returned (zV true n) ∧ Below w.heap.size w w' := by
  have hL0 : GL w w [] := GL.start w
  replace hL0 := ((hL0.new rfl [.int .u64 ((lo n : Nat) : Int), .string (hs n)] 32).new (K := w.heap.size + 1) (szA _ _) [.int .u64 0, .string ⟨#[]⟩, .bool false] 39)
  generalize hweq : ((w.alloc (.cells #[.int .u64 ((lo n : Nat) : Int), .string (hs n)] 32)).alloc (.cells #[.int .u64 0, .string ⟨#[]⟩, .bool false] 39)) = x1 at hL0
  rcases ne0 hn with e0 | ⟨e0, e1⟩
  all_goals (
    go_enter Tryz.func91, Tryz.ntmps91
    have hA := hL0.fc
    simp only [fcG, cellsF, neK, and_true, ne_eq, Nat.zero_add, Nat.reduceAdd] at hA
    go_upto_region 1 with fail
    clear hA
    clear hweq
    obtain ⟨α, iα, F, hF1, hF2⟩ := cls x1
    have hq := GL.fcC hF1 hL0
    simp only [fcC, cellsC, and_true, Nat.zero_add, Nat.reduceAdd] at hq
    refine region_qs 8 (C := fun w' => ∃ x, w' = F x) (by kernel_rfl) (by kernel_rfl) (cls_drew hF2) ?_
    simp only [List.take_succ_cons, List.take_zero, List.drop_succ_cons, List.drop_zero, List.take_nil, List.drop_nil]
    repeat (go_big_quiet_step (first | fail))
    refine wpQuiet_nil ?_
    rintro wq ⟨xq, rfl⟩
    replace hL0 := hL0.call (hF1 xq)
    clear hq hF2
    generalize F xq = x2 at hL0 ⊢
    clear hF1 xq iα F α
    have hA := hL0.fc
    simp only [fcG, cellsF, neK, and_true, ne_eq, Nat.zero_add, Nat.reduceAdd] at hA
    have hP := hL0.put 0 (w.heap.size + 1) _ rfl [.int .u64 ((lo n : Nat) : Int), .string (hs n), .bool true] rfl
    simp only [setAll, List.set_cons_zero, List.set_cons_succ] at hP
    generalize hput1 : (((x2.setCell ⟨w.heap.size + 1, 0, none⟩ (.int .u64 ((lo n : Nat) : Int))).setCell ⟨w.heap.size + 1, 1, none⟩ (.string (hs n))).setCell ⟨w.heap.size + 1, 2, none⟩ (.bool true)) = x3 at hP
    have hB1 := hP.fc
    simp only [fcG, cellsF, neK, and_true, ne_eq, Nat.zero_add, Nat.reduceAdd] at hB1
    replace hL0 := hP
    go_wp2_with fail
    exact bodyPost_ret (v := zV true n) (by simp [results, Tryz.results91, go_sem, hB1]) rfl ⟨rfl, hL0.bl⟩)

theorem from_any (s : Bool) (n : Nat) (w : World) : Calls Tryz.prog 91 #[.bool s, natV n] w fun e w' => e = .returned (zV (s && decide (n ≠ 0)) n) ∧ Below w.heap.size w w' := by
  cases s with
  | false => exact from_pos n w
  | true =>
    by_cases h : n = 0
    · subst h; exact from_zero w
    · rw [Bool.true_and, decide_eq_true h]; exact from_neg n h w

set_option maxHeartbeats 4000000 in
set_option maxRecDepth 100000 in
theorem abs_any (s : Bool) (m : Nat) (w : World) :
    Calls Tryz.prog 43 #[zV s m] w fun e w' => e = .returned (natV m) ∧ Below w.heap.size w w' := by
  have hL0 : GL w w [] := GL.start w
  replace hL0 := ((hL0.new rfl [.int .u64 ((lo m : Nat) : Int), .string (hs m), .bool s] 39).new (K := w.heap.size + 1) (szA _ _) [.int .u64 0, .string ⟨#[]⟩] 32)
  generalize hweq : ((w.alloc (.cells #[.int .u64 ((lo m : Nat) : Int), .string (hs m), .bool s] 39)).alloc (.cells #[.int .u64 0, .string ⟨#[]⟩] 32)) = x1 at hL0
  go_enter Tryz.func43, Tryz.ntmps43
  have hA := hL0.fc
  simp only [fcG, cellsF, neK, and_true, ne_eq, Nat.zero_add, Nat.reduceAdd] at hA
  have hP := hL0.put 0 (w.heap.size + 1) _ rfl [.int .u64 ((lo m : Nat) : Int), .string (hs m)] rfl
  simp only [setAll, List.set_cons_zero, List.set_cons_succ] at hP
  generalize hput1 : ((x1.setCell ⟨w.heap.size + 1, 0, none⟩ (.int .u64 ((lo m : Nat) : Int))).setCell ⟨w.heap.size + 1, 1, none⟩ (.string (hs m))) = x2 at hP
  have hB1 := hP.fc
  simp only [fcG, cellsF, neK, and_true, ne_eq, Nat.zero_add, Nat.reduceAdd] at hB1
  replace hL0 := hP
  go_wp2_with fail
  exact bodyPost_ret (v := natV m) (by simp [results, Tryz.results43, go_sem, hB1]) rfl ⟨rfl, hL0.bl⟩

set_option maxHeartbeats 4000000 in
set_option maxRecDepth 100000 in
theorem sign_neg (m : Nat) (w : World) :
    Calls Tryz.prog 39 #[zV true m] w fun e w' => e = .returned (.int .i64 (-1)) ∧ Below w.heap.size w w' := by
  have hL0 : GL w w [] := GL.start w
  replace hL0 := (hL0.new rfl [.int .u64 ((lo m : Nat) : Int), .string (hs m), .bool true] 39)
  generalize hweq : (w.alloc (.cells #[.int .u64 ((lo m : Nat) : Int), .string (hs m), .bool true] 39)) = x1 at hL0
  go_enter Tryz.func39, Tryz.ntmps39
  have hA := hL0.fc
  simp only [fcG, cellsF, neK, and_true, ne_eq, Nat.zero_add, Nat.reduceAdd] at hA
  go_wp2_with fail
  exact bodyPost_ret (v := .int .i64 (-1)) (by simp [results, Tryz.results39, go_sem, hA]) rfl ⟨rfl, hL0.bl⟩

set_option maxHeartbeats 4000000 in
set_option maxRecDepth 100000 in
theorem sign_zero  (w : World) :
    Calls Tryz.prog 39 #[zV false 0] w fun e w' => e = .returned (.int .i64 0) ∧ Below w.heap.size w w' := by
  have hL0 : GL w w [] := GL.start w
  rw [zV_zero]
  replace hL0 := (hL0.new rfl [.int .u64 0, .string ⟨#[]⟩, .bool false] 39)
  generalize hweq : (w.alloc (.cells #[.int .u64 0, .string ⟨#[]⟩, .bool false] 39)) = x1 at hL0
  go_enter Tryz.func39, Tryz.ntmps39
  have hA := hL0.fc
  simp only [fcG, cellsF, neK, and_true, ne_eq, Nat.zero_add, Nat.reduceAdd] at hA
  go_wp2_with fail
  exact bodyPost_ret (v := .int .i64 0) (by simp [results, Tryz.results39, go_sem, hA]) rfl ⟨rfl, hL0.bl⟩

set_option maxHeartbeats 4000000 in
set_option maxRecDepth 100000 in
theorem sign_pos (m : Nat) (hm : m ≠ 0) (w : World) :
    Calls Tryz.prog 39 #[zV false m] w fun e w' => e = .returned (.int .i64 1) ∧ Below w.heap.size w w' := by
  have hL0 : GL w w [] := GL.start w
  replace hL0 := (hL0.new rfl [.int .u64 ((lo m : Nat) : Int), .string (hs m), .bool false] 39)
  generalize hweq : (w.alloc (.cells #[.int .u64 ((lo m : Nat) : Int), .string (hs m), .bool false] 39)) = x1 at hL0
  rcases ne0 hm with e0 | ⟨e0, e1⟩
  all_goals (
    go_enter Tryz.func39, Tryz.ntmps39
    have hA := hL0.fc
    simp only [fcG, cellsF, neK, and_true, ne_eq, Nat.zero_add, Nat.reduceAdd] at hA
    go_wp2_with fail
    exact bodyPost_ret (v := .int .i64 1) (by simp [results, Tryz.results39, go_sem, hA]) rfl ⟨rfl, hL0.bl⟩)

set_option maxHeartbeats 4000000 in
set_option maxRecDepth 100000 in
theorem neg_true (m : Nat) (w : World) :
    Calls Tryz.prog 37 #[zV true m] w fun e w' => e = .returned (zV false m) ∧ Below w.heap.size w w' := by
  have hL0 : GL w w [] := GL.start w
  have HF := Lib.hid (fun w => from_any false m w)
  simp only [Bool.false_and] at HF
  replace hL0 := ((hL0.new rfl [.int .u64 ((lo m : Nat) : Int), .string (hs m), .bool true] 39).new (K := w.heap.size + 1) (szA _ _) [.int .u64 0, .string ⟨#[]⟩, .bool false] 39)
  generalize hweq : ((w.alloc (.cells #[.int .u64 ((lo m : Nat) : Int), .string (hs m), .bool true] 39)).alloc (.cells #[.int .u64 0, .string ⟨#[]⟩, .bool false] 39)) = x1 at hL0
  go_enter Tryz.func37, Tryz.ntmps37
  have hA := hL0.fc
  simp only [fcG, cellsF, neK, and_true, ne_eq, Nat.zero_add, Nat.reduceAdd] at hA
  go_wp2_with fail
  clear hA
  with_reducible refine Calls.mono (HF.out _) ?_
  rintro e x2 ⟨rfl, hb⟩
  replace hL0 := hL0.call hb
  clear hb hweq
  have hA := hL0.fc
  simp only [fcG, cellsF, neK, and_true, ne_eq, Nat.zero_add, Nat.reduceAdd] at hA
  have hP := hL0.put 0 (w.heap.size + 1) _ rfl [.int .u64 ((lo m : Nat) : Int), .string (hs m), .bool false] rfl
  simp only [setAll, List.set_cons_zero, List.set_cons_succ] at hP
  generalize hput1 : (((x2.setCell ⟨w.heap.size + 1, 0, none⟩ (.int .u64 ((lo m : Nat) : Int))).setCell ⟨w.heap.size + 1, 1, none⟩ (.string (hs m))).setCell ⟨w.heap.size + 1, 2, none⟩ (.bool false)) = x3 at hP
  have hB1 := hP.fc
  simp only [fcG, cellsF, neK, and_true, ne_eq, Nat.zero_add, Nat.reduceAdd] at hB1
  replace hL0 := hP
  go_wp2_with fail
  exact bodyPost_ret (v := zV false m) (by simp [results, Tryz.results37, go_sem, hB1]) rfl ⟨rfl, hL0.bl⟩

set_option maxHeartbeats 4000000 in
set_option maxRecDepth 100000 in
theorem neg_false (m : Nat) (w : World) :
    Calls Tryz.prog 37 #[zV false m] w fun e w' => e = .returned (zV (decide (m ≠ 0)) m) ∧ Below w.heap.size w w' := by
  have hL0 : GL w w [] := GL.start w
  have HF := Lib.hid (fun w => from_any true m w)
  simp only [Bool.true_and] at HF
  obtain ⟨d, hd⟩ : ∃ d, d = decide (m ≠ 0) := ⟨_, rfl⟩
  rw [← hd] at HF ⊢
  clear hd
  replace hL0 := ((hL0.new rfl [.int .u64 ((lo m : Nat) : Int), .string (hs m), .bool false] 39).new (K := w.heap.size + 1) (szA _ _) [.int .u64 0, .string ⟨#[]⟩, .bool false] 39)
  generalize hweq : ((w.alloc (.cells #[.int .u64 ((lo m : Nat) : Int), .string (hs m), .bool false] 39)).alloc (.cells #[.int .u64 0, .string ⟨#[]⟩, .bool false] 39)) = x1 at hL0
  go_enter Tryz.func37, Tryz.ntmps37
  have hA := hL0.fc
  simp only [fcG, cellsF, neK, and_true, ne_eq, Nat.zero_add, Nat.reduceAdd] at hA
  go_wp2_with fail
  clear hA
  with_reducible refine Calls.mono (HF.out _) ?_
  rintro e x2 ⟨rfl, hb⟩
  replace hL0 := hL0.call hb
  clear hb hweq
  have hA := hL0.fc
  simp only [fcG, cellsF, neK, and_true, ne_eq, Nat.zero_add, Nat.reduceAdd] at hA
  have hP := hL0.put 0 (w.heap.size + 1) _ rfl [.int .u64 ((lo m : Nat) : Int), .string (hs m), .bool d] rfl
  simp only [setAll, List.set_cons_zero, List.set_cons_succ] at hP
  generalize hput1 : (((x2.setCell ⟨w.heap.size + 1, 0, none⟩ (.int .u64 ((lo m : Nat) : Int))).setCell ⟨w.heap.size + 1, 1, none⟩ (.string (hs m))).setCell ⟨w.heap.size + 1, 2, none⟩ (.bool d)) = x3 at hP
  have hB1 := hP.fc
  simp only [fcG, cellsF, neK, and_true, ne_eq, Nat.zero_add, Nat.reduceAdd] at hB1
  replace hL0 := hP
  go_wp2_with fail
  exact bodyPost_ret (v := zV d m) (by simp [results, Tryz.results37, go_sem, hB1]) rfl ⟨rfl, hL0.bl⟩

end Go.Proofs.YtecdnohhengfaaaGreatDoor

/-
  Layer 1: the order of decimal forms, as mathematics.
-/
namespace Go.Proofs.YtecdnohhengfaaaGreatDoor
open Go.Lib (decDigits nDigits)

end Go.Proofs.YtecdnohhengfaaaGreatDoor

/-
  Layer 2, walks B: Of, Cmp, Mul, Add, Sub, Text.
-/
namespace Go.Proofs.YtecdnohhengfaaaGreatDoor
open Go.RowKit
attribute [local irreducible] lo hs sm s64 c64 d64 b64 mh ml pd pc qd qc val hiB str cmpI srD lz nb isq decB

set_option maxHeartbeats 4000000 in
set_option maxRecDepth 100000 in
theorem ofp_any (m : Nat) (hm : m < 9223372036854775808) (w : World) :
    Calls Tryz.prog 90 #[.int .i64 (m : Int)] w fun e w' => e = .returned (zV false m) ∧ Below w.heap.size w w' := by
  have hL0 : GL w w [] := GL.start w
  have k0 : decide ((m : Int) < 0) = false := decide_eq_false (by omega)
  have hw : IntKind.u64.wrap (m : Int) = (m : Int) := wrapN _ (by omega)
  have HO := Lib.hid (fun w => of_any m (by unfold Bs; omega) w)
  have HF := Lib.hid (fun w => from_pos m w)
  replace hL0 := (hL0.new rfl [.int .u64 0, .string ⟨#[]⟩, .bool false] 39)
  generalize hweq : (w.alloc (.cells #[.int .u64 0, .string ⟨#[]⟩, .bool false] 39)) = x1 at hL0
  clear hm
  go_enter Tryz.func90, Tryz.ntmps90
  have hA := hL0.fc
  simp only [fcG, cellsF, neK, and_true, ne_eq, Nat.zero_add, Nat.reduceAdd] at hA
  go_wp2_with fail
  clear hA
  with_reducible refine Calls.mono (HO.out _) ?_
  rintro e x2 ⟨rfl, hb⟩
  replace hL0 := hL0.call hb
  clear hb hweq
  have hA := hL0.fc
  simp only [fcG, cellsF, neK, and_true, ne_eq, Nat.zero_add, Nat.reduceAdd] at hA
  go_wp2_with fail
  clear hA
  with_reducible refine Calls.mono (HF.out _) ?_
  rintro e x3 ⟨rfl, hb⟩
  replace hL0 := hL0.call hb
  clear hb
  have hA := hL0.fc
  simp only [fcG, cellsF, neK, and_true, ne_eq, Nat.zero_add, Nat.reduceAdd] at hA
  have hP := hL0.put 0 (w.heap.size) _ rfl [.int .u64 ((lo m : Nat) : Int), .string (hs m), .bool false] rfl
  simp only [setAll, List.set_cons_zero, List.set_cons_succ] at hP
  generalize hput1 : (((x3.setCell ⟨w.heap.size, 0, none⟩ (.int .u64 ((lo m : Nat) : Int))).setCell ⟨w.heap.size, 1, none⟩ (.string (hs m))).setCell ⟨w.heap.size, 2, none⟩ (.bool false)) = x4 at hP
  have hB1 := hP.fc
  simp only [fcG, cellsF, neK, and_true, ne_eq, Nat.zero_add, Nat.reduceAdd] at hB1
  replace hL0 := hP
  go_wp2_with fail
  exact bodyPost_ret (v := zV false m) (by simp [results, Tryz.results90, go_sem, hB1]) rfl ⟨rfl, hL0.bl⟩

set_option maxHeartbeats 4000000 in
set_option maxRecDepth 100000 in
theorem ofn_any (z : Int) (m : Nat) (hz : z = -(m : Int)) (h0 : 0 < m) (hm : m ≤ 9223372036854775808) (w : World) :
    Calls Tryz.prog 90 #[.int .i64 z] w fun e w' => e = .returned (zV true m) ∧ Below w.heap.size w w' := by
  have hL0 : GL w w [] := GL.start w
  have k0 : decide (z < 0) = true := decide_eq_true (by omega)
  obtain ⟨q, hq⟩ : ∃ q : Nat, (q : Int) = 18446744073709551616 - m := ⟨(18446744073709551616 - (m : Int)).toNat, by omega⟩
  have hw : IntKind.u64.wrap z = (q : Int) := by rw [IntKind.wrap_u64]; omega
  have hw2 : IntKind.u64.wrap (-(q : Int)) = (m : Int) := by rw [IntKind.wrap_u64]; omega
  have HO := Lib.hid (fun w => of_any m (by unfold Bs; omega) w)
  have HF := Lib.hid (fun w => from_neg m (by omega) w)
  replace hL0 := (hL0.new rfl [.int .u64 0, .string ⟨#[]⟩, .bool false] 39)
  generalize hweq : (w.alloc (.cells #[.int .u64 0, .string ⟨#[]⟩, .bool false] 39)) = x1 at hL0
  clear hm h0 hz hq
  go_enter Tryz.func90, Tryz.ntmps90
  have hA := hL0.fc
  simp only [fcG, cellsF, neK, and_true, ne_eq, Nat.zero_add, Nat.reduceAdd] at hA
  go_wp2_with fail
  clear hA
  with_reducible refine Calls.mono (HO.out _) ?_
  rintro e x2 ⟨rfl, hb⟩
  replace hL0 := hL0.call hb
  clear hb hweq
  have hA := hL0.fc
  simp only [fcG, cellsF, neK, and_true, ne_eq, Nat.zero_add, Nat.reduceAdd] at hA
  go_wp2_with fail
  clear hA
  with_reducible refine Calls.mono (HF.out _) ?_
  rintro e x3 ⟨rfl, hb⟩
  replace hL0 := hL0.call hb
  clear hb
  have hA := hL0.fc
  simp only [fcG, cellsF, neK, and_true, ne_eq, Nat.zero_add, Nat.reduceAdd] at hA
  have hP := hL0.put 0 (w.heap.size) _ rfl [.int .u64 ((lo m : Nat) : Int), .string (hs m), .bool true] rfl
  simp only [setAll, List.set_cons_zero, List.set_cons_succ] at hP
  generalize hput1 : (((x3.setCell ⟨w.heap.size, 0, none⟩ (.int .u64 ((lo m : Nat) : Int))).setCell ⟨w.heap.size, 1, none⟩ (.string (hs m))).setCell ⟨w.heap.size, 2, none⟩ (.bool true)) = x4 at hP
  have hB1 := hP.fc
  simp only [fcG, cellsF, neK, and_true, ne_eq, Nat.zero_add, Nat.reduceAdd] at hB1
  replace hL0 := hP
  go_wp2_with fail
  exact bodyPost_ret (v := zV true m) (by simp [results, Tryz.results90, go_sem, hB1]) rfl ⟨rfl, hL0.bl⟩

set_option maxHeartbeats 4000000 in
set_option maxRecDepth 100000 in
theorem icmp_true_true (m n : Nat) (w : World) :
    Calls Tryz.prog 41 #[zV true m, zV true n] w fun e w' => e = .returned (.int .i64 (cmpI n m)) ∧ Below w.heap.size w w' := by
  have hL0 : GL w w [] := GL.start w
  replace hL0 := ((hL0.new rfl [.int .u64 ((lo m : Nat) : Int), .string (hs m), .bool true] 39).new (K := w.heap.size + 1) (szA _ _) [.int .u64 ((lo n : Nat) : Int), .string (hs n), .bool true] 39)
  generalize hweq : ((w.alloc (.cells #[.int .u64 ((lo m : Nat) : Int), .string (hs m), .bool true] 39)).alloc (.cells #[.int .u64 ((lo n : Nat) : Int), .string (hs n), .bool true] 39)) = x1 at hL0
  have HC := Lib.hid (fun w => cmp_any n m w)
  go_enter Tryz.func41, Tryz.ntmps41
  have hA := hL0.fc
  simp only [fcG, cellsF, neK, and_true, ne_eq, Nat.zero_add, Nat.reduceAdd] at hA
  go_wp2_with fail
  clear hA
  with_reducible refine Calls.mono (HC.out _) ?_
  rintro e x2 ⟨rfl, hb⟩
  replace hL0 := hL0.call hb
  clear hb hweq
  have hA := hL0.fc
  simp only [fcG, cellsF, neK, and_true, ne_eq, Nat.zero_add, Nat.reduceAdd] at hA
  go_wp2_with fail
  exact bodyPost_ret (v := .int .i64 (cmpI n m)) (by simp [results, Tryz.results41, go_sem, hA]) rfl ⟨rfl, hL0.bl⟩

set_option maxHeartbeats 4000000 in
set_option maxRecDepth 100000 in
theorem icmp_true_false (m n : Nat) (w : World) :
    Calls Tryz.prog 41 #[zV true m, zV false n] w fun e w' => e = .returned (.int .i64 (-1)) ∧ Below w.heap.size w w' := by
  have hL0 : GL w w [] := GL.start w
  replace hL0 := ((hL0.new rfl [.int .u64 ((lo m : Nat) : Int), .string (hs m), .bool true] 39).new (K := w.heap.size + 1) (szA _ _) [.int .u64 ((lo n : Nat) : Int), .string (hs n), .bool false] 39)
  generalize hweq : ((w.alloc (.cells #[.int .u64 ((lo m : Nat) : Int), .string (hs m), .bool true] 39)).alloc (.cells #[.int .u64 ((lo n : Nat) : Int), .string (hs n), .bool false] 39)) = x1 at hL0
  go_enter Tryz.func41, Tryz.ntmps41
  have hA := hL0.fc
  simp only [fcG, cellsF, neK, and_true, ne_eq, Nat.zero_add, Nat.reduceAdd] at hA
  go_wp2_with fail
  exact bodyPost_ret (v := .int .i64 (-1)) (by simp [results, Tryz.results41, go_sem, hA]) rfl ⟨rfl, hL0.bl⟩

set_option maxHeartbeats 4000000 in
set_option maxRecDepth 100000 in
theorem icmp_false_true (m n : Nat) (w : World) :
    Calls Tryz.prog 41 #[zV false m, zV true n] w fun e w' => e = .returned (.int .i64 (1)) ∧ Below w.heap.size w w' := by
  have hL0 : GL w w [] := GL.start w
  replace hL0 := ((hL0.new rfl [.int .u64 ((lo m : Nat) : Int), .string (hs m), .bool false] 39).new (K := w.heap.size + 1) (szA _ _) [.int .u64 ((lo n : Nat) : Int), .string (hs n), .bool true] 39)
  generalize hweq : ((w.alloc (.cells #[.int .u64 ((lo m : Nat) : Int), .string (hs m), .bool false] 39)).alloc (.cells #[.int .u64 ((lo n : Nat) : Int), .string (hs n), .bool true] 39)) = x1 at hL0
  go_enter Tryz.func41, Tryz.ntmps41
  have hA := hL0.fc
  simp only [fcG, cellsF, neK, and_true, ne_eq, Nat.zero_add, Nat.reduceAdd] at hA
  go_wp2_with fail
  exact bodyPost_ret (v := .int .i64 (1)) (by simp [results, Tryz.results41, go_sem, hA]) rfl ⟨rfl, hL0.bl⟩

set_option maxHeartbeats 4000000 in
set_option maxRecDepth 100000 in
theorem icmp_false_false (m n : Nat) (w : World) :
    Calls Tryz.prog 41 #[zV false m, zV false n] w fun e w' => e = .returned (.int .i64 (cmpI m n)) ∧ Below w.heap.size w w' := by
  have hL0 : GL w w [] := GL.start w
  replace hL0 := ((hL0.new rfl [.int .u64 ((lo m : Nat) : Int), .string (hs m), .bool false] 39).new (K := w.heap.size + 1) (szA _ _) [.int .u64 ((lo n : Nat) : Int), .string (hs n), .bool false] 39)
  generalize hweq : ((w.alloc (.cells #[.int .u64 ((lo m : Nat) : Int), .string (hs m), .bool false] 39)).alloc (.cells #[.int .u64 ((lo n : Nat) : Int), .string (hs n), .bool false] 39)) = x1 at hL0
  have HC := Lib.hid (fun w => cmp_any m n w)
  go_enter Tryz.func41, Tryz.ntmps41
  have hA := hL0.fc
  simp only [fcG, cellsF, neK, and_true, ne_eq, Nat.zero_add, Nat.reduceAdd] at hA
  go_wp2_with fail
  clear hA
  with_reducible refine Calls.mono (HC.out _) ?_
  rintro e x2 ⟨rfl, hb⟩
  replace hL0 := hL0.call hb
  clear hb hweq
  have hA := hL0.fc
  simp only [fcG, cellsF, neK, and_true, ne_eq, Nat.zero_add, Nat.reduceAdd] at hA
  go_wp2_with fail
  exact bodyPost_ret (v := .int .i64 (cmpI m n)) (by simp [results, Tryz.results41, go_sem, hA]) rfl ⟨rfl, hL0.bl⟩

set_option maxHeartbeats 4000000 in
set_option maxRecDepth 100000 in
theorem imul_true_true (m n : Nat) (hm : (digs m).length ≤ 1000000000) (hn : (digs n).length ≤ 1000000000) (w : World) :
    Calls Tryz.prog 35 #[zV true m, zV true n] w fun e w' => e = .returned (zV false (m * n)) ∧ Below w.heap.size w w' := by
  have hL0 : GL w w [] := GL.start w
  have HM := Lib.hid (fun w => mul_any m n (by omega) (by omega) w)
  generalize m * n = p at *
  have HF := Lib.hid (fun w => from_any false p w)
  simp only [Bool.false_and] at HF
  clear hm hn
  replace hL0 := (((hL0.new rfl [.int .u64 ((lo m : Nat) : Int), .string (hs m), .bool true] 39).new (K := w.heap.size + 1) (szA _ _) [.int .u64 ((lo n : Nat) : Int), .string (hs n), .bool true] 39).new (K := w.heap.size + 1 + 1) (by simp only [World.size_alloc]) [.int .u64 0, .string ⟨#[]⟩, .bool false] 39)
  generalize hweq : (((w.alloc (.cells #[.int .u64 ((lo m : Nat) : Int), .string (hs m), .bool true] 39)).alloc (.cells #[.int .u64 ((lo n : Nat) : Int), .string (hs n), .bool true] 39)).alloc (.cells #[.int .u64 0, .string ⟨#[]⟩, .bool false] 39)) = x1 at hL0
  go_enter Tryz.func35, Tryz.ntmps35
  have hA := hL0.fc
  simp only [fcG, cellsF, neK, and_true, ne_eq, Nat.zero_add, Nat.reduceAdd] at hA
  go_upto_region 1 with fail
  clear hA
  clear hweq
  obtain ⟨α, iα, F, hF1, hF2⟩ := cls x1
  have hq := GL.fcC hF1 hL0
  simp only [fcC, cellsC, and_true, Nat.zero_add, Nat.reduceAdd] at hq
  refine region_qs 11 (C := fun w' => ∃ x, w' = F x) (by kernel_rfl) (by kernel_rfl) (cls_drew hF2) ?_
  simp only [List.take_succ_cons, List.take_zero, List.drop_succ_cons, List.drop_zero, List.take_nil, List.drop_nil]
  repeat (go_big_quiet_step (first | fail | (go_at_call 92; with_reducible exact cls_call hF1 hF2 HM.out _) | (go_at_call 91; with_reducible exact cls_call hF1 hF2 HF.out _)))
  refine wpQuiet_nil ?_
  rintro wq ⟨xq, rfl⟩
  replace hL0 := hL0.call (hF1 xq)
  clear hq hF2
  generalize F xq = x2 at hL0 ⊢
  clear hF1 xq iα F α
  have hA := hL0.fc
  simp only [fcG, cellsF, neK, and_true, ne_eq, Nat.zero_add, Nat.reduceAdd] at hA
  have hP := hL0.put 0 (w.heap.size + 1 + 1) _ rfl [.int .u64 ((lo p : Nat) : Int), .string (hs p), .bool false] rfl
  simp only [setAll, List.set_cons_zero, List.set_cons_succ] at hP
  generalize hput1 : (((x2.setCell ⟨w.heap.size + 1 + 1, 0, none⟩ (.int .u64 ((lo p : Nat) : Int))).setCell ⟨w.heap.size + 1 + 1, 1, none⟩ (.string (hs p))).setCell ⟨w.heap.size + 1 + 1, 2, none⟩ (.bool false)) = x3 at hP
  have hB1 := hP.fc
  simp only [fcG, cellsF, neK, and_true, ne_eq, Nat.zero_add, Nat.reduceAdd] at hB1
  replace hL0 := hP
  go_wp2_with fail
  exact bodyPost_ret (v := zV false p) (by simp [results, Tryz.results35, go_sem, hB1]) rfl ⟨rfl, hL0.bl⟩

set_option maxHeartbeats 4000000 in
set_option maxRecDepth 100000 in
theorem imul_true_false (m n : Nat) (hm : (digs m).length ≤ 1000000000) (hn : (digs n).length ≤ 1000000000) (w : World) :
    Calls Tryz.prog 35 #[zV true m, zV false n] w fun e w' => e = .returned (zV (decide (m * n ≠ 0)) (m * n)) ∧ Below w.heap.size w w' := by
  have hL0 : GL w w [] := GL.start w
  have HM := Lib.hid (fun w => mul_any m n (by omega) (by omega) w)
  generalize m * n = p at *
  have HF := Lib.hid (fun w => from_any true p w)
  simp only [Bool.true_and] at HF
  obtain ⟨d, hd⟩ : ∃ d, d = decide (p ≠ 0) := ⟨_, rfl⟩
  rw [← hd] at HF ⊢
  clear hd
  clear hm hn
  replace hL0 := (((hL0.new rfl [.int .u64 ((lo m : Nat) : Int), .string (hs m), .bool true] 39).new (K := w.heap.size + 1) (szA _ _) [.int .u64 ((lo n : Nat) : Int), .string (hs n), .bool false] 39).new (K := w.heap.size + 1 + 1) (by simp only [World.size_alloc]) [.int .u64 0, .string ⟨#[]⟩, .bool false] 39)
  generalize hweq : (((w.alloc (.cells #[.int .u64 ((lo m : Nat) : Int), .string (hs m), .bool true] 39)).alloc (.cells #[.int .u64 ((lo n : Nat) : Int), .string (hs n), .bool false] 39)).alloc (.cells #[.int .u64 0, .string ⟨#[]⟩, .bool false] 39)) = x1 at hL0
  go_enter Tryz.func35, Tryz.ntmps35
  have hA := hL0.fc
  simp only [fcG, cellsF, neK, and_true, ne_eq, Nat.zero_add, Nat.reduceAdd] at hA
  go_upto_region 1 with fail
  clear hA
  clear hweq
  obtain ⟨α, iα, F, hF1, hF2⟩ := cls x1
  have hq := GL.fcC hF1 hL0
  simp only [fcC, cellsC, and_true, Nat.zero_add, Nat.reduceAdd] at hq
  refine region_qs 11 (C := fun w' => ∃ x, w' = F x) (by kernel_rfl) (by kernel_rfl) (cls_drew hF2) ?_
  simp only [List.take_succ_cons, List.take_zero, List.drop_succ_cons, List.drop_zero, List.take_nil, List.drop_nil]
  repeat (go_big_quiet_step (first | fail | (go_at_call 92; with_reducible exact cls_call hF1 hF2 HM.out _) | (go_at_call 91; with_reducible exact cls_call hF1 hF2 HF.out _)))
  refine wpQuiet_nil ?_
  rintro wq ⟨xq, rfl⟩
  replace hL0 := hL0.call (hF1 xq)
  clear hq hF2
  generalize F xq = x2 at hL0 ⊢
  clear hF1 xq iα F α
  have hA := hL0.fc
  simp only [fcG, cellsF, neK, and_true, ne_eq, Nat.zero_add, Nat.reduceAdd] at hA
  have hP := hL0.put 0 (w.heap.size + 1 + 1) _ rfl [.int .u64 ((lo p : Nat) : Int), .string (hs p), .bool d] rfl
  simp only [setAll, List.set_cons_zero, List.set_cons_succ] at hP
  generalize hput1 : (((x2.setCell ⟨w.heap.size + 1 + 1, 0, none⟩ (.int .u64 ((lo p : Nat) : Int))).setCell ⟨w.heap.size + 1 + 1, 1, none⟩ (.string (hs p))).setCell ⟨w.heap.size + 1 + 1, 2, none⟩ (.bool d)) = x3 at hP
  have hB1 := hP.fc
  simp only [fcG, cellsF, neK, and_true, ne_eq, Nat.zero_add, Nat.reduceAdd] at hB1
  replace hL0 := hP
  go_wp2_with fail
  exact bodyPost_ret (v := zV d p) (by simp [results, Tryz.results35, go_sem, hB1]) rfl ⟨rfl, hL0.bl⟩

set_option maxHeartbeats 4000000 in
set_option maxRecDepth 100000 in
theorem imul_false_true (m n : Nat) (hm : (digs m).length ≤ 1000000000) (hn : (digs n).length ≤ 1000000000) (w : World) :
    Calls Tryz.prog 35 #[zV false m, zV true n] w fun e w' => e = .returned (zV (decide (m * n ≠ 0)) (m * n)) ∧ Below w.heap.size w w' := by
  have hL0 : GL w w [] := GL.start w
  have HM := Lib.hid (fun w => mul_any m n (by omega) (by omega) w)
  generalize m * n = p at *
  have HF := Lib.hid (fun w => from_any true p w)
  simp only [Bool.true_and] at HF
  obtain ⟨d, hd⟩ : ∃ d, d = decide (p ≠ 0) := ⟨_, rfl⟩
  rw [← hd] at HF ⊢
  clear hd
  clear hm hn
  replace hL0 := (((hL0.new rfl [.int .u64 ((lo m : Nat) : Int), .string (hs m), .bool false] 39).new (K := w.heap.size + 1) (szA _ _) [.int .u64 ((lo n : Nat) : Int), .string (hs n), .bool true] 39).new (K := w.heap.size + 1 + 1) (by simp only [World.size_alloc]) [.int .u64 0, .string ⟨#[]⟩, .bool false] 39)
  generalize hweq : (((w.alloc (.cells #[.int .u64 ((lo m : Nat) : Int), .string (hs m), .bool false] 39)).alloc (.cells #[.int .u64 ((lo n : Nat) : Int), .string (hs n), .bool true] 39)).alloc (.cells #[.int .u64 0, .string ⟨#[]⟩, .bool false] 39)) = x1 at hL0
  go_enter Tryz.func35, Tryz.ntmps35
  have hA := hL0.fc
  simp only [fcG, cellsF, neK, and_true, ne_eq, Nat.zero_add, Nat.reduceAdd] at hA
  go_upto_region 1 with fail
  clear hA
  clear hweq
  obtain ⟨α, iα, F, hF1, hF2⟩ := cls x1
  have hq := GL.fcC hF1 hL0
  simp only [fcC, cellsC, and_true, Nat.zero_add, Nat.reduceAdd] at hq
  refine region_qs 11 (C := fun w' => ∃ x, w' = F x) (by kernel_rfl) (by kernel_rfl) (cls_drew hF2) ?_
  simp only [List.take_succ_cons, List.take_zero, List.drop_succ_cons, List.drop_zero, List.take_nil, List.drop_nil]
  repeat (go_big_quiet_step (first | fail | (go_at_call 92; with_reducible exact cls_call hF1 hF2 HM.out _) | (go_at_call 91; with_reducible exact cls_call hF1 hF2 HF.out _)))
  refine wpQuiet_nil ?_
  rintro wq ⟨xq, rfl⟩
  replace hL0 := hL0.call (hF1 xq)
  clear hq hF2
  generalize F xq = x2 at hL0 ⊢
  clear hF1 xq iα F α
  have hA := hL0.fc
  simp only [fcG, cellsF, neK, and_true, ne_eq, Nat.zero_add, Nat.reduceAdd] at hA
  have hP := hL0.put 0 (w.heap.size + 1 + 1) _ rfl [.int .u64 ((lo p : Nat) : Int), .string (hs p), .bool d] rfl
  simp only [setAll, List.set_cons_zero, List.set_cons_succ] at hP
  generalize hput1 : (((x2.setCell ⟨w.heap.size + 1 + 1, 0, none⟩ (.int .u64 ((lo p : Nat) : Int))).setCell ⟨w.heap.size + 1 + 1, 1, none⟩ (.string (hs p))).setCell ⟨w.heap.size + 1 + 1, 2, none⟩ (.bool d)) = x3 at hP
  have hB1 := hP.fc
  simp only [fcG, cellsF, neK, and_true, ne_eq, Nat.zero_add, Nat.reduceAdd] at hB1
  replace hL0 := hP
  go_wp2_with fail
  exact bodyPost_ret (v := zV d p) (by simp [results, Tryz.results35, go_sem, hB1]) rfl ⟨rfl, hL0.bl⟩

set_option maxHeartbeats 4000000 in
set_option maxRecDepth 100000 in
theorem imul_false_false (m n : Nat) (hm : (digs m).length ≤ 1000000000) (hn : (digs n).length ≤ 1000000000) (w : World) :
    Calls Tryz.prog 35 #[zV false m, zV false n] w fun e w' => e = .returned (zV false (m * n)) ∧ Below w.heap.size w w' := by
  have hL0 : GL w w [] := GL.start w
  have HM := Lib.hid (fun w => mul_any m n (by omega) (by omega) w)
  generalize m * n = p at *
  have HF := Lib.hid (fun w => from_any false p w)
  simp only [Bool.false_and] at HF
  clear hm hn
  replace hL0 := (((hL0.new rfl [.int .u64 ((lo m : Nat) : Int), .string (hs m), .bool false] 39).new (K := w.heap.size + 1) (szA _ _) [.int .u64 ((lo n : Nat) : Int), .string (hs n), .bool false] 39).new (K := w.heap.size + 1 + 1) (by simp only [World.size_alloc]) [.int .u64 0, .string ⟨#[]⟩, .bool false] 39)
  generalize hweq : (((w.alloc (.cells #[.int .u64 ((lo m : Nat) : Int), .string (hs m), .bool false] 39)).alloc (.cells #[.int .u64 ((lo n : Nat) : Int), .string (hs n), .bool false] 39)).alloc (.cells #[.int .u64 0, .string ⟨#[]⟩, .bool false] 39)) = x1 at hL0
  go_enter Tryz.func35, Tryz.ntmps35
  have hA := hL0.fc
  simp only [fcG, cellsF, neK, and_true, ne_eq, Nat.zero_add, Nat.reduceAdd] at hA
  go_upto_region 1 with fail
  clear hA
  clear hweq
  obtain ⟨α, iα, F, hF1, hF2⟩ := cls x1
  have hq := GL.fcC hF1 hL0
  simp only [fcC, cellsC, and_true, Nat.zero_add, Nat.reduceAdd] at hq
  refine region_qs 11 (C := fun w' => ∃ x, w' = F x) (by kernel_rfl) (by kernel_rfl) (cls_drew hF2) ?_
  simp only [List.take_succ_cons, List.take_zero, List.drop_succ_cons, List.drop_zero, List.take_nil, List.drop_nil]
  repeat (go_big_quiet_step (first | fail | (go_at_call 92; with_reducible exact cls_call hF1 hF2 HM.out _) | (go_at_call 91; with_reducible exact cls_call hF1 hF2 HF.out _)))
  refine wpQuiet_nil ?_
  rintro wq ⟨xq, rfl⟩
  replace hL0 := hL0.call (hF1 xq)
  clear hq hF2
  generalize F xq = x2 at hL0 ⊢
  clear hF1 xq iα F α
  have hA := hL0.fc
  simp only [fcG, cellsF, neK, and_true, ne_eq, Nat.zero_add, Nat.reduceAdd] at hA
  have hP := hL0.put 0 (w.heap.size + 1 + 1) _ rfl [.int .u64 ((lo p : Nat) : Int), .string (hs p), .bool false] rfl
  simp only [setAll, List.set_cons_zero, List.set_cons_succ] at hP
  generalize hput1 : (((x2.setCell ⟨w.heap.size + 1 + 1, 0, none⟩ (.int .u64 ((lo p : Nat) : Int))).setCell ⟨w.heap.size + 1 + 1, 1, none⟩ (.string (hs p))).setCell ⟨w.heap.size + 1 + 1, 2, none⟩ (.bool false)) = x3 at hP
  have hB1 := hP.fc
  simp only [fcG, cellsF, neK, and_true, ne_eq, Nat.zero_add, Nat.reduceAdd] at hB1
  replace hL0 := hP
  go_wp2_with fail
  exact bodyPost_ret (v := zV false p) (by simp [results, Tryz.results35, go_sem, hB1]) rfl ⟨rfl, hL0.bl⟩

end Go.Proofs.YtecdnohhengfaaaGreatDoor

/-
  Layer 2, walks C: Add, Sub.
-/
namespace Go.Proofs.YtecdnohhengfaaaGreatDoor
open Go.RowKit
attribute [local irreducible] lo hs sm s64 c64 d64 b64 mh ml pd pc qd qc val hiB str cmpI srD lz nb isq decB

set_option maxHeartbeats 4000000 in
set_option maxRecDepth 100000 in
theorem out_true (m n : Nat) (hm : (digs m).length ≤ 1000000000) (hn : (digs n).length ≤ 1000000000) (w : World) :
    Calls Tryz.prog 127 #[zV true m, natV n] w fun e w' => e = .returned (zV (decide (m + n ≠ 0)) (m + n)) ∧ Below w.heap.size w w' := by
  have hL0 : GL w w [] := GL.start w
  have HA := Lib.hid (fun w => add_any m n (by omega) (by omega) w)
  generalize m + n = p at *
  have HF := Lib.hid (fun w => from_any true p w)
  simp only [Bool.true_and] at HF
  obtain ⟨d, hd⟩ : ∃ d, d = decide (p ≠ 0) := ⟨_, rfl⟩
  rw [← hd] at HF ⊢
  clear hd
  clear hm hn
  replace hL0 := (((hL0.new rfl [.int .u64 ((lo m : Nat) : Int), .string (hs m), .bool true] 39).new (K := w.heap.size + 1) (szA _ _) [.int .u64 ((lo n : Nat) : Int), .string (hs n)] 32).new (K := w.heap.size + 1 + 1) (by simp only [World.size_alloc]) [.int .u64 0, .string ⟨#[]⟩, .bool false] 39)
  generalize hweq : (((w.alloc (.cells #[.int .u64 ((lo m : Nat) : Int), .string (hs m), .bool true] 39)).alloc (.cells #[.int .u64 ((lo n : Nat) : Int), .string (hs n)] 32)).alloc (.cells #[.int .u64 0, .string ⟨#[]⟩, .bool false] 39)) = x1 at hL0
  go_enter Tryz.func127, Tryz.ntmps127
  have hA := hL0.fc
  simp only [fcG, cellsF, neK, and_true, ne_eq, Nat.zero_add, Nat.reduceAdd] at hA
  go_upto_region 1 with fail
  clear hA
  clear hweq
  obtain ⟨α, iα, F, hF1, hF2⟩ := cls x1
  have hq := GL.fcC hF1 hL0
  simp only [fcC, cellsC, and_true, Nat.zero_add, Nat.reduceAdd] at hq
  refine region_qs 7 (C := fun w' => ∃ x, w' = F x) (by kernel_rfl) (by kernel_rfl) (cls_drew hF2) ?_
  simp only [List.take_succ_cons, List.take_zero, List.drop_succ_cons, List.drop_zero, List.take_nil, List.drop_nil]
  repeat (go_big_quiet_step (first | fail | (go_at_call 108; with_reducible exact cls_call hF1 hF2 HA.out _) | (go_at_call 91; with_reducible exact cls_call hF1 hF2 HF.out _)))
  refine wpQuiet_nil ?_
  rintro wq ⟨xq, rfl⟩
  replace hL0 := hL0.call (hF1 xq)
  clear hq hF2
  generalize F xq = x2 at hL0 ⊢
  clear hF1 xq iα F α
  have hA := hL0.fc
  simp only [fcG, cellsF, neK, and_true, ne_eq, Nat.zero_add, Nat.reduceAdd] at hA
  have hP := hL0.put 0 (w.heap.size + 1 + 1) _ rfl [.int .u64 ((lo p : Nat) : Int), .string (hs p), .bool d] rfl
  simp only [setAll, List.set_cons_zero, List.set_cons_succ] at hP
  generalize hput1 : (((x2.setCell ⟨w.heap.size + 1 + 1, 0, none⟩ (.int .u64 ((lo p : Nat) : Int))).setCell ⟨w.heap.size + 1 + 1, 1, none⟩ (.string (hs p))).setCell ⟨w.heap.size + 1 + 1, 2, none⟩ (.bool d)) = x3 at hP
  have hB1 := hP.fc
  simp only [fcG, cellsF, neK, and_true, ne_eq, Nat.zero_add, Nat.reduceAdd] at hB1
  replace hL0 := hP
  go_wp2_with fail
  exact bodyPost_ret (v := zV d p) (by simp [results, Tryz.results127, go_sem, hB1]) rfl ⟨rfl, hL0.bl⟩

set_option maxHeartbeats 4000000 in
set_option maxRecDepth 100000 in
theorem out_false (m n : Nat) (hm : (digs m).length ≤ 1000000000) (hn : (digs n).length ≤ 1000000000) (w : World) :
    Calls Tryz.prog 127 #[zV false m, natV n] w fun e w' => e = .returned (zV false (m + n)) ∧ Below w.heap.size w w' := by
  have hL0 : GL w w [] := GL.start w
  have HA := Lib.hid (fun w => add_any m n (by omega) (by omega) w)
  generalize m + n = p at *
  have HF := Lib.hid (fun w => from_any false p w)
  simp only [Bool.false_and] at HF
  clear hm hn
  replace hL0 := (((hL0.new rfl [.int .u64 ((lo m : Nat) : Int), .string (hs m), .bool false] 39).new (K := w.heap.size + 1) (szA _ _) [.int .u64 ((lo n : Nat) : Int), .string (hs n)] 32).new (K := w.heap.size + 1 + 1) (by simp only [World.size_alloc]) [.int .u64 0, .string ⟨#[]⟩, .bool false] 39)
  generalize hweq : (((w.alloc (.cells #[.int .u64 ((lo m : Nat) : Int), .string (hs m), .bool false] 39)).alloc (.cells #[.int .u64 ((lo n : Nat) : Int), .string (hs n)] 32)).alloc (.cells #[.int .u64 0, .string ⟨#[]⟩, .bool false] 39)) = x1 at hL0
  go_enter Tryz.func127, Tryz.ntmps127
  have hA := hL0.fc
  simp only [fcG, cellsF, neK, and_true, ne_eq, Nat.zero_add, Nat.reduceAdd] at hA
  go_upto_region 1 with fail
  clear hA
  clear hweq
  obtain ⟨α, iα, F, hF1, hF2⟩ := cls x1
  have hq := GL.fcC hF1 hL0
  simp only [fcC, cellsC, and_true, Nat.zero_add, Nat.reduceAdd] at hq
  refine region_qs 7 (C := fun w' => ∃ x, w' = F x) (by kernel_rfl) (by kernel_rfl) (cls_drew hF2) ?_
  simp only [List.take_succ_cons, List.take_zero, List.drop_succ_cons, List.drop_zero, List.take_nil, List.drop_nil]
  repeat (go_big_quiet_step (first | fail | (go_at_call 108; with_reducible exact cls_call hF1 hF2 HA.out _) | (go_at_call 91; with_reducible exact cls_call hF1 hF2 HF.out _)))
  refine wpQuiet_nil ?_
  rintro wq ⟨xq, rfl⟩
  replace hL0 := hL0.call (hF1 xq)
  clear hq hF2
  generalize F xq = x2 at hL0 ⊢
  clear hF1 xq iα F α
  have hA := hL0.fc
  simp only [fcG, cellsF, neK, and_true, ne_eq, Nat.zero_add, Nat.reduceAdd] at hA
  have hP := hL0.put 0 (w.heap.size + 1 + 1) _ rfl [.int .u64 ((lo p : Nat) : Int), .string (hs p), .bool false] rfl
  simp only [setAll, List.set_cons_zero, List.set_cons_succ] at hP
  generalize hput1 : (((x2.setCell ⟨w.heap.size + 1 + 1, 0, none⟩ (.int .u64 ((lo p : Nat) : Int))).setCell ⟨w.heap.size + 1 + 1, 1, none⟩ (.string (hs p))).setCell ⟨w.heap.size + 1 + 1, 2, none⟩ (.bool false)) = x3 at hP
  have hB1 := hP.fc
  simp only [fcG, cellsF, neK, and_true, ne_eq, Nat.zero_add, Nat.reduceAdd] at hB1
  replace hL0 := hP
  go_wp2_with fail
  exact bodyPost_ret (v := zV false p) (by simp [results, Tryz.results127, go_sem, hB1]) rfl ⟨rfl, hL0.bl⟩

set_option maxHeartbeats 4000000 in
set_option maxRecDepth 100000 in
theorem in_true_ge (m n : Nat) (h : n ≤ m) (hm : (digs m).length ≤ 1000000000) (hn : (digs n).length ≤ 1000000000) (w : World) :
    Calls Tryz.prog 128 #[zV true m, natV n] w fun e w' => e = .returned (zV (decide (m - n ≠ 0)) (m - n)) ∧ Below w.heap.size w w' := by
  have hL0 : GL w w [] := GL.start w
  have HS := Lib.hid (fun w => sub_ge m n h (by omega) w)
  generalize m - n = p at *
  have HF := Lib.hid (fun w => from_any true p w)
  simp only [Bool.true_and] at HF
  obtain ⟨d, hd⟩ : ∃ d, d = decide (p ≠ 0) := ⟨_, rfl⟩
  rw [← hd] at HF ⊢
  clear hd
  clear hm hn h
  replace hL0 := (((hL0.new rfl [.int .u64 ((lo m : Nat) : Int), .string (hs m), .bool true] 39).new (K := w.heap.size + 1) (szA _ _) [.int .u64 ((lo n : Nat) : Int), .string (hs n)] 32).new (K := w.heap.size + 1 + 1) (by simp only [World.size_alloc]) [.int .u64 0, .string ⟨#[]⟩, .bool false] 39)
  generalize hweq : (((w.alloc (.cells #[.int .u64 ((lo m : Nat) : Int), .string (hs m), .bool true] 39)).alloc (.cells #[.int .u64 ((lo n : Nat) : Int), .string (hs n)] 32)).alloc (.cells #[.int .u64 0, .string ⟨#[]⟩, .bool false] 39)) = x1 at hL0
  go_enter Tryz.func128, Tryz.ntmps128
  have hA := hL0.fc
  simp only [fcG, cellsF, neK, and_true, ne_eq, Nat.zero_add, Nat.reduceAdd] at hA
  go_wp2_with fail
  clear hA
  with_reducible refine Calls.mono (HS.out _) ?_
  rintro e x2 ⟨rfl, hb⟩
  replace hL0 := hL0.call hb
  clear hb hweq
  replace hL0 := (hL0.new rfl [.int .u64 ((lo p : Nat) : Int), .string (hs p)] 32)
  generalize hweq : (x2.alloc (.cells #[.int .u64 ((lo p : Nat) : Int), .string (hs p)] 32)) = x3 at hL0
  have hA := hL0.fc
  simp only [fcG, cellsF, neK, and_true, ne_eq, Nat.zero_add, Nat.reduceAdd] at hA
  go_wp2_with fail
  clear hA
  with_reducible refine Calls.mono (HF.out _) ?_
  rintro e x4 ⟨rfl, hb⟩
  replace hL0 := hL0.call hb
  clear hb hweq
  have hA := hL0.fc
  simp only [fcG, cellsF, neK, and_true, ne_eq, Nat.zero_add, Nat.reduceAdd] at hA
  have hP := hL0.put 1 (w.heap.size + 1 + 1) _ rfl [.int .u64 ((lo p : Nat) : Int), .string (hs p), .bool d] rfl
  simp only [setAll, List.set_cons_zero, List.set_cons_succ] at hP
  generalize hput1 : (((x4.setCell ⟨w.heap.size + 1 + 1, 0, none⟩ (.int .u64 ((lo p : Nat) : Int))).setCell ⟨w.heap.size + 1 + 1, 1, none⟩ (.string (hs p))).setCell ⟨w.heap.size + 1 + 1, 2, none⟩ (.bool d)) = x5 at hP
  have hB1 := hP.fc
  simp only [fcG, cellsF, neK, and_true, ne_eq, Nat.zero_add, Nat.reduceAdd] at hB1
  replace hL0 := hP
  go_wp2_with fail
  exact bodyPost_ret (v := zV d p) (by simp [results, Tryz.results128, go_sem, hB1]) rfl ⟨rfl, hL0.bl⟩

set_option maxHeartbeats 4000000 in
set_option maxRecDepth 100000 in
theorem in_true_lt (m n : Nat) (h : m < n) (hm : (digs m).length ≤ 1000000000) (hn : (digs n).length ≤ 1000000000) (w : World) :
    Calls Tryz.prog 128 #[zV true m, natV n] w fun e w' => e = .returned (zV false (n - m)) ∧ Below w.heap.size w w' := by
  have hL0 : GL w w [] := GL.start w
  have HS := Lib.hid (fun w => sub_lt m n h w)
  have HT := Lib.hid (fun w => sub_ge n m (by omega) (by omega) w)
  generalize n - m = p at *
  have HF := Lib.hid (fun w => from_any false p w)
  simp only [Bool.false_and] at HF
  clear hm hn h
  replace hL0 := (((hL0.new rfl [.int .u64 ((lo m : Nat) : Int), .string (hs m), .bool true] 39).new (K := w.heap.size + 1) (szA _ _) [.int .u64 ((lo n : Nat) : Int), .string (hs n)] 32).new (K := w.heap.size + 1 + 1) (by simp only [World.size_alloc]) [.int .u64 0, .string ⟨#[]⟩, .bool false] 39)
  generalize hweq : (((w.alloc (.cells #[.int .u64 ((lo m : Nat) : Int), .string (hs m), .bool true] 39)).alloc (.cells #[.int .u64 ((lo n : Nat) : Int), .string (hs n)] 32)).alloc (.cells #[.int .u64 0, .string ⟨#[]⟩, .bool false] 39)) = x1 at hL0
  go_enter Tryz.func128, Tryz.ntmps128
  have hA := hL0.fc
  simp only [fcG, cellsF, neK, and_true, ne_eq, Nat.zero_add, Nat.reduceAdd] at hA
  go_wp2_with fail
  clear hA
  with_reducible refine Calls.mono (HS.out _) ?_
  rintro e x2 ⟨rfl, hb⟩
  replace hL0 := hL0.call hb
  clear hb hweq
  replace hL0 := (hL0.new rfl [.int .u64 ((lo 0 : Nat) : Int), .string (hs 0)] 32)
  generalize hweq : (x2.alloc (.cells #[.int .u64 ((lo 0 : Nat) : Int), .string (hs 0)] 32)) = x3 at hL0
  have hA := hL0.fc
  simp only [fcG, cellsF, neK, and_true, ne_eq, Nat.zero_add, Nat.reduceAdd] at hA
  go_wp2_with fail
  clear hA
  with_reducible refine Calls.mono (HT.out _) ?_
  rintro e x4 ⟨rfl, hb⟩
  replace hL0 := hL0.call hb
  clear hb hweq
  replace hL0 := (hL0.new rfl [.int .u64 ((lo p : Nat) : Int), .string (hs p)] 32)
  generalize hweq : (x4.alloc (.cells #[.int .u64 ((lo p : Nat) : Int), .string (hs p)] 32)) = x5 at hL0
  have hA := hL0.fc
  simp only [fcG, cellsF, neK, and_true, ne_eq, Nat.zero_add, Nat.reduceAdd] at hA
  go_wp2_with fail
  clear hA
  with_reducible refine Calls.mono (HF.out _) ?_
  rintro e x6 ⟨rfl, hb⟩
  replace hL0 := hL0.call hb
  clear hb hweq
  have hA := hL0.fc
  simp only [fcG, cellsF, neK, and_true, ne_eq, Nat.zero_add, Nat.reduceAdd] at hA
  have hP := hL0.put 2 (w.heap.size + 1 + 1) _ rfl [.int .u64 ((lo p : Nat) : Int), .string (hs p), .bool false] rfl
  simp only [setAll, List.set_cons_zero, List.set_cons_succ] at hP
  generalize hput1 : (((x6.setCell ⟨w.heap.size + 1 + 1, 0, none⟩ (.int .u64 ((lo p : Nat) : Int))).setCell ⟨w.heap.size + 1 + 1, 1, none⟩ (.string (hs p))).setCell ⟨w.heap.size + 1 + 1, 2, none⟩ (.bool false)) = x7 at hP
  have hB1 := hP.fc
  simp only [fcG, cellsF, neK, and_true, ne_eq, Nat.zero_add, Nat.reduceAdd] at hB1
  replace hL0 := hP
  go_wp2_with fail
  exact bodyPost_ret (v := zV false p) (by simp [results, Tryz.results128, go_sem, hB1]) rfl ⟨rfl, hL0.bl⟩

set_option maxHeartbeats 4000000 in
set_option maxRecDepth 100000 in
theorem in_false_ge (m n : Nat) (h : n ≤ m) (hm : (digs m).length ≤ 1000000000) (hn : (digs n).length ≤ 1000000000) (w : World) :
    Calls Tryz.prog 128 #[zV false m, natV n] w fun e w' => e = .returned (zV false (m - n)) ∧ Below w.heap.size w w' := by
  have hL0 : GL w w [] := GL.start w
  have HS := Lib.hid (fun w => sub_ge m n h (by omega) w)
  generalize m - n = p at *
  have HF := Lib.hid (fun w => from_any false p w)
  simp only [Bool.false_and] at HF
  clear hm hn h
  replace hL0 := (((hL0.new rfl [.int .u64 ((lo m : Nat) : Int), .string (hs m), .bool false] 39).new (K := w.heap.size + 1) (szA _ _) [.int .u64 ((lo n : Nat) : Int), .string (hs n)] 32).new (K := w.heap.size + 1 + 1) (by simp only [World.size_alloc]) [.int .u64 0, .string ⟨#[]⟩, .bool false] 39)
  generalize hweq : (((w.alloc (.cells #[.int .u64 ((lo m : Nat) : Int), .string (hs m), .bool false] 39)).alloc (.cells #[.int .u64 ((lo n : Nat) : Int), .string (hs n)] 32)).alloc (.cells #[.int .u64 0, .string ⟨#[]⟩, .bool false] 39)) = x1 at hL0
  go_enter Tryz.func128, Tryz.ntmps128
  have hA := hL0.fc
  simp only [fcG, cellsF, neK, and_true, ne_eq, Nat.zero_add, Nat.reduceAdd] at hA
  go_wp2_with fail
  clear hA
  with_reducible refine Calls.mono (HS.out _) ?_
  rintro e x2 ⟨rfl, hb⟩
  replace hL0 := hL0.call hb
  clear hb hweq
  replace hL0 := (hL0.new rfl [.int .u64 ((lo p : Nat) : Int), .string (hs p)] 32)
  generalize hweq : (x2.alloc (.cells #[.int .u64 ((lo p : Nat) : Int), .string (hs p)] 32)) = x3 at hL0
  have hA := hL0.fc
  simp only [fcG, cellsF, neK, and_true, ne_eq, Nat.zero_add, Nat.reduceAdd] at hA
  go_wp2_with fail
  clear hA
  with_reducible refine Calls.mono (HF.out _) ?_
  rintro e x4 ⟨rfl, hb⟩
  replace hL0 := hL0.call hb
  clear hb hweq
  have hA := hL0.fc
  simp only [fcG, cellsF, neK, and_true, ne_eq, Nat.zero_add, Nat.reduceAdd] at hA
  have hP := hL0.put 1 (w.heap.size + 1 + 1) _ rfl [.int .u64 ((lo p : Nat) : Int), .string (hs p), .bool false] rfl
  simp only [setAll, List.set_cons_zero, List.set_cons_succ] at hP
  generalize hput1 : (((x4.setCell ⟨w.heap.size + 1 + 1, 0, none⟩ (.int .u64 ((lo p : Nat) : Int))).setCell ⟨w.heap.size + 1 + 1, 1, none⟩ (.string (hs p))).setCell ⟨w.heap.size + 1 + 1, 2, none⟩ (.bool false)) = x5 at hP
  have hB1 := hP.fc
  simp only [fcG, cellsF, neK, and_true, ne_eq, Nat.zero_add, Nat.reduceAdd] at hB1
  replace hL0 := hP
  go_wp2_with fail
  exact bodyPost_ret (v := zV false p) (by simp [results, Tryz.results128, go_sem, hB1]) rfl ⟨rfl, hL0.bl⟩

set_option maxHeartbeats 4000000 in
set_option maxRecDepth 100000 in
theorem in_false_lt (m n : Nat) (h : m < n) (hm : (digs m).length ≤ 1000000000) (hn : (digs n).length ≤ 1000000000) (w : World) :
    Calls Tryz.prog 128 #[zV false m, natV n] w fun e w' => e = .returned (zV (decide (n - m ≠ 0)) (n - m)) ∧ Below w.heap.size w w' := by
  have hL0 : GL w w [] := GL.start w
  have HS := Lib.hid (fun w => sub_lt m n h w)
  have HT := Lib.hid (fun w => sub_ge n m (by omega) (by omega) w)
  generalize n - m = p at *
  have HF := Lib.hid (fun w => from_any true p w)
  simp only [Bool.true_and] at HF
  obtain ⟨d, hd⟩ : ∃ d, d = decide (p ≠ 0) := ⟨_, rfl⟩
  rw [← hd] at HF ⊢
  clear hd
  clear hm hn h
  replace hL0 := (((hL0.new rfl [.int .u64 ((lo m : Nat) : Int), .string (hs m), .bool false] 39).new (K := w.heap.size + 1) (szA _ _) [.int .u64 ((lo n : Nat) : Int), .string (hs n)] 32).new (K := w.heap.size + 1 + 1) (by simp only [World.size_alloc]) [.int .u64 0, .string ⟨#[]⟩, .bool false] 39)
  generalize hweq : (((w.alloc (.cells #[.int .u64 ((lo m : Nat) : Int), .string (hs m), .bool false] 39)).alloc (.cells #[.int .u64 ((lo n : Nat) : Int), .string (hs n)] 32)).alloc (.cells #[.int .u64 0, .string ⟨#[]⟩, .bool false] 39)) = x1 at hL0
  go_enter Tryz.func128, Tryz.ntmps128
  have hA := hL0.fc
  simp only [fcG, cellsF, neK, and_true, ne_eq, Nat.zero_add, Nat.reduceAdd] at hA
  go_wp2_with fail
  clear hA
  with_reducible refine Calls.mono (HS.out _) ?_
  rintro e x2 ⟨rfl, hb⟩
  replace hL0 := hL0.call hb
  clear hb hweq
  replace hL0 := (hL0.new rfl [.int .u64 ((lo 0 : Nat) : Int), .string (hs 0)] 32)
  generalize hweq : (x2.alloc (.cells #[.int .u64 ((lo 0 : Nat) : Int), .string (hs 0)] 32)) = x3 at hL0
  have hA := hL0.fc
  simp only [fcG, cellsF, neK, and_true, ne_eq, Nat.zero_add, Nat.reduceAdd] at hA
  go_wp2_with fail
  clear hA
  with_reducible refine Calls.mono (HT.out _) ?_
  rintro e x4 ⟨rfl, hb⟩
  replace hL0 := hL0.call hb
  clear hb hweq
  replace hL0 := (hL0.new rfl [.int .u64 ((lo p : Nat) : Int), .string (hs p)] 32)
  generalize hweq : (x4.alloc (.cells #[.int .u64 ((lo p : Nat) : Int), .string (hs p)] 32)) = x5 at hL0
  have hA := hL0.fc
  simp only [fcG, cellsF, neK, and_true, ne_eq, Nat.zero_add, Nat.reduceAdd] at hA
  go_wp2_with fail
  clear hA
  with_reducible refine Calls.mono (HF.out _) ?_
  rintro e x6 ⟨rfl, hb⟩
  replace hL0 := hL0.call hb
  clear hb hweq
  have hA := hL0.fc
  simp only [fcG, cellsF, neK, and_true, ne_eq, Nat.zero_add, Nat.reduceAdd] at hA
  have hP := hL0.put 2 (w.heap.size + 1 + 1) _ rfl [.int .u64 ((lo p : Nat) : Int), .string (hs p), .bool d] rfl
  simp only [setAll, List.set_cons_zero, List.set_cons_succ] at hP
  generalize hput1 : (((x6.setCell ⟨w.heap.size + 1 + 1, 0, none⟩ (.int .u64 ((lo p : Nat) : Int))).setCell ⟨w.heap.size + 1 + 1, 1, none⟩ (.string (hs p))).setCell ⟨w.heap.size + 1 + 1, 2, none⟩ (.bool d)) = x7 at hP
  have hB1 := hP.fc
  simp only [fcG, cellsF, neK, and_true, ne_eq, Nat.zero_add, Nat.reduceAdd] at hB1
  replace hL0 := hP
  go_wp2_with fail
  exact bodyPost_ret (v := zV d p) (by simp [results, Tryz.results128, go_sem, hB1]) rfl ⟨rfl, hL0.bl⟩

set_option maxHeartbeats 4000000 in
set_option maxRecDepth 100000 in
theorem byadd_true_true (m n k : Nat) (u : Bool) (H : ∀ w, Calls Tryz.prog 127 #[zV true m, natV n] w fun e w' => e = .returned (zV u k) ∧ Below w.heap.size w w') (w : World) :
    Calls Tryz.prog 126 #[zV true m, zV true n, .func (.func 127) #[] #[], .func (.func 128) #[] #[]] w fun e w' => e = .returned (zV u k) ∧ Below w.heap.size w w' := by
  have hL0 : GL w w [] := GL.start w
  replace H := Lib.hid H
  replace hL0 := (((hL0.new rfl [.int .u64 ((lo m : Nat) : Int), .string (hs m), .bool true] 39).new (K := w.heap.size + 1) (szA _ _) [.int .u64 ((lo n : Nat) : Int), .string (hs n), .bool true] 39).new (K := w.heap.size + 1 + 1) (by simp only [World.size_alloc]) [.int .u64 0, .string ⟨#[]⟩, .bool false] 39)
  generalize hweq : (((w.alloc (.cells #[.int .u64 ((lo m : Nat) : Int), .string (hs m), .bool true] 39)).alloc (.cells #[.int .u64 ((lo n : Nat) : Int), .string (hs n), .bool true] 39)).alloc (.cells #[.int .u64 0, .string ⟨#[]⟩, .bool false] 39)) = x1 at hL0
  go_enter Tryz.func126, Tryz.ntmps126
  have hA := hL0.fc
  simp only [fcG, cellsF, neK, and_true, ne_eq, Nat.zero_add, Nat.reduceAdd] at hA
  go_wp2_with fail
  clear hA
  with_reducible refine Calls.mono (H.out _) ?_
  rintro e x2 ⟨rfl, hb⟩
  replace hL0 := hL0.call hb
  clear hb hweq
  have hA := hL0.fc
  simp only [fcG, cellsF, neK, and_true, ne_eq, Nat.zero_add, Nat.reduceAdd] at hA
  have hP := hL0.put 0 (w.heap.size + 1 + 1) _ rfl [.int .u64 ((lo k : Nat) : Int), .string (hs k), .bool u] rfl
  simp only [setAll, List.set_cons_zero, List.set_cons_succ] at hP
  generalize hput1 : (((x2.setCell ⟨w.heap.size + 1 + 1, 0, none⟩ (.int .u64 ((lo k : Nat) : Int))).setCell ⟨w.heap.size + 1 + 1, 1, none⟩ (.string (hs k))).setCell ⟨w.heap.size + 1 + 1, 2, none⟩ (.bool u)) = x3 at hP
  have hB1 := hP.fc
  simp only [fcG, cellsF, neK, and_true, ne_eq, Nat.zero_add, Nat.reduceAdd] at hB1
  replace hL0 := hP
  go_wp2_with fail
  exact bodyPost_ret (v := zV u k) (by simp [results, Tryz.results126, go_sem, hB1]) rfl ⟨rfl, hL0.bl⟩

set_option maxHeartbeats 4000000 in
set_option maxRecDepth 100000 in
theorem byadd_true_false (m n k : Nat) (u : Bool) (H : ∀ w, Calls Tryz.prog 128 #[zV true m, natV n] w fun e w' => e = .returned (zV u k) ∧ Below w.heap.size w w') (w : World) :
    Calls Tryz.prog 126 #[zV true m, zV false n, .func (.func 127) #[] #[], .func (.func 128) #[] #[]] w fun e w' => e = .returned (zV u k) ∧ Below w.heap.size w w' := by
  have hL0 : GL w w [] := GL.start w
  replace H := Lib.hid H
  replace hL0 := (((hL0.new rfl [.int .u64 ((lo m : Nat) : Int), .string (hs m), .bool true] 39).new (K := w.heap.size + 1) (szA _ _) [.int .u64 ((lo n : Nat) : Int), .string (hs n), .bool false] 39).new (K := w.heap.size + 1 + 1) (by simp only [World.size_alloc]) [.int .u64 0, .string ⟨#[]⟩, .bool false] 39)
  generalize hweq : (((w.alloc (.cells #[.int .u64 ((lo m : Nat) : Int), .string (hs m), .bool true] 39)).alloc (.cells #[.int .u64 ((lo n : Nat) : Int), .string (hs n), .bool false] 39)).alloc (.cells #[.int .u64 0, .string ⟨#[]⟩, .bool false] 39)) = x1 at hL0
  go_enter Tryz.func126, Tryz.ntmps126
  have hA := hL0.fc
  simp only [fcG, cellsF, neK, and_true, ne_eq, Nat.zero_add, Nat.reduceAdd] at hA
  go_wp2_with fail
  clear hA
  with_reducible refine Calls.mono (H.out _) ?_
  rintro e x2 ⟨rfl, hb⟩
  replace hL0 := hL0.call hb
  clear hb hweq
  have hA := hL0.fc
  simp only [fcG, cellsF, neK, and_true, ne_eq, Nat.zero_add, Nat.reduceAdd] at hA
  have hP := hL0.put 0 (w.heap.size + 1 + 1) _ rfl [.int .u64 ((lo k : Nat) : Int), .string (hs k), .bool u] rfl
  simp only [setAll, List.set_cons_zero, List.set_cons_succ] at hP
  generalize hput1 : (((x2.setCell ⟨w.heap.size + 1 + 1, 0, none⟩ (.int .u64 ((lo k : Nat) : Int))).setCell ⟨w.heap.size + 1 + 1, 1, none⟩ (.string (hs k))).setCell ⟨w.heap.size + 1 + 1, 2, none⟩ (.bool u)) = x3 at hP
  have hB1 := hP.fc
  simp only [fcG, cellsF, neK, and_true, ne_eq, Nat.zero_add, Nat.reduceAdd] at hB1
  replace hL0 := hP
  go_wp2_with fail
  exact bodyPost_ret (v := zV u k) (by simp [results, Tryz.results126, go_sem, hB1]) rfl ⟨rfl, hL0.bl⟩

set_option maxHeartbeats 4000000 in
set_option maxRecDepth 100000 in
theorem byadd_false_true (m n k : Nat) (u : Bool) (H : ∀ w, Calls Tryz.prog 128 #[zV false m, natV n] w fun e w' => e = .returned (zV u k) ∧ Below w.heap.size w w') (w : World) :
    Calls Tryz.prog 126 #[zV false m, zV true n, .func (.func 127) #[] #[], .func (.func 128) #[] #[]] w fun e w' => e = .returned (zV u k) ∧ Below w.heap.size w w' := by
  have hL0 : GL w w [] := GL.start w
  replace H := Lib.hid H
  replace hL0 := (((hL0.new rfl [.int .u64 ((lo m : Nat) : Int), .string (hs m), .bool false] 39).new (K := w.heap.size + 1) (szA _ _) [.int .u64 ((lo n : Nat) : Int), .string (hs n), .bool true] 39).new (K := w.heap.size + 1 + 1) (by simp only [World.size_alloc]) [.int .u64 0, .string ⟨#[]⟩, .bool false] 39)
  generalize hweq : (((w.alloc (.cells #[.int .u64 ((lo m : Nat) : Int), .string (hs m), .bool false] 39)).alloc (.cells #[.int .u64 ((lo n : Nat) : Int), .string (hs n), .bool true] 39)).alloc (.cells #[.int .u64 0, .string ⟨#[]⟩, .bool false] 39)) = x1 at hL0
  go_enter Tryz.func126, Tryz.ntmps126
  have hA := hL0.fc
  simp only [fcG, cellsF, neK, and_true, ne_eq, Nat.zero_add, Nat.reduceAdd] at hA
  go_wp2_with fail
  clear hA
  with_reducible refine Calls.mono (H.out _) ?_
  rintro e x2 ⟨rfl, hb⟩
  replace hL0 := hL0.call hb
  clear hb hweq
  have hA := hL0.fc
  simp only [fcG, cellsF, neK, and_true, ne_eq, Nat.zero_add, Nat.reduceAdd] at hA
  have hP := hL0.put 0 (w.heap.size + 1 + 1) _ rfl [.int .u64 ((lo k : Nat) : Int), .string (hs k), .bool u] rfl
  simp only [setAll, List.set_cons_zero, List.set_cons_succ] at hP
  generalize hput1 : (((x2.setCell ⟨w.heap.size + 1 + 1, 0, none⟩ (.int .u64 ((lo k : Nat) : Int))).setCell ⟨w.heap.size + 1 + 1, 1, none⟩ (.string (hs k))).setCell ⟨w.heap.size + 1 + 1, 2, none⟩ (.bool u)) = x3 at hP
  have hB1 := hP.fc
  simp only [fcG, cellsF, neK, and_true, ne_eq, Nat.zero_add, Nat.reduceAdd] at hB1
  replace hL0 := hP
  go_wp2_with fail
  exact bodyPost_ret (v := zV u k) (by simp [results, Tryz.results126, go_sem, hB1]) rfl ⟨rfl, hL0.bl⟩

set_option maxHeartbeats 4000000 in
set_option maxRecDepth 100000 in
theorem byadd_false_false (m n k : Nat) (u : Bool) (H : ∀ w, Calls Tryz.prog 127 #[zV false m, natV n] w fun e w' => e = .returned (zV u k) ∧ Below w.heap.size w w') (w : World) :
    Calls Tryz.prog 126 #[zV false m, zV false n, .func (.func 127) #[] #[], .func (.func 128) #[] #[]] w fun e w' => e = .returned (zV u k) ∧ Below w.heap.size w w' := by
  have hL0 : GL w w [] := GL.start w
  replace H := Lib.hid H
  replace hL0 := (((hL0.new rfl [.int .u64 ((lo m : Nat) : Int), .string (hs m), .bool false] 39).new (K := w.heap.size + 1) (szA _ _) [.int .u64 ((lo n : Nat) : Int), .string (hs n), .bool false] 39).new (K := w.heap.size + 1 + 1) (by simp only [World.size_alloc]) [.int .u64 0, .string ⟨#[]⟩, .bool false] 39)
  generalize hweq : (((w.alloc (.cells #[.int .u64 ((lo m : Nat) : Int), .string (hs m), .bool false] 39)).alloc (.cells #[.int .u64 ((lo n : Nat) : Int), .string (hs n), .bool false] 39)).alloc (.cells #[.int .u64 0, .string ⟨#[]⟩, .bool false] 39)) = x1 at hL0
  go_enter Tryz.func126, Tryz.ntmps126
  have hA := hL0.fc
  simp only [fcG, cellsF, neK, and_true, ne_eq, Nat.zero_add, Nat.reduceAdd] at hA
  go_wp2_with fail
  clear hA
  with_reducible refine Calls.mono (H.out _) ?_
  rintro e x2 ⟨rfl, hb⟩
  replace hL0 := hL0.call hb
  clear hb hweq
  have hA := hL0.fc
  simp only [fcG, cellsF, neK, and_true, ne_eq, Nat.zero_add, Nat.reduceAdd] at hA
  have hP := hL0.put 0 (w.heap.size + 1 + 1) _ rfl [.int .u64 ((lo k : Nat) : Int), .string (hs k), .bool u] rfl
  simp only [setAll, List.set_cons_zero, List.set_cons_succ] at hP
  generalize hput1 : (((x2.setCell ⟨w.heap.size + 1 + 1, 0, none⟩ (.int .u64 ((lo k : Nat) : Int))).setCell ⟨w.heap.size + 1 + 1, 1, none⟩ (.string (hs k))).setCell ⟨w.heap.size + 1 + 1, 2, none⟩ (.bool u)) = x3 at hP
  have hB1 := hP.fc
  simp only [fcG, cellsF, neK, and_true, ne_eq, Nat.zero_add, Nat.reduceAdd] at hB1
  replace hL0 := hP
  go_wp2_with fail
  exact bodyPost_ret (v := zV u k) (by simp [results, Tryz.results126, go_sem, hB1]) rfl ⟨rfl, hL0.bl⟩

set_option maxHeartbeats 4000000 in
set_option maxRecDepth 100000 in
theorem bysub_true_true (m n k : Nat) (u : Bool) (H : ∀ w, Calls Tryz.prog 128 #[zV true m, natV n] w fun e w' => e = .returned (zV u k) ∧ Below w.heap.size w w') (w : World) :
    Calls Tryz.prog 126 #[zV true m, zV true n, .func (.func 128) #[] #[], .func (.func 127) #[] #[]] w fun e w' => e = .returned (zV u k) ∧ Below w.heap.size w w' := by
  have hL0 : GL w w [] := GL.start w
  replace H := Lib.hid H
  replace hL0 := (((hL0.new rfl [.int .u64 ((lo m : Nat) : Int), .string (hs m), .bool true] 39).new (K := w.heap.size + 1) (szA _ _) [.int .u64 ((lo n : Nat) : Int), .string (hs n), .bool true] 39).new (K := w.heap.size + 1 + 1) (by simp only [World.size_alloc]) [.int .u64 0, .string ⟨#[]⟩, .bool false] 39)
  generalize hweq : (((w.alloc (.cells #[.int .u64 ((lo m : Nat) : Int), .string (hs m), .bool true] 39)).alloc (.cells #[.int .u64 ((lo n : Nat) : Int), .string (hs n), .bool true] 39)).alloc (.cells #[.int .u64 0, .string ⟨#[]⟩, .bool false] 39)) = x1 at hL0
  go_enter Tryz.func126, Tryz.ntmps126
  have hA := hL0.fc
  simp only [fcG, cellsF, neK, and_true, ne_eq, Nat.zero_add, Nat.reduceAdd] at hA
  go_wp2_with fail
  clear hA
  with_reducible refine Calls.mono (H.out _) ?_
  rintro e x2 ⟨rfl, hb⟩
  replace hL0 := hL0.call hb
  clear hb hweq
  have hA := hL0.fc
  simp only [fcG, cellsF, neK, and_true, ne_eq, Nat.zero_add, Nat.reduceAdd] at hA
  have hP := hL0.put 0 (w.heap.size + 1 + 1) _ rfl [.int .u64 ((lo k : Nat) : Int), .string (hs k), .bool u] rfl
  simp only [setAll, List.set_cons_zero, List.set_cons_succ] at hP
  generalize hput1 : (((x2.setCell ⟨w.heap.size + 1 + 1, 0, none⟩ (.int .u64 ((lo k : Nat) : Int))).setCell ⟨w.heap.size + 1 + 1, 1, none⟩ (.string (hs k))).setCell ⟨w.heap.size + 1 + 1, 2, none⟩ (.bool u)) = x3 at hP
  have hB1 := hP.fc
  simp only [fcG, cellsF, neK, and_true, ne_eq, Nat.zero_add, Nat.reduceAdd] at hB1
  replace hL0 := hP
  go_wp2_with fail
  exact bodyPost_ret (v := zV u k) (by simp [results, Tryz.results126, go_sem, hB1]) rfl ⟨rfl, hL0.bl⟩

set_option maxHeartbeats 4000000 in
set_option maxRecDepth 100000 in
theorem bysub_true_false (m n k : Nat) (u : Bool) (H : ∀ w, Calls Tryz.prog 127 #[zV true m, natV n] w fun e w' => e = .returned (zV u k) ∧ Below w.heap.size w w') (w : World) :
    Calls Tryz.prog 126 #[zV true m, zV false n, .func (.func 128) #[] #[], .func (.func 127) #[] #[]] w fun e w' => e = .returned (zV u k) ∧ Below w.heap.size w w' := by
  have hL0 : GL w w [] := GL.start w
  replace H := Lib.hid H
  replace hL0 := (((hL0.new rfl [.int .u64 ((lo m : Nat) : Int), .string (hs m), .bool true] 39).new (K := w.heap.size + 1) (szA _ _) [.int .u64 ((lo n : Nat) : Int), .string (hs n), .bool false] 39).new (K := w.heap.size + 1 + 1) (by simp only [World.size_alloc]) [.int .u64 0, .string ⟨#[]⟩, .bool false] 39)
  generalize hweq : (((w.alloc (.cells #[.int .u64 ((lo m : Nat) : Int), .string (hs m), .bool true] 39)).alloc (.cells #[.int .u64 ((lo n : Nat) : Int), .string (hs n), .bool false] 39)).alloc (.cells #[.int .u64 0, .string ⟨#[]⟩, .bool false] 39)) = x1 at hL0
  go_enter Tryz.func126, Tryz.ntmps126
  have hA := hL0.fc
  simp only [fcG, cellsF, neK, and_true, ne_eq, Nat.zero_add, Nat.reduceAdd] at hA
  go_wp2_with fail
  clear hA
  with_reducible refine Calls.mono (H.out _) ?_
  rintro e x2 ⟨rfl, hb⟩
  replace hL0 := hL0.call hb
  clear hb hweq
  have hA := hL0.fc
  simp only [fcG, cellsF, neK, and_true, ne_eq, Nat.zero_add, Nat.reduceAdd] at hA
  have hP := hL0.put 0 (w.heap.size + 1 + 1) _ rfl [.int .u64 ((lo k : Nat) : Int), .string (hs k), .bool u] rfl
  simp only [setAll, List.set_cons_zero, List.set_cons_succ] at hP
  generalize hput1 : (((x2.setCell ⟨w.heap.size + 1 + 1, 0, none⟩ (.int .u64 ((lo k : Nat) : Int))).setCell ⟨w.heap.size + 1 + 1, 1, none⟩ (.string (hs k))).setCell ⟨w.heap.size + 1 + 1, 2, none⟩ (.bool u)) = x3 at hP
  have hB1 := hP.fc
  simp only [fcG, cellsF, neK, and_true, ne_eq, Nat.zero_add, Nat.reduceAdd] at hB1
  replace hL0 := hP
  go_wp2_with fail
  exact bodyPost_ret (v := zV u k) (by simp [results, Tryz.results126, go_sem, hB1]) rfl ⟨rfl, hL0.bl⟩

set_option maxHeartbeats 4000000 in
set_option maxRecDepth 100000 in
theorem bysub_false_true (m n k : Nat) (u : Bool) (H : ∀ w, Calls Tryz.prog 127 #[zV false m, natV n] w fun e w' => e = .returned (zV u k) ∧ Below w.heap.size w w') (w : World) :
    Calls Tryz.prog 126 #[zV false m, zV true n, .func (.func 128) #[] #[], .func (.func 127) #[] #[]] w fun e w' => e = .returned (zV u k) ∧ Below w.heap.size w w' := by
  have hL0 : GL w w [] := GL.start w
  replace H := Lib.hid H
  replace hL0 := (((hL0.new rfl [.int .u64 ((lo m : Nat) : Int), .string (hs m), .bool false] 39).new (K := w.heap.size + 1) (szA _ _) [.int .u64 ((lo n : Nat) : Int), .string (hs n), .bool true] 39).new (K := w.heap.size + 1 + 1) (by simp only [World.size_alloc]) [.int .u64 0, .string ⟨#[]⟩, .bool false] 39)
  generalize hweq : (((w.alloc (.cells #[.int .u64 ((lo m : Nat) : Int), .string (hs m), .bool false] 39)).alloc (.cells #[.int .u64 ((lo n : Nat) : Int), .string (hs n), .bool true] 39)).alloc (.cells #[.int .u64 0, .string ⟨#[]⟩, .bool false] 39)) = x1 at hL0
  go_enter Tryz.func126, Tryz.ntmps126
  have hA := hL0.fc
  simp only [fcG, cellsF, neK, and_true, ne_eq, Nat.zero_add, Nat.reduceAdd] at hA
  go_wp2_with fail
  clear hA
  with_reducible refine Calls.mono (H.out _) ?_
  rintro e x2 ⟨rfl, hb⟩
  replace hL0 := hL0.call hb
  clear hb hweq
  have hA := hL0.fc
  simp only [fcG, cellsF, neK, and_true, ne_eq, Nat.zero_add, Nat.reduceAdd] at hA
  have hP := hL0.put 0 (w.heap.size + 1 + 1) _ rfl [.int .u64 ((lo k : Nat) : Int), .string (hs k), .bool u] rfl
  simp only [setAll, List.set_cons_zero, List.set_cons_succ] at hP
  generalize hput1 : (((x2.setCell ⟨w.heap.size + 1 + 1, 0, none⟩ (.int .u64 ((lo k : Nat) : Int))).setCell ⟨w.heap.size + 1 + 1, 1, none⟩ (.string (hs k))).setCell ⟨w.heap.size + 1 + 1, 2, none⟩ (.bool u)) = x3 at hP
  have hB1 := hP.fc
  simp only [fcG, cellsF, neK, and_true, ne_eq, Nat.zero_add, Nat.reduceAdd] at hB1
  replace hL0 := hP
  go_wp2_with fail
  exact bodyPost_ret (v := zV u k) (by simp [results, Tryz.results126, go_sem, hB1]) rfl ⟨rfl, hL0.bl⟩

set_option maxHeartbeats 4000000 in
set_option maxRecDepth 100000 in
theorem bysub_false_false (m n k : Nat) (u : Bool) (H : ∀ w, Calls Tryz.prog 128 #[zV false m, natV n] w fun e w' => e = .returned (zV u k) ∧ Below w.heap.size w w') (w : World) :
    Calls Tryz.prog 126 #[zV false m, zV false n, .func (.func 128) #[] #[], .func (.func 127) #[] #[]] w fun e w' => e = .returned (zV u k) ∧ Below w.heap.size w w' := by
  have hL0 : GL w w [] := GL.start w
  replace H := Lib.hid H
  replace hL0 := (((hL0.new rfl [.int .u64 ((lo m : Nat) : Int), .string (hs m), .bool false] 39).new (K := w.heap.size + 1) (szA _ _) [.int .u64 ((lo n : Nat) : Int), .string (hs n), .bool false] 39).new (K := w.heap.size + 1 + 1) (by simp only [World.size_alloc]) [.int .u64 0, .string ⟨#[]⟩, .bool false] 39)
  generalize hweq : (((w.alloc (.cells #[.int .u64 ((lo m : Nat) : Int), .string (hs m), .bool false] 39)).alloc (.cells #[.int .u64 ((lo n : Nat) : Int), .string (hs n), .bool false] 39)).alloc (.cells #[.int .u64 0, .string ⟨#[]⟩, .bool false] 39)) = x1 at hL0
  go_enter Tryz.func126, Tryz.ntmps126
  have hA := hL0.fc
  simp only [fcG, cellsF, neK, and_true, ne_eq, Nat.zero_add, Nat.reduceAdd] at hA
  go_wp2_with fail
  clear hA
  with_reducible refine Calls.mono (H.out _) ?_
  rintro e x2 ⟨rfl, hb⟩
  replace hL0 := hL0.call hb
  clear hb hweq
  have hA := hL0.fc
  simp only [fcG, cellsF, neK, and_true, ne_eq, Nat.zero_add, Nat.reduceAdd] at hA
  have hP := hL0.put 0 (w.heap.size + 1 + 1) _ rfl [.int .u64 ((lo k : Nat) : Int), .string (hs k), .bool u] rfl
  simp only [setAll, List.set_cons_zero, List.set_cons_succ] at hP
  generalize hput1 : (((x2.setCell ⟨w.heap.size + 1 + 1, 0, none⟩ (.int .u64 ((lo k : Nat) : Int))).setCell ⟨w.heap.size + 1 + 1, 1, none⟩ (.string (hs k))).setCell ⟨w.heap.size + 1 + 1, 2, none⟩ (.bool u)) = x3 at hP
  have hB1 := hP.fc
  simp only [fcG, cellsF, neK, and_true, ne_eq, Nat.zero_add, Nat.reduceAdd] at hB1
  replace hL0 := hP
  go_wp2_with fail
  exact bodyPost_ret (v := zV u k) (by simp [results, Tryz.results126, go_sem, hB1]) rfl ⟨rfl, hL0.bl⟩

set_option maxHeartbeats 4000000 in
set_option maxRecDepth 100000 in
theorem iadd (s t u : Bool) (m n k : Nat) (H : ∀ w, Calls Tryz.prog 126 #[zV s m, zV t n, .func (.func 127) #[] #[], .func (.func 128) #[] #[]] w fun e w' => e = .returned (zV u k) ∧ Below w.heap.size w w') (w : World) :
    Calls Tryz.prog 31 #[zV s m, zV t n] w fun e w' => e = .returned (zV u k) ∧ Below w.heap.size w w' := by
  have hL0 : GL w w [] := GL.start w
  replace H := Lib.hid H
  replace hL0 := (((hL0.new rfl [.int .u64 ((lo m : Nat) : Int), .string (hs m), .bool s] 39).new (K := w.heap.size + 1) (szA _ _) [.int .u64 ((lo n : Nat) : Int), .string (hs n), .bool t] 39).new (K := w.heap.size + 1 + 1) (by simp only [World.size_alloc]) [.int .u64 0, .string ⟨#[]⟩, .bool false] 39)
  generalize hweq : (((w.alloc (.cells #[.int .u64 ((lo m : Nat) : Int), .string (hs m), .bool s] 39)).alloc (.cells #[.int .u64 ((lo n : Nat) : Int), .string (hs n), .bool t] 39)).alloc (.cells #[.int .u64 0, .string ⟨#[]⟩, .bool false] 39)) = x1 at hL0
  go_enter Tryz.func31, Tryz.ntmps31
  have hA := hL0.fc
  simp only [fcG, cellsF, neK, and_true, ne_eq, Nat.zero_add, Nat.reduceAdd] at hA
  go_wp2_with fail
  clear hA
  with_reducible refine Calls.mono (H.out _) ?_
  rintro e x2 ⟨rfl, hb⟩
  replace hL0 := hL0.call hb
  clear hb hweq
  have hA := hL0.fc
  simp only [fcG, cellsF, neK, and_true, ne_eq, Nat.zero_add, Nat.reduceAdd] at hA
  have hP := hL0.put 0 (w.heap.size + 1 + 1) _ rfl [.int .u64 ((lo k : Nat) : Int), .string (hs k), .bool u] rfl
  simp only [setAll, List.set_cons_zero, List.set_cons_succ] at hP
  generalize hput1 : (((x2.setCell ⟨w.heap.size + 1 + 1, 0, none⟩ (.int .u64 ((lo k : Nat) : Int))).setCell ⟨w.heap.size + 1 + 1, 1, none⟩ (.string (hs k))).setCell ⟨w.heap.size + 1 + 1, 2, none⟩ (.bool u)) = x3 at hP
  have hB1 := hP.fc
  simp only [fcG, cellsF, neK, and_true, ne_eq, Nat.zero_add, Nat.reduceAdd] at hB1
  replace hL0 := hP
  go_wp2_with fail
  exact bodyPost_ret (v := zV u k) (by simp [results, Tryz.results31, go_sem, hB1]) rfl ⟨rfl, hL0.bl⟩

set_option maxHeartbeats 4000000 in
set_option maxRecDepth 100000 in
theorem isub (s t u : Bool) (m n k : Nat) (H : ∀ w, Calls Tryz.prog 126 #[zV s m, zV t n, .func (.func 128) #[] #[], .func (.func 127) #[] #[]] w fun e w' => e = .returned (zV u k) ∧ Below w.heap.size w w') (w : World) :
    Calls Tryz.prog 33 #[zV s m, zV t n] w fun e w' => e = .returned (zV u k) ∧ Below w.heap.size w w' := by
  have hL0 : GL w w [] := GL.start w
  replace H := Lib.hid H
  replace hL0 := (((hL0.new rfl [.int .u64 ((lo m : Nat) : Int), .string (hs m), .bool s] 39).new (K := w.heap.size + 1) (szA _ _) [.int .u64 ((lo n : Nat) : Int), .string (hs n), .bool t] 39).new (K := w.heap.size + 1 + 1) (by simp only [World.size_alloc]) [.int .u64 0, .string ⟨#[]⟩, .bool false] 39)
  generalize hweq : (((w.alloc (.cells #[.int .u64 ((lo m : Nat) : Int), .string (hs m), .bool s] 39)).alloc (.cells #[.int .u64 ((lo n : Nat) : Int), .string (hs n), .bool t] 39)).alloc (.cells #[.int .u64 0, .string ⟨#[]⟩, .bool false] 39)) = x1 at hL0
  go_enter Tryz.func33, Tryz.ntmps33
  have hA := hL0.fc
  simp only [fcG, cellsF, neK, and_true, ne_eq, Nat.zero_add, Nat.reduceAdd] at hA
  go_wp2_with fail
  clear hA
  with_reducible refine Calls.mono (H.out _) ?_
  rintro e x2 ⟨rfl, hb⟩
  replace hL0 := hL0.call hb
  clear hb hweq
  have hA := hL0.fc
  simp only [fcG, cellsF, neK, and_true, ne_eq, Nat.zero_add, Nat.reduceAdd] at hA
  have hP := hL0.put 0 (w.heap.size + 1 + 1) _ rfl [.int .u64 ((lo k : Nat) : Int), .string (hs k), .bool u] rfl
  simp only [setAll, List.set_cons_zero, List.set_cons_succ] at hP
  generalize hput1 : (((x2.setCell ⟨w.heap.size + 1 + 1, 0, none⟩ (.int .u64 ((lo k : Nat) : Int))).setCell ⟨w.heap.size + 1 + 1, 1, none⟩ (.string (hs k))).setCell ⟨w.heap.size + 1 + 1, 2, none⟩ (.bool u)) = x3 at hP
  have hB1 := hP.fc
  simp only [fcG, cellsF, neK, and_true, ne_eq, Nat.zero_add, Nat.reduceAdd] at hB1
  replace hL0 := hP
  go_wp2_with fail
  exact bodyPost_ret (v := zV u k) (by simp [results, Tryz.results33, go_sem, hB1]) rfl ⟨rfl, hL0.bl⟩

end Go.Proofs.YtecdnohhengfaaaGreatDoor
