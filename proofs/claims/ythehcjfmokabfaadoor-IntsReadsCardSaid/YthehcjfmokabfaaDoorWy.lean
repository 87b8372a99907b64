/-
  Layer 1, walks Y: Text.
-/
import Derived.Test.YthehcjfmokabfaaDoorWu
import Derived.Test.YthehcjfmokabfaaDoorWw
import Derived.Test.YthehcjfmokabfaaDoorWx
import Derived.Deep.AppendLies
set_option linter.unusedVariables false
set_option linter.unusedSimpArgs false
namespace Go.Proofs.YthehcjfmokabfaaDoor
open Go.RowKit
attribute [local irreducible] lo hs sm s64 c64 d64 b64 mh ml pd pc qd qc val hiB str cmpI srD lz nb isq

/-- The text of a number, as a value. -/
def txt (n : Nat) : ByteArray := ⟨(Lib.decDigits n).toArray⟩

set_option maxHeartbeats 2000000 in
set_option maxRecDepth 100000 in
theorem text_small (n : Nat) (h : n < Bs) (w : World) (htab : Tab w) :
    Calls Tryd.prog 29 #[natV n] w fun e w' => e = .returned (.string (txt n)) ∧ Below w.heap.size w w' := by
  obtain ⟨w0, hw0, hA, hb0, hsz0⟩ := boxes1 w (.int .u64 ((lo n : Nat) : Int)) (.string (hs n)) 25
  obtain ⟨a0, a1, af⟩ := id hA
  have HS := Lib.hid (fun w => small_any n w)
  have HF := Lib.hid (fun w ht => fmt_any (lo n) (lo_lt n) w ht)
  have hsm : sm n = true := sm_true.2 h
  rw [hsm] at HS
  have HL := Lib.hid (lo_small h)
  have ht0 : Tab w0 := htab.below hb0
  go_enter Tryd.func29, Tryd.ntmps29
  go_wp2_with fail
  refine (HS.out _).mono ?_
  rintro e w1 ⟨rfl, hb1⟩
  obtain ⟨c0, c1, cf⟩ := hA.below hb1 hsz0
  have ht1 := Lib.hid (ht0.below hb1)
  clear a0 a1 af hA ht0
  go_wp2_with fail
  refine (HF.out _ ht1.out).mono ?_
  rintro e w2 ⟨rfl, hb2⟩
  go_wp2_with fail
  have e : txt n = ⟨(Lib.decDigits (lo n)).toArray⟩ := by unfold txt; rw [HL.out]
  have s0 := hb0.size
  have s1 := hb1.size
  exact bodyPost_ret (v := .string (txt n)) (by simp [results, Tryd.results29, go_sem, e]) rfl ⟨rfl, (hb0.trans (hb1.mono s0)).trans (hb2.mono (by omega))⟩

/-- The length of a slice, out of its value. -/
def sLen : Value → Nat
  | .slice _ n _ => n
  | _ => 0

def chunkV (a j : Nat) : Value := .int .u64 ((a / CB ^ j % CB : Nat) : Int)
def chunksV (a k : Nat) : List Value := (List.range k).map (chunkV a)
theorem chunksV_length (a k : Nat) : (chunksV a k).length = k := by simp [chunksV]
theorem chunksV_succ (a k : Nat) : chunksV a (k + 1) = chunksV a k ++ [chunkV a k] := by simp [chunksV, List.range_succ]
theorem chunksV_at (a k j : Nat) (h : j < k) : (chunksV a k)[j]? = some (chunkV a j) := by simp [chunksV, h]

theorem infoU64 : (Tryd.prog.info? 23).map (fun i => (i.zero, i.size, i.bytes)) = some (some (.int .u64 0), 1, 8) := by kernel_rfl

/-- The chunks of the number, in a row of the call's own. -/
def Ch (w : World) (B a : Nat) (ch : Value) (k : Nat) : Prop := w.ownsRow B 23 1 ch k (chunksV a k)

theorem Ch.form {w : World} {B a k : Nat} {ch : Value} (h : Ch w B a ch k) : ∃ ao c, ch = .slice ao k c := by
  rcases h.2 with ⟨rfl, rfl⟩ | ⟨g, c, cur, rfl, _⟩
  · exact ⟨_, _, rfl⟩
  · exact ⟨_, _, rfl⟩
theorem Ch.keep {w w' : World} {B a k : Nat} {ch : Value} (h : Ch w B a ch k) {row : Option Nat} (hg : w.grownBy w' row) (hne : ch.ownBlock = none ∨ ch.ownBlock ≠ row) : Ch w' B a ch k := World.ownsRow.kept h hg hne

theorem below_none {w w' : World} (h : Below w.heap.size w w') : w.grownBy w' none := ⟨h.os, h.tape, h.output, h.size, fun k hk _ => h.block k hk⟩
theorem Ch.below {w w' : World} {B a k : Nat} {ch : Value} (h : Ch w B a ch k) (hb : Below w.heap.size w w') : Ch w' B a ch k := by
  refine h.keep (below_none hb) ?_
  rcases Ch.form h with ⟨ao, c, rfl⟩
  cases ao with
  | none => exact .inl rfl
  | some a => exact .inr (by simp [Value.ownBlock])

theorem chunk_bound {a top L : Nat} (hl : (digs a).length ≤ L) (h : 0 < a / CB ^ top) : top ≤ 2 * L := by
  have h1 : CB ^ top ≤ a := by
    rcases Nat.lt_or_ge a (CB ^ top) with h' | h'
    · rw [Nat.div_eq_of_lt h'] at h; omega
    · exact h'
  have h2 := digs_length_iff.1 hl
  have h3 : Bs ^ L ≤ CB ^ (2 * L) := by
    rw [Nat.pow_mul]
    exact Nat.pow_le_pow_left (by unfold Bs CB; decide) L
  have h4 : CB ^ top < CB ^ (2 * L) := Nat.lt_of_le_of_lt h1 (Nat.lt_of_lt_of_le h2 h3)
  exact Nat.le_of_lt ((Nat.pow_lt_pow_iff_right CB_gt).1 h4)

theorem divC (g c q : Nat) (Z : List Nat) (hq : (digs q).length ≤ 1000000) (w : World) (hdb : DB w g (digs q ++ Z)) :
    Calls Tryd.prog 47 #[.slice (some ⟨g, 0, none⟩) (digs q).length c, .int .u64 10000000000000000000] w fun e w' =>
      e = .returned (.int .u64 ((q % CB : Nat) : Int)) ∧ ∃ (Z' : List Nat) (Q : List Nat), Q.length = (digs q).length ∧ Dig Q ∧ val Q = q / CB ∧ DB w' g (Q ++ Z) ∧ DB w' g (digs (q / CB) ++ Z') ∧ w.grownBy w' (some g) := by
  refine (divD g c q CB Z CB_pos (by unfold CB Bs; omega) (by omega) w hdb).mono ?_
  rintro e w' ⟨rfl, Q, h1, h2, h3, h4, h5⟩
  obtain ⟨z, hz⟩ := norm Q h2
  refine ⟨rfl, List.replicate z 0 ++ Z, Q, h1, h2, h3, h4, ?_, h5⟩
  rw [← List.append_assoc, ← h3, ← hz]; exact h4

theorem trimQ (g c n q : Nat) (Q Z : List Nat) (hl : Q.length = n) (hd : Dig Q) (hv : val Q = q) (hn : n ≤ 1000000) (hc : n ≤ c) (w : World) (hdb : DB w g (Q ++ Z)) :
    Calls Tryd.prog 53 #[.slice (some ⟨g, 0, none⟩) n c] w fun e w' => e = .returned (.slice (some ⟨g, 0, none⟩) (digs q).length c) ∧ w = w' := by
  subst hl; subst hv
  exact trim_any g 0 c Q hd (by unfold maxLen; omega) hc w hdb.rdl

theorem chunk_zero {a k K : Nat} (hK : 0 < a / CB ^ (K - 1)) (hk : k < K) : 0 < a / CB ^ k :=
  Nat.lt_of_lt_of_le hK (Nat.div_le_div_left (Nat.pow_le_pow_right CB_pos (by omega)) (Nat.pow_pos CB_pos))

/-- The row of the chunks, as it lies. -/
def CR (w : World) (gC a K : Nat) : Prop := ∃ cur : Array Value, w.heap[gC]? = some (.cells cur 23 (0, 0)) ∧ ∀ j, j < K → cur[j]? = some (chunkV a j)
theorem CR.cell {w : World} {gC a K : Nat} (h : CR w gC a K) (j : Nat) (hj : j < K) : w.cell? ⟨gC, j, none⟩ = some (.int .u64 ((a / CB ^ j % CB : Nat) : Int)) := by
  obtain ⟨cur, h1, h2⟩ := h
  rw [cell_of_row w gC j cur _ _ h1, h2 j hj]; rfl
theorem CR.below {w w' : World} {gC a K B : Nat} (h : CR w gC a K) (hb : Below B w w') (hg : gC < B) : CR w' gC a K := by
  obtain ⟨cur, h1, h2⟩ := h
  exact ⟨cur, (hb.block gC hg).trans h1, h2⟩
theorem Ch.row {w : World} {B a k : Nat} {ch : Value} (h : Ch w B a ch k) (hk : 0 < k) : ∃ gC c, ch = .slice (some ⟨gC, 0, none⟩) k c ∧ gC < w.heap.size ∧ CR w gC a k := by
  obtain ⟨h1, h2⟩ := h
  rcases h2 with ⟨_, rfl⟩ | ⟨g, c, cur, rfl, hb, hg, hnc, hcm, hcs, ht⟩
  · omega
  · refine ⟨g, c, rfl, (Array.getElem?_eq_some_iff.1 hg).1, cur, hg, fun j hj => ?_⟩
    rw [Nat.mul_one] at ht
    have h3 := congrArg (fun l : List Value => l[j]?) ht
    simp only [chunksV_at a k j hj, List.getElem?_take, if_pos hj] at h3
    simpa using h3

theorem bf_below {B b : Nat} {bs : List Value} {w w' : World} (h : Lib.IsBuilderF 98 5 B b bs w) (hb : Below w.heap.size w w') : Lib.IsBuilderF 98 5 B b bs w' := by
  have key : ∀ p, Lib.BuilderAtF 98 5 B b p bs w → Lib.BuilderAtF 98 5 B b p bs w' := by
    intro p h
    have hlt := h.lt
    obtain ⟨hB, v, hbk, hown, hne⟩ := h
    refine ⟨hB, v, (hb.block b hlt).trans hbk, hown.kept (row := none) (below_none hb) ?_, hne⟩
    cases v.ownBlock with
    | none => exact .inl rfl
    | some x => exact .inr (by simp)
  rcases h with h | h
  · exact .inl (key _ h)
  · exact .inr (key _ h)

theorem write_l (B b : Nat) (l m : List UInt8) (w : World) (h : Lib.IsBuilderF 98 5 B b (Lib.byteCells l) w) (hlen : l.length + m.length ≤ 140737488355328) (hBw : B ≤ w.heap.size) :
    Calls Tryd.prog 54 #[.pointer (some ⟨b, 0, none⟩), .string ⟨m.toArray⟩] w fun e w' => e = .returned (.tuple #[.int .i64 m.length, .nilIface]) ∧ Lib.IsBuilderF 98 5 B b (Lib.byteCells (l ++ m)) w' ∧ Below B w w' := by
  refine (write_any B b (Lib.byteCells l) ⟨m.toArray⟩ w h (by rw [Lib.byteCells_length]; exact hlen) hBw).mono ?_
  rintro e w' ⟨rfl, h1, h2, -⟩
  refine ⟨rfl, ?_, h2⟩
  rw [Lib.byteCells_append]; exact h1

theorem dec_len_bound {n L : Nat} (hl : (digs n).length ≤ L) (hL : 0 < L) : (Lib.decDigits n).length ≤ 20 * L := by
  refine (dec_length_lt (by omega)).2 ?_
  refine Nat.lt_of_lt_of_le (digs_length_iff.1 hl) ?_
  rw [Nat.pow_mul]
  exact Nat.pow_le_pow_left (by unfold Bs; decide) L

theorem chunk_last {a top : Nat} (hend : a / CB ^ (top + 1) = 0) : a / CB ^ top % CB = a / CB ^ top := by
  have := chunk_split a top
  rw [hend, Nat.zero_mul, Nat.zero_add] at this
  exact this.symm

set_option maxHeartbeats 2000000 in
set_option maxRecDepth 100000 in
theorem text_big (a : Nat) (h : ¬ a < Bs) (hl : (digs a).length ≤ 1000000) (w : World) (htab : Tab w) :
    Calls Tryd.prog 29 #[natV a] w fun e w' => e = .returned (.string (txt a)) ∧ Below w.heap.size w w' := by
  obtain ⟨w0, hw0, hA, hb0, hsz0⟩ := boxes1 w (.int .u64 ((lo a : Nat) : Int)) (.string (hs a)) 25
  obtain ⟨a0, a1, af⟩ := id hA
  have HS := Lib.hid (fun w => small_any a w)
  have hsm : sm a = false := sm_false.2 (by omega)
  rw [hsm] at HS
  have HD := Lib.hid (fun w => digits_any a (by omega) w)
  have ht0 : Tab w0 := htab.below hb0
  clear hsm
  go_enter Tryd.func29, Tryd.ntmps29
  go_wp2_with fail
  refine (HS.out _).mono ?_
  rintro e w1 ⟨rfl, hb1⟩
  obtain ⟨c0, c1, cf⟩ := hA.below hb1 hsz0
  have ht1 := ht0.below hb1
  have hB1 := hb0.trans (hb1.mono hb0.size)
  have hs1 := Nat.lt_of_lt_of_le hsz0 hb1.size
  clear a0 a1 af hA ht0 HS hb0 hb1 hw0 hsz0
  go_wp2_with fail
  refine (HD.out _).mono ?_
  rintro e w2 ⟨g, c, z, rfl, hc, hg, hd, hb2⟩
  have ht2 := ht1.below hb2
  have hB2 := hB1.trans (hb2.mono (by omega))
  have hs2 := Nat.lt_of_lt_of_le hs1 hb2.size
  clear c0 c1 cf ht1 HD hb2 hB1
  obtain ⟨top, htop, hend⟩ := chunk_top a (by unfold Bs at h; omega)
  obtain ⟨i0, hi, hz0, hz1, hz2⟩ := info_parts infoU64
  have htb : top ≤ 2 * 1000000 := chunk_bound hl htop
  have hg0 : w.heap.size ≤ g := by omega
  clear h hg
  go_wp2_with fail
  go_loopw [3, 4] (fun ch d wr => ∃ (k gD cD : Nat) (Z : List Nat), k ≤ top + 1 ∧ d = .slice (some ⟨gD, 0, none⟩) (digs (a / CB ^ k)).length cD ∧ (digs (a / CB ^ k)).length ≤ cD ∧ DB wr gD (digs (a / CB ^ k) ++ Z) ∧ Ch wr w.heap.size a ch k ∧ ch.ownBlock ≠ some gD ∧ Below w.heap.size w wr ∧ w.heap.size ≤ gD) (fun ch _ _ => top + 1 - sLen ch)
  case atStart =>
    refine ⟨0, g, c, List.replicate z 0, Nat.zero_le _, ?_, ?_, ?_, ⟨rfl, .inl ⟨rfl, rfl⟩⟩, by simp [Value.ownBlock], hB2, hg0⟩
    · rw [Nat.pow_zero, Nat.div_one]
    · rw [Nat.pow_zero, Nat.div_one]; exact hc
    · rw [Nat.pow_zero, Nat.div_one]; exact hd
  case round =>
    obtain ⟨k, gD, cD, Z, hk, rfl, hcD, hdD, hch, hne, hBr, hgD⟩ := hrel
    clear hd hg0 ht2 hB2 hs2 hc
    obtain ⟨ao, cc, rfl⟩ := hch.form
    obtain ⟨q, hq⟩ : ∃ q, q = a / CB ^ k := ⟨_, rfl⟩
    have hlq : (digs q).length ≤ 1000000 := by rw [hq]; exact Nat.le_trans (digs_mono (Nat.div_le_self _ _)) hl
    rw [← hq] at hcD hdD
    have hq0 : q = 0 → k = top + 1 := by
      intro h0
      rcases Nat.lt_or_ge k (top + 1) with h' | h'
      · have := chunk_zero (K := top + 1) (by rw [Nat.add_sub_cancel]; exact htop) h'
        omega
      · omega
    have hq1 : 0 < q → k ≤ top := by
      intro h0
      rcases Nat.lt_or_ge top k with h' | h'
      · obtain rfl : k = top + 1 := by omega
        omega
      · exact h'
    rw [← hq]
    have HQ := Lib.hid hq
    clear hq
    rcases Nat.eq_zero_or_pos q with h0 | h0
    · obtain rfl := hq0 h0
      subst h0
      obtain ⟨gC, cC, hcc, hgC, hCR⟩ := hch.row (Nat.succ_pos top)
      have hcc1 : ao = some ⟨gC, 0, none⟩ ∧ cc = cC := by simpa using hcc
      obtain ⟨rfl, rfl⟩ := hcc1
      have hd0 : digs 0 = [] := digs_zero
      have hl0 : decide (0 < (digs 0).length) = false := by rw [hd0]; rfl
      clear hq0 hq1 hch hcc hdD hcD HQ hne hi hz0 hz1 hz2
      have hcell := hCR.cell top (by omega)
      rw [chunk_last hend] at hcell
      obtain ⟨m, hm⟩ : ∃ m, m = a / CB ^ top := ⟨_, rfl⟩
      have hmB : m < Bs := by rw [hm, ← chunk_last hend]; exact Nat.lt_trans (Nat.mod_lt _ CB_pos) (by unfold CB Bs; omega)
      have hla := dec_len_bound hl (by omega)
      have hlm : (Lib.decDigits m).length ≤ 20 * 1000000 := dec_len_bound (by rw [hm]; exact Nat.le_trans (digs_mono (Nat.div_le_self _ _)) hl) (by omega)
      rw [← hm] at hcell
      obtain ⟨wb, hwb⟩ : ∃ wb, wr.alloc (.cells #[.pointer none, .slice none 0 0] 98) = wb := ⟨_, rfl⟩
      have hbb : Below wr.heap.size wr wb := by rw [← hwb]; exact (Below.refl _ _).alloc (Nat.le_refl _) _
      have hIB : Lib.IsBuilderF 98 5 wr.heap.size wr.heap.size (Lib.byteCells []) wb := by rw [← hwb]; exact Lib.IsBuilderF.of (Lib.fresh_isBuilder _ _ wr)
      have hsb : wr.heap.size < wb.heap.size := by rw [← hwb]; simp
      have hcb := (hbb.cell (p := ⟨gC, top, none⟩) hgC).trans hcell
      have HM := Lib.hid hm
      have htr := Lib.hid (htab.below hBr)
      have htb' := Lib.hid (htr.out.below hbb)
      have HF := Lib.hid (fun w ht => fmt_any m hmB w ht)
      clear hm hcell hd0
      go_wp2_with fail
      with_reducible refine Calls.mono (HF.out _ htb'.out) ?_
      rintro e w3 ⟨rfl, hb3⟩
      have hB3 := hbb.trans (hb3.mono hbb.size)
      have hI3 := bf_below hIB hb3
      have hs3 := hB3.size
      have HW := Lib.hid (write_l wr.heap.size wr.heap.size [] (Lib.decDigits m) w3 hI3 (by simp; omega) hs3)
      clear HF hI3 hIB hb3 hbb hwb hcb hsb hl0
      go_wp2_with fail
      with_reducible refine Calls.mono HW.out ?_
      rintro e w4 ⟨rfl, hI4, hb4⟩
      have hB4 := hB3.trans hb4
      have hs4 := hB4.size
      rw [List.nil_append, HM.out] at hI4
      clear HW hB3 hb4 hs3 hlm hmB HM htb'
      go_wp2_with fail
      go_loopw [36] (fun z wx => ∃ i : Nat, i ≤ top ∧ z = .int .i64 i ∧ Lib.IsBuilderF 98 5 wr.heap.size wr.heap.size (Lib.byteCells (Lib.decDigits (a / CB ^ (top - i)))) wx ∧ Below wr.heap.size wr wx) (fun z _ => top - (intOf z).toNat)
      case atStart => exact ⟨0, Nat.zero_le _, rfl, hI4, hB4⟩
      case round =>
        obtain ⟨i, hi, rfl, hIx, hBx⟩ := hrel
        clear hI4 hB4 hs4
        have hsx := hBx.size
        rcases Nat.lt_or_eq_of_le hi with hiT | rfl
        · have hdec := chunk_dec a (top - 1 - i) (by rw [show top - 1 - i + 1 = top - i by omega]; exact chunk_zero (K := top + 1) (by rw [Nat.add_sub_cancel]; exact htop) (by omega))
          rw [show top - 1 - i + 1 = top - i by omega] at hdec
          have hc := (hCR.below hBx hgC).cell (top - 1 - i) (by omega)
          have hlN : (Lib.decDigits (a / CB ^ (top - 1 - i))).length ≤ 20 * 1000000 := dec_len_bound (Nat.le_trans (digs_mono (Nat.div_le_self _ _)) hl) (by omega)
          have huB : a / CB ^ (top - 1 - i) % CB < Bs := Nat.lt_trans (Nat.mod_lt _ CB_pos) (by unfold CB Bs; omega)
          obtain ⟨u, hu⟩ : ∃ u, u = a / CB ^ (top - 1 - i) % CB := ⟨_, rfl⟩
          rw [← hu] at hdec hc huB
          obtain ⟨nx, hnx⟩ : ∃ nx, nx = a / CB ^ (top - 1 - i) := ⟨_, rfl⟩
          obtain ⟨pv, hpv⟩ : ∃ pv, pv = a / CB ^ (top - i) := ⟨_, rfl⟩
          rw [← hnx, ← hpv] at hdec
          rw [← hnx] at hlN
          rw [← hpv] at hIx
          have HN := Lib.hid hnx
          clear hu hnx hpv
          obtain ⟨hdec, hlu⟩ := hdec
          rw [hdec, List.length_append, List.length_append, List.length_replicate] at hlN
          have HDec := Lib.hid hdec
          clear hdec
          have HF := Lib.hid (fun w ht => fmt_any u huB w ht)
          have htx := Lib.hid (htr.out.below (hBx))
          have hlu2 : (19 : Int) - ((Lib.decDigits u).length : Int) = ((19 - (Lib.decDigits u).length : Nat) : Int) := by omega
          have HR := Lib.hid (fun w => rep0_any (19 - (Lib.decDigits u).length) (by omega) w)
          obtain ⟨zl, hzl⟩ : ∃ zl, zl = 19 - (Lib.decDigits u).length := ⟨_, rfl⟩
          rw [← hzl] at HR hlu2 hlN HDec
          obtain ⟨rp, hrp⟩ : ∃ rp, rp = List.replicate zl (48 : UInt8) := ⟨_, rfl⟩
          have hrl : rp.length = zl := by rw [hrp, List.length_replicate]
          rw [← hrp] at HR HDec
          clear hrp
          go_wp2_with fail
          with_reducible refine Calls.mono (HF.out _ htx.out) ?_
          rintro e w5 ⟨rfl, hb5⟩
          have hI5 := bf_below hIx hb5
          have hB5 := hBx.trans (hb5.mono hsx)
          have hs5 := hB5.size
          clear HF hIx hb5 hBx hsx hc htx hzl hlu
          obtain ⟨su, hsu⟩ : ∃ su, su = Lib.decDigits u := ⟨_, rfl⟩
          rw [← hsu] at hlu2 hlN HDec ⊢
          have hsl : (⟨su.toArray⟩ : ByteArray).size = su.length := rfl
          clear hsu
          go_wp2_with fail
          with_reducible refine Calls.mono (HR.out _) ?_
          rintro e w6 ⟨rfl, hb6⟩
          have hI6 := bf_below hI5 hb6
          have hB6 := hB5.trans (hb6.mono hs5)
          have hs6 := hB6.size
          have HW6 := Lib.hid (write_l _ _ (Lib.decDigits pv) rp w6 hI6 (by omega) hs6)
          clear HR hI5 hb6 hB5 hs5 hlu2
          go_wp2_with fail
          with_reducible refine Calls.mono HW6.out ?_
          rintro e w7 ⟨rfl, hI7, hb7⟩
          have hB7 := hB6.trans hb7
          have hs7 := hB7.size
          have HW7 := Lib.hid (write_l _ _ (Lib.decDigits pv ++ rp) su w7 hI7 (by rw [List.length_append]; omega) hs7)
          clear HW6 hI6 hb7 hB6 hs6
          go_wp2_with fail
          with_reducible refine Calls.mono HW7.out ?_
          rintro e w8 ⟨rfl, hI8, hb8⟩
          have hB8 := hB7.trans hb8
          rw [List.append_assoc, ← HDec.out, HN.out, show top - 1 - i = top - (i + 1) by omega] at hI8
          clear HW7 hI7 hb8 hB7 hs7
          go_wp2_with fail
          go_roundw
          case rel => exact ⟨i + 1, by omega, rfl, hI8, hB8⟩
          case measure => simp [intOf]; omega
        · rw [Nat.sub_self, Nat.pow_zero, Nat.div_one] at hIx
          have HS := Lib.hid (Tryd.Builder_String_any_k _ _ _ _ hIx hsx)
          go_wp2_with fail
          with_reducible refine Calls.mono HS.out ?_
          rintro e w5 ⟨rfl, -, hb5, -⟩
          have hB5 := hBx.trans hb5
          go_wp2_with fail
          exact bodyPost_ret (v := .string (txt a)) (by simp [results, Tryd.results29, go_sem, txt]) rfl ⟨rfl, hBr.trans (hB5.mono hBr.size)⟩
    · have hkt : k ≤ top := hq1 h0
      have hlp : 0 < (digs q).length := by rw [digs_pos (by omega)]; exact Nat.succ_pos _
      have hlp1 : decide ((0 : Int) < ((digs q).length : Int)) = true := decide_eq_true (by omega)
      have HDv := Lib.hid (fun w h => divC gD cD q Z hlq w h)
      have hlp2 : decide (0 < (digs q).length) = true := decide_eq_true hlp
      clear hlp hq0 hq1
      go_wp2_with fail
      with_reducible refine Calls.mono (HDv.out _ hdD) ?_
      rintro e w3 ⟨rfl, Z', Q, hQ1, hQ2, hQ3, hQ4, hQ5, hg3⟩
      have hch3 := hch.keep hg3 (.inr hne)
      have hB3 : Below w.heap.size w w3 := hBr.grown hg3 hBr.size (fun k hk => by obtain rfl := Option.some.inj hk; exact hgD)
      have hs3 := hB3.size
      have hlt3 := hQ4.lt
      have hr : chunkV a k = .int .u64 ((q % CB : Nat) : Int) := by rw [HQ.out]; rfl
      obtain ⟨r, hrr⟩ : ∃ r, r = q % CB := ⟨_, rfl⟩
      rw [← hrr] at hr ⊢
      clear HDv hdD hch hrr
      have HR := Lib.hid hr
      clear hr
      go_wp2_with (at_builtin; refine wpList_append_lies _ rfl (.tmp 21) (.tmp 24) 81 rfl w.heap.size 23 i0 (.int .u64 0) 1 8 Tryd.underlying81 hi hz0 hz1 hz2 rfl (by decide) (.slice ao k cc) k (chunksV a k) (by rfl) (World.ownsRow.alloc hch3 _) ⟨w3.heap.size, 0, none⟩ 1 1 [.int .u64 (r : Int)] (by rfl) rfl (World.news_of_block (heap_alloc_new w3 _)) (by simp [Value.oneCell']) (by decide) (by unfold maxLen; omega) (by omega) (by simp; omega) (w3.heap.size + 1) (by simp) ?_)
      rintro g4 cap4 w4 hown4 hgrow4 hat4 hlt4
      have hch4 : Ch w4 w.heap.size a (.slice (some ⟨g4, 0, none⟩) (k + 1) cap4) (k + 1) := by
        unfold Ch
        rw [chunksV_succ, HR.out]; exact hown4
      have hB4 : Below w.heap.size w w4 := (hB3.alloc hs3 _).grown hgrow4 (by simp; omega) (fun k' hk' => (World.ownsRow.lt hch3 k' hk').1)
      have hd4 : ∀ l, DB w3 gD l → DB w4 gD l := fun l h => h.keep ((hgrow4.block gD (by simp; omega) (Ne.symm hne)).trans (heap_alloc_old w3 _ hlt3))
      have hne4 : (Value.slice (some ⟨g4, 0, none⟩) (k + 1) cap4).ownBlock ≠ some gD := by
        rcases hat4 with h' | h'
        · rw [h'] at hne; exact hne
        · simp only [Value.ownBlock, h']
          intro he
          have := Option.some.inj he
          omega
      have hQ4' := hd4 _ hQ4
      have hQ5' := hd4 _ hQ5
      clear hch3 hB3 hgrow4 hat4 hown4 hd4 hQ4 hQ5 hg3
      have HTr := Lib.hid (trimQ gD cD (digs q).length (q / CB) Q Z hQ1 hQ2 hQ3 hlq hcD w4 hQ4')
      have hq' : q / CB = a / CB ^ (k + 1) := by rw [HQ.out, Nat.pow_succ, Nat.div_div_eq_div_mul]
      have hcD' : (digs (q / CB)).length ≤ cD := Nat.le_trans (digs_mono (Nat.div_le_self _ _)) hcD
      rw [hq'] at HTr hQ5' hcD'
      clear hQ4' hQ1 hQ2 hQ3 hq'
      go_wp2_with fail
      with_reducible refine Calls.mono HTr.out ?_
      rintro e w5 ⟨rfl, rfl⟩
      clear HTr
      go_wp2_with fail
      go_roundw
      case rel => exact ⟨k + 1, gD, cD, Z', by omega, rfl, hcD', hQ5', hch4, hne4, hB4, hgD⟩
      case measure => simp [sLen]; omega

theorem text_any (a : Nat) (hl : (digs a).length ≤ 1000000) (w : World) (htab : Tab w) :
    Calls Tryd.prog 29 #[natV a] w fun e w' => e = .returned (.string (txt a)) ∧ Below w.heap.size w w' := by
  by_cases h : a < Bs
  · exact text_small a h w htab
  · exact text_big a h hl w htab
end Go.Proofs.YthehcjfmokabfaaDoor
