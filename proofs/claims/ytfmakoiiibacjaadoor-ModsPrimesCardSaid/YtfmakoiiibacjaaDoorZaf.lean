/-
  The law answers true at every input, and leaves its arguments as they were: a part of the proof. CONDITIONS: the package-level tables start as the program's text lays them (the card ties them).
-/
import Derived.Test.YtfmakoiiibacjaaDoorZae
import Derived.Test.YtfmakoiiibacjaaDoorRows
import Derived.Test.YtfmakoiiibacjaaDoorTie
import Derived.Test.YtfmakoiiibacjaaDoorCards
set_option linter.unusedVariables false
set_option linter.unusedSimpArgs false
namespace Go.Proofs.YtfmakoiiibacjaaDoor
open Go.RowKit
attribute [local irreducible] lo hs sm s64 c64 d64 b64 mh ml pd pc qd qc val hiB str cmpI srD lz nb
theorem eq_zero {b : Nat} (hb : 0 < b) : ((((lo b : Nat) : Int) == ((lo 0 : Nat) : Int)) = false) ∨ ((((lo b : Nat) : Int) == ((lo 0 : Nat) : Int)) = true ∧ ((hs b).toList == (hs 0).toList) = false) := by
 by_cases h : lo b = lo 0
 ·right
  refine ⟨by rw [h]; simp, ?_⟩
  rw [hs_eq, decide_eq_false]
  intro h2
  have h3 : b % Bs = 0 % Bs := by have h4 := h; unfold lo at h4; exact h4
  have := Nat.div_add_mod b Bs
  rw [h2, h3] at this
  simp at this; omega
 ·left
  rw [beq_eq_false_iff_ne]; omega
theorem put2 {w : World} {k : Nat} {x y : Value} (hA : Bx w k x y) (x' y' : Value) : Bx ((w.setCell ⟨k, 0, none⟩ x').setCell ⟨k, 1, none⟩ y') k x' y' := by
 obtain ⟨a0, a1, af⟩ := hA
 refine ⟨?_, ?_, fun j => ?_⟩ <;> simp [go_sem, a0, a1, af]
/-- Sqrt's two boxes. -/
structure B2 (w : World) (k : Nat) (a : Nat) : Prop where
 A : Bx w k (.int .u64 ((lo a : Nat) : Int)) (.string (hs a))
 C : Bx w (k + 1) (.int .u64 0) (.string ⟨#[]⟩)
 sz : k + 2 ≤ w.heap.size
theorem B2.below {w w' : World} {k a : Nat} (h : B2 w k a) (hb : Below w.heap.size w w') : B2 w' k a :=
 ⟨h.A.below hb (by have := h.sz; omega), h.C.below hb (by have := h.sz; omega), Nat.le_trans h.sz hb.size⟩
theorem B2.belowN {w w' : World} {k a : Nat} (h : B2 w k a) (hb : Below (k + 2) w w') : B2 w' k a :=
 ⟨h.A.below hb (by omega), h.C.below hb (by omega), Nat.le_trans h.sz hb.size⟩
theorem B2.step {w0 w1 w2 : World} {k a : Nat} (h0 : Below k w0 w1) (h : B2 w1 k a) (hb : Below w1.heap.size w1 w2) : Below k w0 w2 := h0.trans (hb.mono (by have := h.sz; omega))
end Go.Proofs.YtfmakoiiibacjaaDoor
namespace Go.Proofs.YtfmakoiiibacjaaDoor
open Go.RowKit
attribute [local irreducible] lo hs sm s64 c64 d64 b64 mh ml pd pc qd qc val hiB str cmpI srD lz nb
/-- What Pow's second test asks. -/
def great (a n : Nat) : Bool := decide (4096 < n) || (decide (0 < n) && decide (262144 / n < nb a))
theorem digs_mul_le {a b k m : Nat} (ha : (digs a).length ≤ k) (hb : (digs b).length ≤ m) : (digs (a * b)).length ≤ k + m := by
 have h1 := digs_length_iff.1 ha
 have h2 := digs_length_iff.1 hb
 refine digs_length_iff.2 ?_
 rw [Nat.pow_add]
 exact Nat.mul_lt_mul'' h1 h2
end Go.Proofs.YtfmakoiiibacjaaDoor
namespace Go.Proofs.YtfmakoiiibacjaaDoor
open Go.Lib (decDigits nDigits)
/-- The base of the decimal chunks. -/
def CB : Nat := 10000000000000000000
end Go.Proofs.YtfmakoiiibacjaaDoor
namespace Go.Proofs.YtfmakoiiibacjaaDoor
open Go.RowKit
/-- The table of the powers of ten lies where the program's start laid it. -/
def Tab (w : World) : Prop := Lib.TabIs Tryd.prog w "internal/strconv.uint64pow10" .u64 Lib.pow10Tab
theorem Tab.below {w w' : World} (h : Tab w) (hb : Below w.heap.size w w') : Tab w' := by
 unfold Tab Lib.TabIs World.var? at h ⊢
 cases hg : Tryd.prog.globalNamed "internal/strconv.uint64pow10" with
 | none => rw [hg] at h; simp at h
 | some g =>
  rw [hg] at h
  simp only [Option.bind_some] at h ⊢
  have hlt : g < w.heap.size := by
   rcases Nat.lt_or_ge g w.heap.size with h' | h'
   ·exact h'
   ·rw [Array.getElem?_eq_none h'] at h; cases h
  rw [hb.block g hlt]
  exact h
end Go.Proofs.YtfmakoiiibacjaaDoor
namespace Go.Proofs.YtfmakoiiibacjaaDoor
open Go.RowKit
attribute [local irreducible] lo hs sm s64 c64 d64 b64 mh ml pd pc qd qc val hiB str cmpI srD lz nb
def chunkV (a j : Nat) : Value := .int .u64 ((a / CB ^ j % CB : Nat) : Int)
def chunksV (a k : Nat) : List Value := (List.range k).map (chunkV a)
theorem chunksV_at (a k j : Nat) (h : j < k) : (chunksV a k)[j]? = some (chunkV a j) := by simp [chunksV, h]
/-- The chunks of the number, in a row of the call's own. -/
def Ch (w : World) (B a : Nat) (ch : Value) (k : Nat) : Prop := w.ownsRow B 28 1 ch k (chunksV a k)
theorem Ch.form {w : World} {B a k : Nat} {ch : Value} (h : Ch w B a ch k) : ∃ ao c, ch = .slice ao k c := by
 rcases h.2 with ⟨rfl, rfl⟩ | ⟨g, c, cur, rfl, _⟩
 ·exact ⟨_, _, rfl⟩
 ·exact ⟨_, _, rfl⟩
theorem Ch.keep {w w' : World} {B a k : Nat} {ch : Value} (h : Ch w B a ch k) {row : Option Nat} (hg : w.grownBy w' row) (hne : ch.ownBlock = none ∨ ch.ownBlock ≠ row) : Ch w' B a ch k := World.ownsRow.kept h hg hne
theorem below_none {w w' : World} (h : Below w.heap.size w w') : w.grownBy w' none := ⟨h.os, h.tape, h.output, h.size, fun k hk _ => h.block k hk⟩
theorem Ch.below {w w' : World} {B a k : Nat} {ch : Value} (h : Ch w B a ch k) (hb : Below w.heap.size w w') : Ch w' B a ch k := by
 refine h.keep (below_none hb) ?_
 rcases Ch.form h with ⟨ao, c, rfl⟩
 cases ao with
 | none => exact .inl rfl
 | some a => exact .inr (by simp [Value.ownBlock])
/-- The row of the chunks, as it lies. -/
def CR (w : World) (gC a K : Nat) : Prop := ∃ cur : Array Value, w.heap[gC]? = some (.cells cur 28 (0, 0)) ∧ ∀ j, j < K → cur[j]? = some (chunkV a j)
theorem CR.cell {w : World} {gC a K : Nat} (h : CR w gC a K) (j : Nat) (hj : j < K) : w.cell? ⟨gC, j, none⟩ = some (.int .u64 ((a / CB ^ j % CB : Nat) : Int)) := by
 obtain ⟨cur, h1, h2⟩ := h
 rw [cell_of_row w gC j cur _ _ h1, h2 j hj]; rfl
theorem CR.below {w w' : World} {gC a K B : Nat} (h : CR w gC a K) (hb : Below B w w') (hg : gC < B) : CR w' gC a K := by
 obtain ⟨cur, h1, h2⟩ := h
 exact ⟨cur, (hb.block gC hg).trans h1, h2⟩
theorem Ch.row {w : World} {B a k : Nat} {ch : Value} (h : Ch w B a ch k) (hk : 0 < k) : ∃ gC c, ch = .slice (some ⟨gC, 0, none⟩) k c ∧ gC < w.heap.size ∧ CR w gC a k := by
 obtain ⟨h1, h2⟩ := h
 rcases h2 with ⟨_, rfl⟩ | ⟨g, c, cur, rfl, hb, hg, hnc, hcm, hcs, ht⟩
 ·omega
 ·refine ⟨g, c, rfl, (Array.getElem?_eq_some_iff.1 hg).1, cur, hg, fun j hj => ?_⟩
  rw [Nat.mul_one] at ht
  have h3 := congrArg (fun l : List Value => l[j]?) ht
  simp only [chunksV_at a k j hj, List.getElem?_take, if_pos hj] at h3
  simpa using h3
end Go.Proofs.YtfmakoiiibacjaaDoor
namespace Go.Proofs.YtfmakoiiibacjaaDoor
open Go.RowKit
attribute [local irreducible] lo hs sm val hiB
/-- A string, out of its bytes. -/
def st (l : List UInt8) : ByteArray := ⟨l.toArray⟩
end Go.Proofs.YtfmakoiiibacjaaDoor
namespace Go.Proofs.YtfmakoiiibacjaaDoor
open Go.RowKit
/-- What the loop of timesPlus keeps. -/
structure TimI (l : List Nat) (f s i carry : Nat) (O : List Nat) : Prop where
 len : O.length = i
 dig : Dig O
 lt : carry < Bs
 eq : val O + carry * Bs ^ i = val (l.take i) * f + s
theorem TimI.start (l : List Nat) (f s : Nat) (hs : s < Bs) : TimI l f s 0 s [] := ⟨rfl, Dig.nil, hs, by simp [val]⟩
theorem tim_arith (V T X d f s o over low carry mh B : Nat) (e1 : o + B * over = low + carry) (e2 : low + B * mh = d * f) (e0 : V + carry * X = T * f + s) :
  V + X * o + (mh + over) * (X * B) = (T + X * d) * f + s := by
 have h1 : X * o + X * (B * over) = X * low + X * carry := by rw [← Nat.mul_add, e1, Nat.mul_add]
 have h2 : X * low + X * (B * mh) = X * (d * f) := by rw [← Nat.mul_add, e2]
 have h3 : (mh + over) * (X * B) = X * (B * mh) + X * (B * over) := by
  rw [Nat.add_mul, Nat.mul_comm mh, Nat.mul_comm over, Nat.mul_assoc, Nat.mul_assoc]
 have h4 : (T + X * d) * f = T * f + X * (d * f) := by rw [Nat.add_mul, Nat.mul_assoc]
 have h5 : carry * X = X * carry := Nat.mul_comm _ _
 rw [h3, h4]
 rw [h5] at e0
 generalize X * o = a1 at *
 generalize X * (B * over) = a2 at *
 generalize X * (B * mh) = a3 at *
 generalize X * (d * f) = a4 at *
 generalize X * low = a5 at *
 generalize X * carry = a6 at *
 generalize T * f = a7 at *
 omega
theorem TimI.step {l O : List Nat} {f s i carry : Nat} (h : TimI l f s i carry O) (hd : Dig l) (hf : f < Bs) (hi : i < l.length) :
  TimI l f s (i + 1) (mh l[i] f + c64 (ml l[i] f) carry 0) (O ++ [s64 (ml l[i] f) carry 0]) := by
 have hdi := hd.get i hi
 have h1 := s64_spec (ml l[i] f) carry 0
 have h2 := mul_spec l[i] f
 have h3 := mh_lt hdi hf
 have h4 : c64 (ml l[i] f) carry 0 ≤ 1 := c64_le (ml_lt _ _) h.lt (by omega)
 have hB := Bs_gt
 refine ⟨by rw [List.length_append, h.len]; rfl, (fun x hx => by
  rcases List.mem_append.1 hx with hx | hx
  ·exact h.dig x hx
  ·rw [List.mem_singleton.1 hx]; exact s64_lt _ _ _), by omega, ?_⟩
 rw [List.take_add_one, List.getElem?_eq_getElem hi]
 show val (O ++ [_]) + _ = val (l.take i ++ [l[i]]) * f + s
 rw [val_append, val_append, h.len, List.length_take, Nat.min_eq_left (by omega), Nat.pow_succ]
 have v1 : ∀ x, val [x] = x := fun x => by simp [val]
 rw [v1, v1]
 exact tim_arith _ _ _ _ _ _ _ _ _ _ _ _ (by rw [Nat.add_zero] at h1; exact h1) h2 h.eq
end Go.Proofs.YtfmakoiiibacjaaDoor
namespace Go.Proofs.YtfmakoiiibacjaaDoor
open Go.RowKit
attribute [local irreducible] lo hs sm s64 c64 d64 b64 mh ml pd pc qd qc val hiB str cmpI srD lz nb
/-- The number with the given 32-bit words, the least first. -/
def made : List Nat → Nat
 | [] => 0
 | x :: l => x + 4294967296 * made l
/-- A slice of 32-bit words. -/
structure Wd (w : World) (a : Addr) (l : List Nat) : Prop where
 lt : ∀ x ∈ l, x < 4294967296
 cell : ∀ (i : Nat) (h : i < l.length), w.cell? (a.add i) = some (.int .u32 ((l[i] : Nat) : Int))
 blk : a.block < w.heap.size
theorem Wd.below {w w' : World} {a : Addr} {l : List Nat} (h : Wd w a l) (hb : Below w.heap.size w w') : Wd w' a l :=
 ⟨h.lt, fun i hi => (hb.cell (p := a.add i) (by rw [show (a.add i).block = a.block from by unfold Addr.add; split <;> rfl]; exact h.blk)).trans (h.cell i hi), Nat.lt_of_lt_of_le h.blk hb.size⟩
theorem of_val (z : Int) (d : Nat) (hz : z = (d : Int)) (hd : d < Bs) (w : World) :
  Calls Tryd.prog 53 #[.int .u64 z] w fun e w' => e = .returned (natV d) ∧ Below w.heap.size w w' := by rw [hz]; exact of_any d hd w
/-- What Made's rounds keep. -/
structure MS (w w' : World) (a : Addr) (l : List Nat) (m : Nat) : Prop where
 O : Bx w' (w.heap.size + 1) (.int .u64 ((lo m : Nat) : Int)) (.string (hs m))
 R : Bx w' w.heap.size (.int .u64 0) (.string ⟨#[]⟩)
 W : Wd w' a l
 sz : w.heap.size + 2 ≤ w'.heap.size
 bl : Below w.heap.size w w'
theorem MS.below {w w' w'' : World} {a : Addr} {l : List Nat} {m : Nat} (h : MS w w' a l m) (hb : Below w'.heap.size w' w'') : MS w w'' a l m :=
 ⟨h.O.below hb (by have := h.sz; omega), h.R.below hb (by have := h.sz; omega), h.W.below hb, Nat.le_trans h.sz hb.size, h.bl.trans (hb.mono (by have := h.sz; omega))⟩
theorem MS.drew {w w' : World} {a : Addr} {l : List Nat} {m : Nat} (h : MS w w' a l m) : MS w w'.drew a l m := ⟨h.O, h.R, ⟨h.W.lt, h.W.cell, h.W.blk⟩, h.sz, h.bl.drew⟩
theorem MS.put {w w' : World} {a : Addr} {l : List Nat} {m : Nat} (h : MS w w' a l m) (ha : a.block < w.heap.size) (m' : Nat) :
  MS w ((w'.setCell ⟨w.heap.size + 1, 0, none⟩ (.int .u64 ((lo m' : Nat) : Int))).setCell ⟨w.heap.size + 1, 1, none⟩ (.string (hs m'))) a l m' := by
 have hb : Below (w.heap.size + 1) w' ((w'.setCell ⟨w.heap.size + 1, 0, none⟩ (.int .u64 ((lo m' : Nat) : Int))).setCell ⟨w.heap.size + 1, 1, none⟩ (.string (hs m'))) := ((Below.refl _ _).setCell (p := ⟨w.heap.size + 1, 0, none⟩) (Nat.le_refl _) _).setCell (p := ⟨w.heap.size + 1, 1, none⟩) (Nat.le_refl _) _
 refine ⟨put2 h.O _ _, h.R.below hb (by omega), ⟨h.W.lt, fun i hi => ?_, Nat.lt_of_lt_of_le h.W.blk hb.size⟩, Nat.le_trans h.sz hb.size, h.bl.trans (hb.mono (by omega))⟩
 exact (hb.cell (p := a.add i) (by rw [show (a.add i).block = a.block from by unfold Addr.add; split <;> rfl]; omega)).trans (h.W.cell i hi)
theorem MS.cells {w w' : World} {a : Addr} {l : List Nat} {m : Nat} (h : MS w w' a l m) (i x : Nat) (hi : i < l.length) (hx : x = l[i]) :
  w'.cell? ⟨w.heap.size + 1, 0, none⟩ = some (.int .u64 ((lo m : Nat) : Int)) ∧ w'.cell? ⟨w.heap.size + 1, 1, none⟩ = some (.string (hs m)) ∧ w'.cell? (a.add i) = some (.int .u32 (x : Int)) :=
 ⟨h.O.1, h.O.2.1, by rw [hx]; exact h.W.cell i hi⟩
/-- A slice of words, nil or not. -/
def Ws (w : World) (v : Value) (l : List Nat) : Prop := (∃ ao c, v = .slice ao 0 c ∧ l = []) ∨ ∃ a c, v = .slice (some a) l.length c ∧ Wd w a l
theorem Ws.below {w w' : World} {v : Value} {l : List Nat} (h : Ws w v l) (hb : Below w.heap.size w w') : Ws w' v l := by
 rcases h with h | ⟨a, c, h1, h2⟩
 ·exact .inl h
 ·exact .inr ⟨a, c, h1, h2.below hb⟩
theorem Ws.lt {w : World} {v : Value} {l : List Nat} (h : Ws w v l) : ∀ x ∈ l, x < 4294967296 := by
 rcases h with ⟨_, _, _, rfl⟩ | ⟨a, c, _, h2⟩
 ·intro x hx; cases hx
 ·exact h2.lt
end Go.Proofs.YtfmakoiiibacjaaDoor
namespace Go.Proofs.YtfmakoiiibacjaaDoor
open Go.RowKit
attribute [local irreducible] lo hs sm s64 c64 d64 b64 mh ml pd pc qd qc val hiB str cmpI srD lz nb
/-- A box that holds a number. -/
structure NX (w : World) (k n : Nat) : Prop where
 b : Bx w k (.int .u64 ((lo n : Nat) : Int)) (.string (hs n))
 lt : k < w.heap.size
theorem NX.below {w w' : World} {k n : Nat} (h : NX w k n) (hb : Below w.heap.size w w') : NX w' k n := ⟨h.b.below hb h.lt, Nat.lt_of_lt_of_le h.lt hb.size⟩
/-- The boxes that a call has made, with what they hold. -/
structure NL (w0 W : World) (L : List (Nat × Nat)) : Prop where
 bl : Below w0.heap.size w0 W
 all : ∀ p ∈ L, w0.heap.size ≤ p.1 ∧ NX W p.1 p.2
 nd : (L.map (·.1)).Nodup
theorem NL.start (w : World) : NL w w [] := ⟨Below.refl _ _, (fun p hp => by cases hp), List.nodup_nil⟩
theorem NL.call {w0 W W' : World} {L : List (Nat × Nat)} (h : NL w0 W L) (hb : Below W.heap.size W W') : NL w0 W' L :=
 ⟨h.bl.trans (hb.mono h.bl.size), fun p hp => ⟨(h.all p hp).1, (h.all p hp).2.below hb⟩, h.nd⟩
theorem NL.drew {w0 W : World} {L : List (Nat × Nat)} (h : NL w0 W L) : NL w0 W.drew L :=
 ⟨h.bl.drew, fun p hp => ⟨(h.all p hp).1, (h.all p hp).2.b, (h.all p hp).2.lt⟩, h.nd⟩
theorem szA (W : World) (o : Obj) : (W.alloc o).heap.size = W.heap.size + 1 := World.size_alloc _ _
theorem NL.new {w0 W : World} {L : List (Nat × Nat)} {K : Nat} (h : NL w0 W L) (hK : W.heap.size = K) (n : Nat) (t : TypeId) : NL w0 (W.alloc (.cells #[.int .u64 ((lo n : Nat) : Int), .string (hs n)] t)) ((K, n) :: L) := by
 subst hK
 obtain ⟨w1, h1, h2, h3, h4⟩ := boxes1 W (.int .u64 ((lo n : Nat) : Int)) (.string (hs n)) t
 rw [h1]
 refine ⟨h.bl.trans (h3.mono h.bl.size), fun p hp => ?_, ?_⟩
 ·rcases List.mem_cons.1 hp with rfl | hp
  ·exact ⟨h.bl.size, h2, h4⟩
  ·exact ⟨(h.all p hp).1, (h.all p hp).2.below h3⟩
 ·rw [List.map_cons, List.nodup_cons]
  refine ⟨fun hm => ?_, h.nd⟩
  obtain ⟨p, hp, he⟩ := List.mem_map.1 hm
  have := (h.all p hp).2.lt
  simp only at he
  omega
theorem NL.tail {w0 W : World} {L : List (Nat × Nat)} {x : Nat × Nat} (h : NL w0 W (x :: L)) : NL w0 W L :=
 ⟨h.bl, fun p hp => h.all p (List.mem_cons_of_mem _ hp), (List.nodup_cons.1 h.nd).2⟩
theorem NL.swap {w0 W : World} {L : List (Nat × Nat)} {x y : Nat × Nat} (h : NL w0 W (x :: y :: L)) : NL w0 W (y :: x :: L) := by
 refine ⟨h.bl, fun p hp => h.all p ?_, ?_⟩
 ·simp only [List.mem_cons] at hp ⊢
  rcases hp with h | h | h
  ·exact .inr (.inl h)
  ·exact .inl h
  ·exact .inr (.inr h)
 ·have := h.nd
  simp only [List.map_cons, List.nodup_cons, List.mem_cons, not_or] at this ⊢
  exact ⟨⟨fun e => this.1.1 e.symm, this.2.1⟩, this.1.2, this.2.2⟩
theorem NL.get {w0 W : World} {L : List (Nat × Nat)} (h : NL w0 W L) (k n : Nat) (hm : (k, n) ∈ L) : W.cell? ⟨k, 0, none⟩ = some (.int .u64 ((lo n : Nat) : Int)) ∧ W.cell? ⟨k, 1, none⟩ = some (.string (hs n)) :=
 ⟨(h.all _ hm).2.b.1, (h.all _ hm).2.b.2.1⟩
theorem NL.frozen {w0 W : World} {L : List (Nat × Nat)} (h : NL w0 W L) (k n : Nat) (hm : (k, n) ∈ L) : ∀ j, W.frozen? ⟨k, j, none⟩ = false := (h.all _ hm).2.b.2.2
theorem NL.cells {w0 W : World} {L : List (Nat × Nat)} {k n : Nat} (hm : (k, n) ∈ L) (h : NL w0 W L) : W.cell? ⟨k, 0, none⟩ = some (.int .u64 ((lo n : Nat) : Int)) ∧ W.cell? ⟨k, 1, none⟩ = some (.string (hs n)) := h.get k n hm
/-- A box's number is none of these. -/
def ne (k : Nat) : List (Nat × Nat) → Prop
 | [] => True
 | p :: L => k ≠ p.1 ∧ p.1 ≠ k ∧ ne k L
theorem ne_of {k : Nat} : ∀ {L : List (Nat × Nat)}, k ∉ L.map (·.1) → ne k L
 | [], _ => trivial
 | p :: L, h => by
  simp only [List.map_cons, List.mem_cons, not_or] at h
  exact ⟨h.1, fun e => h.1 e.symm, ne_of h.2⟩
theorem alloc_cell {W : World} (o : Obj) {k j : Nat} (h : k < W.heap.size) : (W.alloc o).cell? ⟨k, j, none⟩ = W.cell? ⟨k, j, none⟩ := (Below.refl W.heap.size W |>.alloc (Nat.le_refl _) o).cell (p := ⟨k, j, none⟩) h
theorem alloc_frozen {W : World} (o : Obj) {k j : Nat} (h : k < W.heap.size) : (W.alloc o).frozen? ⟨k, j, none⟩ = W.frozen? ⟨k, j, none⟩ := (Below.refl W.heap.size W |>.alloc (Nat.le_refl _) o).frozen (p := ⟨k, j, none⟩) h
/-- What the boxes hold, one fact each. -/
def fc (W : World) : List (Nat × Nat) → Prop
 | [] => True
 | p :: L => W.cell? ⟨p.1, 0, none⟩ = some (.int .u64 ((lo p.2 : Nat) : Int)) ∧ W.cell? ⟨p.1, 1, none⟩ = some (.string (hs p.2)) ∧ (∀ j, W.frozen? ⟨p.1, j, none⟩ = false) ∧ (∀ o, (W.alloc o).cell? ⟨p.1, 0, none⟩ = some (.int .u64 ((lo p.2 : Nat) : Int))) ∧ (∀ o, (W.alloc o).cell? ⟨p.1, 1, none⟩ = some (.string (hs p.2))) ∧ (∀ o j, (W.alloc o).frozen? ⟨p.1, j, none⟩ = false) ∧ (p.1 ≠ W.heap.size ∧ W.heap.size ≠ p.1 ∧ p.1 ≠ W.heap.size + 1 ∧ W.heap.size + 1 ≠ p.1) ∧ ne p.1 L ∧ fc W L
theorem NL.fc {w0 W : World} : ∀ {L : List (Nat × Nat)}, NL w0 W L → fc W L
 | [], _ => trivial
 | p :: L, h => ⟨(h.all p List.mem_cons_self).2.b.1, (h.all p List.mem_cons_self).2.b.2.1, (h.all p List.mem_cons_self).2.b.2.2, (fun o => by rw [alloc_cell o (h.all p List.mem_cons_self).2.lt]; exact (h.all p List.mem_cons_self).2.b.1), (fun o => by rw [alloc_cell o (h.all p List.mem_cons_self).2.lt]; exact (h.all p List.mem_cons_self).2.b.2.1), (fun o j => by rw [alloc_frozen o (h.all p List.mem_cons_self).2.lt]; exact (h.all p List.mem_cons_self).2.b.2.2 j), (by have := (h.all p List.mem_cons_self).2.lt; omega), ne_of (List.nodup_cons.1 h.nd).1, h.tail.fc⟩
/-- The cells of boxes, one behind the other. -/
def cl (W : World) : List (Nat × Nat) → Prop
 | [] => True
 | [p] => W.cell? ⟨p.1, 0, none⟩ = some (.int .u64 ((lo p.2 : Nat) : Int)) ∧ W.cell? ⟨p.1, 1, none⟩ = some (.string (hs p.2))
 | p :: q :: L => W.cell? ⟨p.1, 0, none⟩ = some (.int .u64 ((lo p.2 : Nat) : Int)) ∧ W.cell? ⟨p.1, 1, none⟩ = some (.string (hs p.2)) ∧ cl W (q :: L)
theorem cl_of {W : World} : ∀ {C : List (Nat × Nat)}, (∀ p ∈ C, W.cell? ⟨p.1, 0, none⟩ = some (.int .u64 ((lo p.2 : Nat) : Int)) ∧ W.cell? ⟨p.1, 1, none⟩ = some (.string (hs p.2))) → cl W C
 | [], _ => trivial
 | [p], h => h p List.mem_cons_self
 | p :: q :: L, h => ⟨(h p List.mem_cons_self).1, (h p List.mem_cons_self).2, cl_of fun r hr => h r (List.mem_cons_of_mem _ hr)⟩
/-- Old boxes, read in a newer world. -/
theorem NL.keep {w w0 W : World} {L C : List (Nat × Nat)} {L0 : List (Nat × Nat)} (h0 : NL w w0 L0) (hC : C ⊆ L0) (h : NL w0 W L) : cl W C :=
 cl_of fun p hp => by
  have hx := h0.all p (hC hp)
  exact ⟨(h.bl.cell (p := ⟨p.1, 0, none⟩) hx.2.lt).trans hx.2.b.1, (h.bl.cell (p := ⟨p.1, 1, none⟩) hx.2.lt).trans hx.2.b.2.1⟩
end Go.Proofs.YtfmakoiiibacjaaDoor
namespace Go.Proofs.YtfmakoiiibacjaaDoor
open Go.RowKit
attribute [local irreducible] lo hs sm s64 c64 d64 b64 mh ml pd pc qd qc val hiB str cmpI srD lz nb
/-- The worlds that keep what w0 holds, as the values of a function. -/
theorem cls (w0 : World) : ∃ (α : Type) (_ : Nonempty α) (F : α → World), (∀ x, Below w0.heap.size w0 (F x)) ∧ (∀ W, Below w0.heap.size w0 W → ∃ x, W = F x) :=
 ⟨{W : World // Below w0.heap.size w0 W}, ⟨⟨w0, Below.refl _ _⟩⟩, fun x => x.1, fun x => x.2, fun W h => ⟨⟨W, h⟩, rfl⟩⟩
theorem cls_call {α : Type} {F : α → World} {w0 : World} (h1 : ∀ x, Below w0.heap.size w0 (F x)) (h2 : ∀ W, Below w0.heap.size w0 W → ∃ x, W = F x) {P : Program} {f : FuncId} {args : Array Value} {v : Value}
  (h : ∀ w, Calls P f args w fun e w' => e = .returned v ∧ Below w.heap.size w w') (x : α) : Calls P f args (F x) fun e w'' => e = .returned v ∧ ∃ y, w'' = F y :=
 (h (F x)).mono fun _ _ ⟨he, hb⟩ => ⟨he, h2 _ ((h1 x).trans (hb.mono (h1 x).size))⟩
theorem cls_drew {α : Type} {F : α → World} {w0 : World} (h2 : ∀ W, Below w0.heap.size w0 W → ∃ x, W = F x) : ∃ x, w0.drew = F x := h2 _ (Below.refl _ _).drew
end Go.Proofs.YtfmakoiiibacjaaDoor
namespace Go.Proofs.YtfmakoiiibacjaaDoor
open Go Go.RowKit
theorem runN_next {P : Program} {n m : Nat} {a b c : Machine} (h1 : runN P n a = .next b) (h2 : runN P (n + m) a = .next c) : runN P m b = .next c := by
 rw [runN_add, h1] at h2
 exact h2
/-- A frame of no function: once its callee has returned, nothing goes on. -/
def deadF (P : Program) : Frame := { fn := P.funcs.size, tmps := #[], todo := [.code (.refuse "")], defers := [], mode := .run, kind := .normal }
theorem dead_finish (P : Program) (v : Value) : (deadF P).finish v = deadF P := rfl
theorem dead_stops {P : Program} {w : World} : ∀ m, step P (lone (deadF P) [] w) ≠ .next m := by
 have h : ∃ o w', step P (lone (deadF P) [] w) = .ended o w' := by
  generalize hs : stepG P true { frame := deadF P, callers := [], status := .running, dying := none } w = s
  have hb : ∃ o w', s.bare = .ended o w' := by
   rw [← hs]
   exact ⟨_, _, by simp [stepG, stepG.exec, deadF]; exact ⟨rfl, rfl⟩⟩
  obtain ⟨o, w', hb⟩ := hb
  exact ⟨o, w', step_lone_ended (by rw [hs]; exact hb)⟩
 obtain ⟨o, w', h⟩ := h
 intro m hm
 rw [h] at hm
 cases hm
theorem Calls.uniq {P : Program} {f : FuncId} {args : Array Value} {w : World} {v1 v2 : Value} {A B : World → Prop}
  (h1 : Calls P f args w fun e w' => e = .returned v1 ∧ A w') (h2 : Calls P f args w fun e w' => e = .returned v2 ∧ B w') : v1 = v2 := by
 obtain ⟨e1, w1, fr1, ⟨rfl, -⟩, c1, f1, l1⟩ := h1 [deadF P]
 obtain ⟨e2, w2, fr2, ⟨rfl, -⟩, c2, f2, l2⟩ := h2 [deadF P]
 obtain ⟨n1, s1⟩ := (show Steps P _ _ from c1)
 obtain ⟨n2, s2⟩ := (show Steps P _ _ from c2)
 have key : ∀ {n m : Nat} {fr fr' : Frame} {w w' : World} {v v' : Value} {M : Machine}, runN P n M = .next (lone fr [deadF P] w) → runN P (n + m) M = .next (lone fr' [deadF P] w') →
   fr.leaving P w (.returned v) → fr'.leaving P w' (.returned v') → fr = fr' ∧ w = w' := by
  intro n m fr fr' w w' v v' M a b la lb
  have hc := runN_next a b
  have hst := step_leave_returned (cs := []) (c := deadF P) la
  rw [dead_finish] at hst
  cases m with
  | zero =>
   simp only [runN] at hc
   have := Stepped.next.inj hc
   simp [lone] at this
   exact ⟨this.2, this.1⟩
  | succ m =>
   simp only [runN, hst] at hc
   cases m with
   | zero =>
    simp only [runN] at hc
    have := Stepped.next.inj hc
    simp [lone] at this
   | succ m =>
    simp only [runN] at hc
    cases hd : step P (lone (deadF P) [] w) with
    | next m' => exact absurd hd (dead_stops m')
    | ended o w'' => rw [hd] at hc; cases hc
 have hh : fr1 = fr2 ∧ w1 = w2 := by
  rcases Nat.le_total n1 n2 with h | h
  ·obtain ⟨m, rfl⟩ := Nat.exists_eq_add_of_le h
   exact key s1 s2 l1 l2
  ·obtain ⟨m, rfl⟩ := Nat.exists_eq_add_of_le h
   have := key s2 s1 l2 l1
   exact ⟨this.1.symm, this.2.symm⟩
 obtain ⟨rfl, rfl⟩ := hh
 obtain ⟨-, -, -, fn1, hf1, hr1⟩ := l1
 obtain ⟨-, -, -, fn2, hf2, hr2⟩ := l2
 rw [hf1] at hf2
 obtain rfl := Option.some.inj hf2
 rw [hr1] at hr2
 exact (Result.ok.inj hr2).1
/-- What a box holds. -/
structure Hd (w : World) (k : Nat) (c : List Value) : Prop where
 cell : ∀ i (h : i < c.length), w.cell? ⟨k, i, none⟩ = some c[i]
 frz : ∀ j, w.frozen? ⟨k, j, none⟩ = false
 lt : k < w.heap.size
 row : ∃ arr t, w.heap[k]? = some (.cells arr t (0, 0)) ∧ arr.size = c.length
theorem Hd.below {w w' : World} {k : Nat} {c : List Value} (h : Hd w k c) (hb : Below w.heap.size w w') : Hd w' k c :=
 ⟨fun i hi => (hb.cell (p := ⟨k, i, none⟩) h.lt).trans (h.cell i hi), fun j => (hb.frozen (p := ⟨k, j, none⟩) h.lt).trans (h.frz j), Nat.lt_of_lt_of_le h.lt hb.size, by rw [hb.block k h.lt]; exact h.row⟩
theorem row_set {w : World} {k n : Nat} (h : ∃ arr t, w.heap[k]? = some (.cells arr t (0, 0)) ∧ arr.size = n) (i : Nat) (v : Value) : ∃ arr t, (w.setCell ⟨k, i, none⟩ v).heap[k]? = some (.cells arr t (0, 0)) ∧ arr.size = n := by
 obtain ⟨arr, t, h1, h2⟩ := h
 exact ⟨_, t, heap_setCell_same w k i arr t v h1, by simpa using h2⟩
/-- Only the block k has turned. -/
structure Upd (k : Nat) (w w' : World) : Prop where
 os : w'.os = w.os
 tape : w'.tape = w.tape
 output : w'.output = w.output
 size : w'.heap.size = w.heap.size
 block : ∀ j, j ≠ k → w'.heap[j]? = w.heap[j]?
theorem Upd.refl (k : Nat) (w : World) : Upd k w w := ⟨rfl, rfl, rfl, rfl, fun _ _ => rfl⟩
theorem Upd.setCell {k : Nat} {a w : World} (h : Upd k a w) (i : Nat) (v : Value) : Upd k a (w.setCell ⟨k, i, none⟩ v) :=
 ⟨h.os, h.tape, h.output, by rw [← h.size]; simp [World.setCell], fun j hj => (Below.heap_setCell _ _ _ _ hj).trans (h.block j hj)⟩
theorem Upd.below {k B : Nat} {w w' : World} (h : Upd k w w') (hB : B ≤ k) : Below B w w' :=
 ⟨h.os, h.tape, h.output, Nat.le_of_eq h.size.symm, fun j hj => h.block j (by omega)⟩
theorem Upd.hd {k j : Nat} {c : List Value} {w w' : World} (h : Upd k w w') (hj : j ≠ k) (hd : Hd w j c) : Hd w' j c :=
 ⟨fun i hi => (World.cell?_of_block (w := w) (h.block j hj)).trans (hd.cell i hi), fun i => (World.frozen?_of_block (w := w) (h.block j hj)).trans (hd.frz i), by rw [h.size]; exact hd.lt, by rw [h.block j hj]; exact hd.row⟩
inductive Eff where
 | quiet (v : Value)
 | new (c : List Value)
 | put (d : Nat) (c : List Value)
def Eff.val : Eff → Value
 | .quiet v => v
 | _ => undef
/-- The new boxes: by the slot that holds the box's address, what it holds, and whether it has been stored into. -/
abbrev Gh := Nat → Option (List Value × Bool)
def upd (g : Gh) (d : Nat) (x : List Value × Bool) : Gh := fun t => if t = d then some x else g t
theorem upd_same (g : Gh) (d : Nat) (x : List Value × Bool) : upd g d x d = some x := by simp [upd]
theorem upd_ne (g : Gh) {d t : Nat} (x : List Value × Bool) (h : t ≠ d) : upd g d x t = g t := by simp [upd, h]
theorem upd_comm (g : Gh) {d t : Nat} (x y : List Value × Bool) (h : d ≠ t) : upd (upd g d x) t y = upd (upd g t y) d x := by
 funext s
 by_cases h1 : s = t
 ·subst h1; rw [upd_same, upd_ne _ _ (fun e => h e.symm), upd_same]
 ·by_cases h2 : s = d
  ·subst h2; rw [upd_ne _ _ h1, upd_same, upd_same]
  ·rw [upd_ne _ _ h1, upd_ne _ _ h2, upd_ne _ _ h2, upd_ne _ _ h1]
theorem upd_none {g : Gh} {d t : Nat} {x : List Value × Bool} (h : upd g d x t = none) : t ≠ d ∧ g t = none := by
 by_cases h1 : t = d
 ·subst h1; rw [upd_same] at h; cases h
 ·exact ⟨h1, by rwa [upd_ne _ _ h1] at h⟩
def Eff.gh (o : Oper) (g : Gh) : Eff → Gh
 | .quiet _ => g
 | .new c => match o.dst with | some d => upd g d (c, false) | none => g
 | .put d c => upd g d (c, true)
/-- The slot that an operation's guard looks at. -/
def guardT (ops : Array Oper) (o : Oper) : List Nat := match o.guard with | some (g, _) => ((ops[g]?).bind (·.dst)).toList | none => []
theorem guardT_looks {ops : Array Oper} {o : Oper} {t : Nat} (h : t ∈ guardT ops o) : t ∈ o.looksAt ops := List.mem_append_right _ h
def operT : Operand → List Nat | .tmp t => [t] | _ => []
theorem oper_looks {ops : Array Oper} {o : Oper} {x : Operand} (hx : x ∈ o.op.operands) {t : Nat} (h : t ∈ operT x) : t ∈ o.looksAt ops := by
 cases x <;> simp only [operT, List.mem_singleton, List.not_mem_nil] at h
 subst h
 exact List.mem_append_left _ (List.mem_filterMap.2 ⟨_, by simpa using hx, rfl⟩)
section
variable {P : Program} {ops : Array Oper} {md : Region.Mode} {w0 : World}
/-- What an operation does, in every world that keeps what was there. -/
def Valid (P : Program) (ops : Array Oper) (w0 : World) (o : Oper) (a : Act) (g : Gh) : Eff → Prop
 | .quiet v => (∀ t ∈ o.looksAt ops, g t = none) ∧ (∀ d, o.dst = some d → g d = none) ∧
   ((Region.wanted o (yielded ops a.tmps) = true ∧ ∀ w, Below w0.heap.size w0 w → o.quietAt P a (fun w'' => Below w.heap.size w w'') w v) ∨ (Region.wanted o (yielded ops a.tmps) = false ∧ v = undef))
 | .new c => (∀ t ∈ guardT ops o, g t = none) ∧ Region.wanted o (yielded ops a.tmps) = true ∧ ∃ d e t, o.op = .alloc e ∧ o.dst = some d ∧ d < a.tmps.size ∧ g d = none ∧
   ∀ w, (Instr.alloc e true (.tuple #[])).run P w = .ok (.pointer (some ⟨w.heap.size, 0, none⟩)) (w.alloc (.cells c.toArray t))
 | .put d c => (∀ t ∈ guardT ops o, g t = none) ∧ (∀ d, o.dst = some d → g d = none) ∧ Region.wanted o (yielded ops a.tmps) = true ∧ ∃ t x c0, o.op = .store t (.tmp d) x ∧ (∀ t ∈ operT x, g t = none) ∧ g d = some (c0, false) ∧
   ∀ w k, Hd w k c0 → ∃ w', (Instr.storeAt t (.pointer (some ⟨k, 0, none⟩)) (a.eval x)).run P w = .ok () w' ∧ Hd w' k c ∧ Upd k w w'
theorem size_put (a : Act) (dst : Option Tmp) (v : Value) : (a.put dst v).tmps.size = a.tmps.size := by cases dst <;> simp [Act.put]
theorem quietAt_put {C : World → Prop} {o : Oper} (hs : ∀ cs b, o.op ≠ .select cs b) {a : Act} {dst : Option Tmp} {v u : Value} {w : World} (h : ∀ d, dst = some d → d ∉ o.looksAt ops) :
  o.quietAt P (a.put dst v) C w u ↔ o.quietAt P a C w u := by unfold Oper.quietAt; rw [execOp_put o hs a dst v h]
theorem eval_put' {o : Oper} {x : Operand} (hx : x ∈ o.op.operands) {a : Act} {dst : Option Tmp} {v : Value} (h : ∀ d, dst = some d → d ∉ o.looksAt ops) : (a.put dst v).eval x = a.eval x :=
 Act.eval_put fun d hd e => h d hd (oper_looks hx (by subst e; simp [operT]))
theorem Valid.back {oi oj : Oper} {a : Act} {g : Gh} {yi yj : Eff} (hap : oi.apart ops oj = true) (hsi : ∀ cs b, oi.op ≠ .select cs b) (hsj : ∀ cs b, oj.op ≠ .select cs b)
  (hi : Valid P ops w0 oi a g yi) (hj : Valid P ops w0 oj (a.put oi.dst yi.val) (yi.gh oi g) yj) :
  Valid P ops w0 oj a g yj ∧ Valid P ops w0 oi (a.put oj.dst yj.val) (yj.gh oj g) yi ∧ yi.gh oi (yj.gh oj g) = yj.gh oj (yi.gh oi g) := by
 obtain ⟨h1, h2, h3⟩ := Oper.apart_spec hap
 have gi : ∀ {t}, yi.gh oi g t = none → g t = none := fun {t} h => by
  cases yi with
  | quiet v => exact h
  | new c => cases hd : oi.dst <;> simp only [Eff.gh, hd] at h; exact h; exact (upd_none h).2
  | put d c => exact (upd_none h).2
 have hwj := wanted_put (ops := ops) oj a oi.dst yi.val h1
 have hwi := fun (u : Value) => wanted_put (ops := ops) oi a oj.dst u h3
 -- backward: oj at (a, g)
 have A : Valid P ops w0 oj a g yj := by
  cases yj with
  | quiet v =>
   obtain ⟨q1, q2, q3⟩ := hj
   rw [hwj] at q3
   refine ⟨fun t ht => gi (q1 t ht), fun d hd => gi (q2 d hd), ?_⟩
   rcases q3 with ⟨q3, q4⟩ | q3
   ·exact .inl ⟨q3, fun w hw => (quietAt_put hsj h1).1 (q4 w hw)⟩
   ·exact .inr q3
  | new c =>
   obtain ⟨q1, q2, d, e, t, q3, q4, q5, q6, q7⟩ := hj
   rw [hwj] at q2
   rw [size_put] at q5
   exact ⟨fun t ht => gi (q1 t ht), q2, d, e, t, q3, q4, q5, gi q6, q7⟩
  | put d c =>
   obtain ⟨q1, q0, q2, t, x, c0, q3, q4, q5, q6⟩ := hj
   rw [hwj] at q2
   have hx : x ∈ oj.op.operands := by rw [q3]; simp [Op.operands]
   have hd : d ∈ oj.looksAt ops := oper_looks (x := .tmp d) (by rw [q3]; simp [Op.operands]) (by simp [operT])
   rw [eval_put' hx h1] at q6
   refine ⟨fun t ht => gi (q1 t ht), fun d hd => gi (q0 d hd), q2, t, x, c0, q3, fun t ht => gi (q4 t ht), ?_, q6⟩
   cases yi with
   | quiet v => exact q5
   | new c' =>
    obtain ⟨-, -, d', e', t', -, r4, -⟩ := hi
    simp only [Eff.gh, r4] at q5
    have hne : d ≠ d' := fun e => h1 d' r4 (by rw [← e]; exact hd)
    rwa [upd_ne _ _ hne] at q5
   | put d' c' =>
    simp only [Eff.gh] at q5
    by_cases e : d = d'
    ·subst e; rw [upd_same] at q5; simp at q5
    ·rwa [upd_ne _ _ e] at q5
 -- forward
 have gj : ∀ {t}, g t = none → (∀ d, oj.dst = some d → d ≠ t) → yj.gh oj g t = none := fun {t} h hn => by
  cases yj with
  | quiet v => exact h
  | new c =>
   obtain ⟨-, -, d, e, t', -, r4, -⟩ := A
   simp only [Eff.gh, r4]
   rw [upd_ne _ _ (fun e => hn d r4 e.symm)]; exact h
  | put d c =>
   obtain ⟨-, -, -, t', x, c0, -, -, r5, -⟩ := A
   simp only [Eff.gh]
   rw [upd_ne _ _ (fun e => by subst e; rw [h] at r5; cases r5)]; exact h
 have nl : ∀ {t}, t ∈ oi.looksAt ops → ∀ d, oj.dst = some d → d ≠ t := fun {t} ht d hd e => h3 d hd (e ▸ ht)
 have nd : ∀ {t}, oi.dst = some t → ∀ d, oj.dst = some d → d ≠ t := fun {t} ht d hd e => h2 t ht (e ▸ hd)
 have B : Valid P ops w0 oi (a.put oj.dst yj.val) (yj.gh oj g) yi := by
  cases yi with
  | quiet v =>
   obtain ⟨q1, q2, q3⟩ := hi
   refine ⟨fun t ht => gj (q1 t ht) (nl ht), fun d hd => gj (q2 d hd) (nd hd), ?_⟩
   rw [hwi]
   rcases q3 with ⟨q3, q4⟩ | q3
   ·exact .inl ⟨q3, fun w hw => (quietAt_put hsi h3).2 (q4 w hw)⟩
   ·exact .inr q3
  | new c =>
   obtain ⟨q1, q2, d, e, t, q3, q4, q5, q6, q7⟩ := hi
   exact ⟨fun t ht => gj (q1 t ht) (nl (guardT_looks ht)), by rw [hwi]; exact q2, d, e, t, q3, q4, by rw [size_put]; exact q5, gj q6 (nd q4), q7⟩
  | put d c =>
   obtain ⟨q1, q0, q2, t, x, c0, q3, q4, q5, q6⟩ := hi
   have hx : x ∈ oi.op.operands := by rw [q3]; simp [Op.operands]
   refine ⟨fun t ht => gj (q1 t ht) (nl (guardT_looks ht)), fun d hd => gj (q0 d hd) (nd hd), by rw [hwi]; exact q2, t, x, c0, q3, fun t ht => gj (q4 t ht) (nl (oper_looks hx ht)), ?_, by rw [eval_put' hx h3]; exact q6⟩
   cases yj with
   | quiet v => exact q5
   | new c' =>
    obtain ⟨-, -, d', e', t', -, r4, -, r6, -⟩ := A
    simp only [Eff.gh, r4]
    rw [upd_ne _ _ (fun e => by subst e; rw [r6] at q5; cases q5)]; exact q5
   | put d' c' =>
    obtain ⟨-, -, -, t', x', c0', -, -, r5, -⟩ := hj
    simp only [Eff.gh] at r5 ⊢
    have hne : d ≠ d' := fun e => by subst e; rw [upd_same] at r5; simp at r5
    rw [upd_ne _ _ hne]; exact q5
 refine ⟨A, B, ?_⟩
 cases yi with
 | quiet v => rfl
 | new c =>
  obtain ⟨-, -, d, e, t, q3, q4, q5, q6, q7⟩ := hi
  cases yj with
  | quiet v => rfl
  | new c' =>
   obtain ⟨-, -, d', e', t', -, r4, -, r6, -⟩ := hj
   simp only [Eff.gh, q4, r4] at r6 ⊢
   exact upd_comm _ _ _ (fun e => (upd_none r6).1 e.symm |>.elim) |> fun h => by first | exact h | exact h.symm
  | put d' c' =>
   obtain ⟨-, -, -, t', x', c0', r3, -⟩ := hj
   have hd : d' ∈ oj.looksAt ops := oper_looks (x := .tmp d') (by rw [r3]; simp [Op.operands]) (by simp [operT])
   simp only [Eff.gh, q4]
   exact upd_comm _ _ _ (fun e => h1 d q4 (by rw [← e]; exact hd))
 | put d c =>
  obtain ⟨-, -, -, t, x, c0, -, -, q5, -⟩ := hi
  cases yj with
  | quiet v => rfl
  | new c' =>
   obtain ⟨-, -, d', e', t', -, r4, -, r6, -⟩ := hj
   simp only [Eff.gh, r4] at r6 ⊢
   exact upd_comm _ _ _ (fun e => (upd_none r6).1 e.symm |>.elim) |> fun h => by first | exact h | exact h.symm
  | put d' c' =>
   obtain ⟨-, -, -, t', x', c0', -, -, r5, -⟩ := hj
   simp only [Eff.gh] at r5 ⊢
   have hne : d' ≠ d := fun e => by subst e; rw [upd_same] at r5; simp at r5
   exact upd_comm _ _ _ hne
def gOp (P : Program) (ops : Array Oper) (w0 : World) (i : Nat) (K : Act → Gh → Prop) (a : Act) (g : Gh) : Prop :=
 match ops[i]? with
 | none => K a g
 | some o => ∃ y, Valid P ops w0 o a g y ∧ K (a.put o.dst y.val) (y.gh o g)
theorem gOp_mono {i : Nat} {a : Act} {g : Gh} {K K' : Act → Gh → Prop} (h : ∀ a g, K a g → K' a g) (hh : gOp P ops w0 i K a g) : gOp P ops w0 i K' a g := by
 unfold gOp at *
 split
 ·exact h _ _ (by simpa [*] using hh)
 ·rename_i o ho
  simp only [ho] at hh
  obtain ⟨y, h1, h2⟩ := hh
  exact ⟨y, h1, h _ _ h2⟩
theorem gOp_of {i : Nat} {o : Oper} {y : Eff} {a : Act} {g : Gh} (hi : ops[i]? = some o) (hy : Valid P ops w0 o a g y) {K : Act → Gh → Prop} (h : K (a.put o.dst y.val) (y.gh o g)) : gOp P ops w0 i K a g := by
 unfold gOp; simp only [hi]; exact ⟨y, hy, h⟩
def wpAnyG (P : Program) (md : Region.Mode) (ops : Array Oper) (w0 : World) (Q : Act → Gh → Prop) : Nat → Array Bool → Act → Gh → Prop
 | 0, listed, a, g => Region.ready md ops listed = [] ∧ Q a g
 | fuel + 1, listed, a, g => (Region.ready md ops listed = [] → Q a g) ∧ ∀ i ∈ Region.ready md ops listed, gOp P ops w0 i (wpAnyG P md ops w0 Q fuel (listed.setIfInBounds i true)) a g
theorem gOp_put {j : Nat} {oi oj : Oper} {y : Eff} (hj : ops[j]? = some oj) (hap : oi.apart ops oj = true) (hsi : ∀ cs b, oi.op ≠ .select cs b) (hsj : ∀ cs b, oj.op ≠ .select cs b) {K : Act → Gh → Prop} {a : Act} {g : Gh}
  (hy : Valid P ops w0 oi a g y) (h : gOp P ops w0 j K (a.put oi.dst y.val) (y.gh oi g)) :
  gOp P ops w0 j (fun a' g' => Valid P ops w0 oi a' g' y ∧ K (a'.put oi.dst y.val) (y.gh oi g')) a g := by
 obtain ⟨h1, h2, h3⟩ := Oper.apart_spec hap
 unfold gOp at *
 simp only [hj] at *
 obtain ⟨z, hz, hK⟩ := h
 obtain ⟨A, B, C⟩ := Valid.back hap hsi hsj hy hz
 refine ⟨z, A, B, ?_⟩
 rw [C, ← Act.put_comm a y.val z.val h2]
 exact hK
theorem wpAnyG_first {Q : Act → Gh → Prop} {i : Nat} {oi : Oper} {y : Eff} (hi : ops[i]? = some oi) (hsel : ∀ (j : Nat) (o : Oper) cs b, ops[j]? = some o → o.op ≠ .select cs b) :
  ∀ (fuel : Nat) (listed : Array Bool) (a : Act) (g : Gh),
   (∀ j oj, ops[j]? = some oj → j ≠ i → listed.getD j true = false → (∀ e ∈ oj.after, Region.binds md e = true → e.on ≠ i) → oi.apart ops oj = true) →
   i ∈ Region.ready md ops listed → Valid P ops w0 oi a g y →
   wpAnyG P md ops w0 Q fuel (listed.setIfInBounds i true) (a.put oi.dst y.val) (y.gh oi g) → wpAnyG P md ops w0 Q (fuel + 1) listed a g := by
 intro fuel
 induction fuel with
 | zero =>
  intro listed a g _ hr hy H
  refine ⟨fun h => (by rw [h] at hr; cases hr), fun j hj => ?_⟩
  by_cases hji : j = i
  ·subst hji; exact gOp_of hi hy H
  ·have := ready_mono hj hji
   rw [H.1] at this
   cases this
 | succ fuel ih =>
  intro listed a g hfree hr hy H
  refine ⟨fun h => (by rw [h] at hr; cases hr), fun j hj => ?_⟩
  by_cases hji : j = i
  ·subst hji; exact gOp_of hi hy H
  ·have h1 := H.2 j (ready_mono hj hji)
   obtain ⟨hjun, oj, hoj, hall⟩ := mem_ready.1 hj
   have hnot : ∀ e ∈ oj.after, Region.binds md e = true → e.on ≠ i := fun e he hb heq => by
    have h1 := hall e he hb
    have h0 := (mem_ready.1 hr).1
    rw [heq] at h1
    rcases Nat.lt_or_ge i listed.size with h' | h'
    ·simp [h'] at h0 h1; rw [h0] at h1; cases h1
    ·simp [Array.getElem?_eq_none h'] at h1
   have h2 := gOp_put hoj (hfree j oj hoj hji hjun hnot) (fun cs b => hsel i oi cs b hi) (fun cs b => hsel j oj cs b hoj) hy h1
   have hfree' : ∀ k ok, ops[k]? = some ok → k ≠ i → (listed.setIfInBounds j true).getD k true = false →
     (∀ e ∈ ok.after, Region.binds md e = true → e.on ≠ i) → oi.apart ops ok = true := fun k ok hk hki hun hno => by
    refine hfree k ok hk hki ?_ hno
    by_cases hjk : j = k
    ·subst hjk; exact hjun
    ·rw [getD_set_ne true hjk] at hun; exact hun
   refine gOp_mono (fun a' g' h3 => ih (listed.setIfInBounds j true) a' g' hfree' (ready_mono hr (Ne.symm hji)) h3.1 ?_) h2
   rw [Array.setIfInBounds_comm _ _ hji]
   exact h3.2
/-- The walk in the order of the text. -/
def wpLexG (P : Program) (ops : Array Oper) (w0 : World) (Q : Act → Gh → Prop) : List Oper → Act → Gh → Prop
 | [], a, g => Q a g
 | o :: rest, a, g => ∃ y, Valid P ops w0 o a g y ∧ wpLexG P ops w0 Q rest (a.put o.dst y.val) (y.gh o g)
theorem wpAnyG_lex {Q : Act → Gh → Prop} (hs : Region.noSelect ops = true) : ∀ (l : List Oper) (k : Nat) (listed : Array Bool) (a : Act) (g : Gh), (∀ j, l[j]? = ops[k + j]?) →
  Region.lexFrom md ops l.length k listed = true → wpLexG P ops w0 Q l a g → wpAnyG P md ops w0 Q l.length listed a g
 | [], _, _, _, _, _, hB, h => ⟨by simpa [Region.lexFrom] using hB, h⟩
 | o :: l, k, listed, a, g, hl, hB, h => by
  have h0 : ops[k]? = some o := by simpa using (hl 0).symm
  simp only [List.length_cons, Region.lexFrom, Bool.and_eq_true] at hB
  obtain ⟨⟨hr, hf⟩, hB'⟩ := hB
  obtain ⟨y, hy, hK⟩ := h
  exact wpAnyG_first h0 (Region.noSelect_spec hs) l.length listed a g (Region.free_spec h0 hf) (by simpa using hr) hy
   (wpAnyG_lex hs l (k + 1) _ _ _ (fun j => by have := hl (j + 1); simpa [Nat.add_assoc, Nat.add_comm 1 j] using this) hB' hK)
/-- The frame with the boxes' addresses in their slots. -/
def over (κ : Nat → Nat) (g : Gh) (a : Act) : Act := { a with tmps := a.tmps.mapIdx fun t v => if (g t).isSome then .pointer (some ⟨κ t, 0, none⟩) else v }
theorem over_get (κ : Nat → Nat) (g : Gh) (a : Act) (t : Nat) (h : g t = none) : (over κ g a).tmps[t]? = a.tmps[t]? := by
 simp [over, h]
theorem over_eval {κ : Nat → Nat} {g : Gh} {a : Act} {x : Operand} (h : ∀ t ∈ operT x, g t = none) : (over κ g a).eval x = a.eval x := by
 cases x with
 | tmp t =>
  have := over_get κ g a t (h t (by simp [operT]))
  simp only [Act.eval, Array.getD_eq_getD_getElem?, this]
 | _ => rfl
theorem over_at {κ : Nat → Nat} {g : Gh} {a : Act} {d : Nat} {x : List Value × Bool} (h : g d = some x) (hd : d < a.tmps.size) : (over κ g a).eval (.tmp d) = .pointer (some ⟨κ d, 0, none⟩) := by
 simp [Act.eval, over, Array.getD_eq_getD_getElem?, h, hd]
theorem over_put {κ : Nat → Nat} {g : Gh} {a : Act} {dst : Option Tmp} {v : Value} (h : ∀ d, dst = some d → g d = none) : (over κ g a).put dst v = over κ g (a.put dst v) := by
 cases dst with
 | none => rfl
 | some d =>
  have hd := h d rfl
  simp only [over, Act.put]
  congr 1
  apply Array.ext_getElem?
  intro i
  by_cases hi : d = i
  ·subst hi
   by_cases hs : d < a.tmps.size
   ·simp [hs, hd]
   ·simp [hs]
  ·simp [Array.getElem?_setIfInBounds_ne hi]
theorem over_congr {κ κ' : Nat → Nat} {g g' : Gh} (a : Act) (h : ∀ t, (g t).isSome = (g' t).isSome ∧ ((g t).isSome = true → κ t = κ' t)) : over κ g a = over κ' g' a := by
 simp only [over]
 congr 1
 apply Array.ext_getElem?
 intro i
 simp only [Array.getElem?_mapIdx]
 cases a.tmps[i]? with
 | none => rfl
 | some v =>
  simp only [Option.map_some]
  obtain ⟨h1, h2⟩ := h i
  cases hg : (g i).isSome
  ·rw [hg] at h1; simp [← h1]
  ·rw [hg] at h1; simp [← h1, h2 hg]
theorem over_new {κ : Nat → Nat} {g : Gh} {a : Act} {d : Nat} (x : List Value × Bool) (h : g d = none) (k : Nat) (hd : d < a.tmps.size) :
  (over κ g a).put (some d) (.pointer (some ⟨k, 0, none⟩)) = over (fun t => if t = d then k else κ t) (upd g d x) (a.put (some d) undef) := by
 simp only [over, Act.put]
 congr 1
 apply Array.ext_getElem?
 intro i
 by_cases hi : d = i
 ·subst hi
  simp [hd, upd_same]
 ·have hi' : ¬ i = d := fun e => hi e.symm
  simp [Array.getElem?_setIfInBounds_ne hi, upd_ne g x hi', hi']
theorem wanted_over {κ : Nat → Nat} {g : Gh} {a : Act} {o : Oper} (h : ∀ t ∈ guardT ops o, g t = none) : Region.wanted o (yielded ops (over κ g a).tmps) = Region.wanted o (yielded ops a.tmps) := by
 unfold Region.wanted
 cases hg : o.guard with
 | none => rfl
 | some gw =>
  obtain ⟨gg, want⟩ := gw
  have hy : yielded ops (over κ g a).tmps gg = yielded ops a.tmps gg := by
   unfold yielded
   cases ht : (ops[gg]?).bind (·.dst) with
   | none => rfl
   | some t =>
    have := over_get κ g a t (h t (by simp [guardT, hg, ht]))
    simp [this]
  simp only [hy]
theorem exec_over {κ : Nat → Nat} {g : Gh} {a : Act} {o : Oper} (hs : ∀ cs b, o.op ≠ .select cs b) (h : ∀ t ∈ o.looksAt ops, g t = none) : execOp (over κ g a).eval o = execOp a.eval o :=
 execOp_congr o hs fun x hx => over_eval fun t ht => h t (oper_looks hx ht)
/-- What is known of a world, and where the boxes are. -/
structure Sim (w0 : World) (g : Gh) (κ : Nat → Nat) (w : World) : Prop where
 base : Below w0.heap.size w0 w
 hd : ∀ d c b, g d = some (c, b) → w0.heap.size ≤ κ d ∧ Hd w (κ d) c
 inj : ∀ d d', (g d).isSome → (g d').isSome → d ≠ d' → κ d ≠ κ d'
theorem Sim.below {g : Gh} {κ : Nat → Nat} {w w' : World} (h : Sim w0 g κ w) (hb : Below w.heap.size w w') : Sim w0 g κ w' :=
 ⟨h.base.trans (hb.mono h.base.size), fun d c b hd => ⟨(h.hd d c b hd).1, (h.hd d c b hd).2.below hb⟩, h.inj⟩
theorem Sim.new {g : Gh} {κ : Nat → Nat} {w : World} (h : Sim w0 g κ w) {d : Nat} (hd : g d = none) (c : List Value) (t : TypeId) :
  Sim w0 (upd g d (c, false)) (fun s => if s = d then w.heap.size else κ s) (w.alloc (.cells c.toArray t)) := by
 have hb : Below w.heap.size w (w.alloc (.cells c.toArray t)) := (Below.refl _ _).alloc (Nat.le_refl _) _
 have hsz : (w.alloc (.cells c.toArray t)).heap.size = w.heap.size + 1 := World.size_alloc _ _
 refine ⟨h.base.trans (hb.mono h.base.size), fun s c' b hs => ?_, fun s s' h1 h2 hne => ?_⟩
 ·by_cases e : s = d
  ·subst e
   rw [upd_same] at hs
   simp only [Option.some.injEq, Prod.mk.injEq] at hs
   obtain ⟨rfl, rfl⟩ := hs
   simp only [if_true]
   have hrow := heap_alloc_new w (.cells c.toArray t)
   exact ⟨h.base.size, fun i hi => by rw [cell_of_row _ _ i _ _ _ hrow]; simp [hi], fun j => frozen_of_row _ _ j _ _ hrow, by rw [hsz]; omega, _, _, hrow, by simp⟩
  ·rw [upd_ne _ _ e] at hs
   simp only [e, if_false]
   exact ⟨(h.hd s c' b hs).1, (h.hd s c' b hs).2.below hb⟩
 ·have lt : ∀ {s}, s ≠ d → (upd g d (c, false) s).isSome → κ s < w.heap.size := fun {s} e hs => by
   rw [upd_ne _ _ e] at hs
   obtain ⟨⟨c', b⟩, hx⟩ := Option.isSome_iff_exists.1 hs
   exact (h.hd s c' b hx).2.lt
  by_cases e : s = d
  ·have e' : s' ≠ d := fun e' => hne (e.trans e'.symm)
   have := lt e' h2
   simp only [e, e', if_true, if_false]; omega
  ·by_cases e' : s' = d
   ·have := lt e h1
    simp only [e, e', if_true, if_false]; omega
   ·simp only [e, e', if_false]
    rw [upd_ne _ _ e] at h1; rw [upd_ne _ _ e'] at h2
    exact h.inj s s' h1 h2 hne
theorem Sim.put {g : Gh} {κ : Nat → Nat} {w w' : World} (h : Sim w0 g κ w) {d : Nat} {c0 c : List Value} {b : Bool} (hd : g d = some (c0, b)) (hh : Hd w' (κ d) c) (hu : Upd (κ d) w w') : Sim w0 (upd g d (c, true)) κ w' := by
 have hk := (h.hd d c0 b hd).1
 refine ⟨h.base.trans (hu.below hk), fun s c' b' hs => ?_, fun s s' h1 h2 hne => ?_⟩
 ·by_cases e : s = d
  ·subst e
   rw [upd_same] at hs
   simp only [Option.some.injEq, Prod.mk.injEq] at hs
   obtain ⟨rfl, rfl⟩ := hs
   exact ⟨hk, hh⟩
  ·rw [upd_ne _ _ e] at hs
   exact ⟨(h.hd s c' b' hs).1, hu.hd (h.inj s d (by rw [hs]; rfl) (by rw [hd]; rfl) e) (h.hd s c' b' hs).2⟩
 ·have up : ∀ {s}, (upd g d (c, true) s).isSome → (g s).isSome := fun {s} hs => by
   by_cases e : s = d
   ·subst e; rw [hd]; rfl
   ·rwa [upd_ne _ _ e] at hs
  exact h.inj s s' (up h1) (up h2) hne
theorem wp_of_valid {o : Oper} (hs : ∀ cs b, o.op ≠ .select cs b) {a : Act} {g : Gh} {κ : Nat → Nat} {y : Eff} {w : World} {K : Act → Gh → Prop} {K' : Act → World → Prop} {Q' : Exit → Act → World → Prop}
  (hy : Valid P ops w0 o a g y) (hw : Sim w0 g κ w) (hsz : ∀ d, (g d).isSome → d < a.tmps.size) (hk : K (a.put o.dst y.val) (y.gh o g))
  (h : ∀ a' g' κ' w', Sim w0 g' κ' w' → (∀ d, (g' d).isSome → d < a'.tmps.size) → K a' g' → K' (over κ' g' a') w') :
  (if Region.wanted o (yielded ops (over κ g a).tmps) then o.wp P (over κ g a) w K' Q' ∨ (o.asks P (over κ g a) w ∧ LetsOut Q') else K' ((over κ g a).put o.dst undef) w) := by
 cases y with
 | quiet v =>
  obtain ⟨q1, q2, q3⟩ := hy
  rw [wanted_over fun t ht => q1 t (guardT_looks ht)]
  have fin : ∀ w', Sim w0 g κ w' → K' ((over κ g a).put o.dst v) w' := fun w' hw' => by
   rw [over_put q2]; exact h _ _ _ _ hw' (by rw [size_put]; exact hsz) hk
  rcases q3 with ⟨q3, q4⟩ | ⟨q3, rfl⟩
  ·simp only [q3, if_true]
   refine .inl ?_
   have q5 := q4 w hw.base
   unfold Oper.quietAt at q5
   unfold Oper.wp
   rw [exec_over hs q1]
   generalize (execOp a.eval o).run P w = r at *
   cases r with
   | ok n w' =>
    cases n <;> simp only [Oper.quietUpon] at q5 <;> simp only [Oper.upon]
    case value u =>
     obtain ⟨rfl, rfl⟩ := q5
     exact fin _ hw
    case skip =>
     obtain ⟨rfl, e2⟩ := q5
     rw [← e2]
     exact fin _ hw
    case enter f args =>
     obtain ⟨rfl, hc⟩ := q5
     exact hc.mono fun e w'' ⟨he, hw''⟩ => by subst he; exact fin _ (hw.below hw'')
   | halt x w' => simp only [Oper.quietUpon] at q5
  ·simp only [q3, Bool.false_eq_true, if_false]
   exact fin _ hw
 | new c =>
  obtain ⟨q1, q2, d, e, t, q3, q4, q5, q6, q7⟩ := hy
  rw [wanted_over q1]
  simp only [q2, if_true]
  refine .inl ?_
  unfold Oper.wp
  have hr : (execOp (over κ g a).eval o).run P w = .ok (.value (.pointer (some ⟨w.heap.size, 0, none⟩))) (w.alloc (.cells c.toArray t)) := by
   simp only [execOp, q3]
   rw [Sem.run_bind, q7 w]
   rfl
  rw [hr]
  simp only [Oper.upon, q4]
  rw [over_new (c, false) q6 _ q5]
  simp only [Eff.val, Eff.gh, q4] at hk
  refine h _ _ _ _ (hw.new q6 c t) (fun s hs => ?_) hk
  rw [size_put]
  by_cases e : s = d
  ·subst e; exact q5
  ·rw [upd_ne _ _ e] at hs; exact hsz s hs
 | put d c =>
  obtain ⟨q1, q0, q2, t, x, c0, q3, q4, q5, q6⟩ := hy
  rw [wanted_over q1]
  simp only [q2, if_true]
  refine .inl ?_
  unfold Oper.wp
  have hd := hw.hd d c0 false q5
  obtain ⟨w', r1, r2, r3⟩ := q6 w (κ d) hd.2
  have hr : (execOp (over κ g a).eval o).run P w = .ok .skip w' := by
   simp only [execOp, q3]
   rw [over_at q5 (hsz d (by rw [q5]; rfl)), over_eval q4, Sem.run_bind, r1]
   rfl
  rw [hr]
  simp only [Oper.upon]
  rw [over_put q0]
  simp only [Eff.val, Eff.gh] at hk
  have hc : over κ g (a.put o.dst undef) = over κ (upd g d (c, true)) (a.put o.dst undef) := over_congr _ fun s => by
   by_cases e : s = d
   ·subst e; rw [upd_same, q5]; simp
   ·rw [upd_ne _ _ e]; simp
  rw [hc]
  refine h _ _ _ _ (hw.put q5 r2 r3) (fun s hs => ?_) hk
  rw [size_put]
  by_cases e : s = d
  ·subst e; exact hsz s (by rw [q5]; rfl)
  ·rw [upd_ne _ _ e] at hs; exact hsz s hs
theorem wpAny_of_gh (hsel : ∀ (j : Nat) (o : Oper) cs b, ops[j]? = some o → o.op ≠ .select cs b) {Q : Act → Gh → Prop} {Q' : Exit → Act → World → Prop} (hQ : ∀ a g κ w, Sim w0 g κ w → Q a g → Q' .normal (over κ g a) w) :
    ∀ (fuel : Nat) (listed : Array Bool) (a : Act) (g : Gh) (κ : Nat → Nat) (w : World), Sim w0 g κ w → (∀ d, (g d).isSome → d < a.tmps.size) → wpAnyG P md ops w0 Q fuel listed a g → wpAny P md ops Q' fuel listed (over κ g a) w
  | 0, _, _, _, _, _, hw, _, h => ⟨h.1, hQ _ _ _ _ hw h.2⟩
  | fuel + 1, listed, a, g, κ, w, hw, hz, h => ⟨fun h0 => hQ _ _ _ _ hw (h.1 h0), fun i hi => by
      have hg := h.2 i hi
      unfold gOp at hg
      unfold wpOp
      cases ho : ops[i]? with
      | none => simp only [ho] at hg; exact wpAny_of_gh hsel hQ fuel _ _ _ _ _ hw hz hg
      | some o =>
        simp only [ho] at hg
        obtain ⟨y, hy, hk⟩ := hg
        exact wp_of_valid (hsel i o · · ho) hy hw hz hk (fun a' g' κ' w' hw' hz' hk' => wpAny_of_gh hsel hQ fuel _ _ _ _ _ hw' hz' hk')⟩
theorem over_none (κ : Nat → Nat) (a : Act) : over κ (fun _ => none) a = a := by
 unfold over
 cases a with
 | mk t d =>
  simp only [Act.mk.injEq, and_true]
  apply Array.ext_getElem?
  intro i
  simp
/-- **One walk in the order of the text serves every order.** -/
theorem region_gh {id : Nat} {Q : Exit → Act → World → Prop} {a : Act} {w : World} {l : List Oper} (hm : P.follows .mixedOrders = true) (hB : Region.lexB .any l.toArray = true)
  (h : wpLexG P l.toArray w.drew (fun a' g' => ∀ κ w', Sim w.drew g' κ w' → Q .normal (over κ g' a') w') l a (fun _ => none)) : (Code.region id l.toArray true).wp P Q a w := by
 simp only [Region.lexB, Bool.and_eq_true] at hB
 have hsel := Region.noSelect_spec hB.1
 refine wp_region_any hm ?_
 have h1 := wpAnyG_lex (md := .any) (P := P) (w0 := w.drew) hB.1 l 0 (Array.replicate l.length false) a (fun _ => none) (by simp) (by simpa using hB.2) h
 have h2 := wpAny_of_gh (Q' := Q) hsel (fun a' g' κ w' hw' hq => hq κ w' hw') _ _ _ _ (fun _ => 0) w.drew ⟨Below.refl _ _, (fun _ _ _ h => by cases h), (fun _ _ h => by cases h)⟩ (fun _ h => by cases h) h1
 rw [over_none] at h2
 simpa using h2
/-- The new boxes, as a list. -/
def toG : List (Nat × List Value × Bool) → Gh
 | [] => fun _ => none
 | (d, x) :: l => upd (toG l) d x
theorem toG_none {l : List (Nat × List Value × Bool)} {t : Nat} (h : ∀ p ∈ l, p.1 ≠ t) : toG l t = none := by
 induction l with
 | nil => rfl
 | cons p l ih =>
  obtain ⟨d, x⟩ := p
  rw [toG, upd_ne _ _ (fun e => h _ List.mem_cons_self e.symm)]
  exact ih fun q hq => h q (List.mem_cons_of_mem _ hq)
/-- Slots apart from the boxes' own. -/
def clearT (l : List (Nat × List Value × Bool)) (ts : List Nat) : Bool := ts.all fun t => (l.map (·.1)).all fun d => !(d == t)
theorem clearT_spec {l : List (Nat × List Value × Bool)} {ts : List Nat} (h : clearT l ts = true) : ∀ t ∈ ts, toG l t = none := fun t ht => by
 unfold clearT at h
 rw [List.all_eq_true] at h
 have := h t ht
 rw [List.all_eq_true] at this
 exact toG_none fun p hp e => by
  have := this p.1 (List.mem_map.2 ⟨p, hp, rfl⟩)
  simp [e] at this
def seesT (ops : Array Oper) (o : Oper) : List Nat := o.looksAt ops ++ o.dst.toList
variable {Q : Act → Gh → Prop}
theorem lexG_nil {a : Act} {g : Gh} (h : Q a g) : wpLexG P ops w0 Q [] a g := h
theorem quiet_uniq {o : Oper} {a : Act} {z : World} {u v : Value} {C D : World → Prop} (h1 : o.quietAt P a C z u) (h2 : o.quietAt P a D z v) : u = v := by
 unfold Oper.quietAt at h1 h2
 generalize (execOp a.eval o).run P z = r at *
 cases r with
 | ok n w' =>
  cases n <;> simp only [Oper.quietUpon] at h1 h2
  case value x => rw [← h1.2, ← h2.2]
  case skip => rw [h1.2, h2.2]
  case enter f args => exact Calls.uniq h1.2 h2.2
 | halt x w' => simp only [Oper.quietUpon] at h1
theorem lex_quiet {g : Gh} {l2 : List Oper} : ∀ {l1 : List Oper} {a : Act}, (∀ o ∈ l1, ∀ t ∈ seesT ops o, g t = none) →
  (∀ z, Below w0.heap.size w0 z → wpQuiet P ops (fun w'' => Below z.heap.size z w'') (fun a' => wpLexG P ops w0 Q l2 a' g) l1 a) → wpLexG P ops w0 Q (l1 ++ l2) a g
 | [], a, _, h => h w0 (Below.refl _ _)
 | o :: l1, a, hb, h => by
  have hb0 := hb o List.mem_cons_self
  have v1 : ∀ t ∈ o.looksAt ops, g t = none := fun t ht => hb0 t (List.mem_append_left _ ht)
  have v2 : ∀ d, o.dst = some d → g d = none := fun d hd => hb0 d (List.mem_append_right _ (by rw [hd]; simp))
  have rest := fun {a'} => lex_quiet (l2 := l2) (l1 := l1) (a := a') fun o' ho' => hb o' (List.mem_cons_of_mem _ ho')
  rw [List.cons_append]
  by_cases hw : Region.wanted o (yielded ops a.tmps) = true
  ·simp only [wpQuiet, hw, if_true, Oper.quiet] at h
   obtain ⟨v, hv, -⟩ := h w0 (Below.refl _ _)
   have hall : ∀ z, Below w0.heap.size w0 z → (∀ w, Below z.heap.size z w → o.quietAt P a (fun w'' => Below z.heap.size z w'') w v) ∧ wpQuiet P ops (fun w'' => Below z.heap.size z w'') (fun a' => wpLexG P ops w0 Q l2 a' g) l1 (a.put o.dst v) := fun z hz => by
    obtain ⟨u, hu, hn⟩ := h z hz
    obtain rfl : u = v := quiet_uniq (hu z (Below.refl _ _)) (hv z hz)
    exact ⟨hu, hn⟩
   exact ⟨.quiet v, ⟨v1, v2, .inl ⟨hw, fun w hww => (hall w hww).1 w (Below.refl _ _)⟩⟩, rest fun z hz => (hall z hz).2⟩
  ·simp only [wpQuiet, hw] at h
   exact ⟨.quiet undef, ⟨v1, v2, .inr ⟨by simpa using hw, rfl⟩⟩, rest h⟩
/-- A stretch of the text that only reads and calls. -/
theorem lex_seg (n : Nat) {gl : List (Nat × List Value × Bool)} {l : List Oper} {a : Act} (hb : (l.take n).all (fun o => clearT gl (seesT ops o)) = true)
  (h : ∀ (α : Type) (_ : Nonempty α) (F : α → World), (∀ x, Below w0.heap.size w0 (F x)) → (∀ x W, Below (F x).heap.size (F x) W → ∃ y, W = F y) →
   wpQuiet P ops (fun w'' => ∃ x, w'' = F x) (fun a' => wpLexG P ops w0 Q (l.drop n) a' (toG gl)) (l.take n) a) : wpLexG P ops w0 Q l a (toG gl) := by
 have key : wpLexG P ops w0 Q (l.take n ++ l.drop n) a (toG gl) := by
  refine lex_quiet (fun o ho => ?_) fun z hz => ?_
  ·rw [List.all_eq_true] at hb
   exact clearT_spec (hb o ho)
  ·have := h {W : World // Below z.heap.size z W} ⟨⟨z, Below.refl _ _⟩⟩ (fun x => x.1) (fun x => hz.trans (x.2.mono hz.size)) (fun x W hW => ⟨⟨W, x.2.trans (hW.mono x.2.size)⟩, rfl⟩)
   have e : (fun w'' => ∃ x : {W : World // Below z.heap.size z W}, w'' = x.1) = fun w'' => Below z.heap.size z w'' := by
    funext w''
    exact propext ⟨fun ⟨x, hx⟩ => hx ▸ x.2, fun hx => ⟨⟨w'', hx⟩, rfl⟩⟩
   rwa [e] at this
 rwa [List.take_append_drop] at key
theorem seg_call {α : Type} {F : α → World} (h2 : ∀ x W, Below (F x).heap.size (F x) W → ∃ y, W = F y) {f : FuncId} {args : Array Value} {v : Value}
  (h : ∀ w, Calls P f args w fun e w' => e = .returned v ∧ Below w.heap.size w w') (x : α) : Calls P f args (F x) fun e w'' => e = .returned v ∧ ∃ y, w'' = F y :=
 (h (F x)).mono fun _ _ ⟨he, hb⟩ => ⟨he, h2 x _ hb⟩
/-- A new box. -/
theorem lex_new {gl : List (Nat × List Value × Bool)} {o : Oper} {rest : List Oper} {a : Act} (c : List Value) (d : Nat) (e t : TypeId) (ho : o.op = .alloc e) (hd : o.dst = some d) (hz : d < a.tmps.size)
  (hc : clearT gl (d :: guardT ops o) = true) (hw : Region.wanted o (yielded ops a.tmps) = true)
  (hr : ∀ w, (Instr.alloc e true (.tuple #[])).run P w = .ok (.pointer (some ⟨w.heap.size, 0, none⟩)) (w.alloc (.cells c.toArray t)))
  (h : wpLexG P ops w0 Q rest (a.put (some d) undef) (toG ((d, c, false) :: gl))) : wpLexG P ops w0 Q (o :: rest) a (toG gl) := by
 have hcs := clearT_spec hc
 refine ⟨.new c, ⟨fun t ht => hcs t (List.mem_cons_of_mem _ ht), hw, d, e, t, ho, hd, hz, hcs d List.mem_cons_self, hr⟩, ?_⟩
 simpa only [Eff.val, Eff.gh, hd, toG] using h
/-- A store into a new box. -/
theorem lex_put {gl : List (Nat × List Value × Bool)} {o : Oper} {rest : List Oper} {a : Act} (c c0 : List Value) (d : Nat) (t : TypeId) (x : Operand) (ho : o.op = .store t (.tmp d) x)
  (hc : clearT gl (operT x ++ guardT ops o ++ o.dst.toList) = true) (hg : toG gl d = some (c0, false)) (hw : Region.wanted o (yielded ops a.tmps) = true)
  (hr : ∀ w k, Hd w k c0 → ∃ w', (Instr.storeAt t (.pointer (some ⟨k, 0, none⟩)) (a.eval x)).run P w = .ok () w' ∧ Hd w' k c ∧ Upd k w w')
  (h : wpLexG P ops w0 Q rest (a.put o.dst undef) (toG ((d, c, true) :: gl))) : wpLexG P ops w0 Q (o :: rest) a (toG gl) := by
 have hcs := clearT_spec hc
 refine ⟨.put d c, ⟨fun t ht => hcs t (by simp [ht]), fun d' hd' => hcs d' (by simp [hd']), hw, t, x, c0, ho, fun t ht => hcs t (by simp [ht]), hg, hr⟩, ?_⟩
 simpa only [Eff.val, Eff.gh, toG] using h
theorem over_toG (κ : Nat → Nat) (d : Nat) (x : List Value × Bool) (l : List (Nat × List Value × Bool)) (a : Act) :
  over κ (toG ((d, x) :: l)) a = (over κ (toG l) a).put (some d) (.pointer (some ⟨κ d, 0, none⟩)) := by
 simp only [over, Act.put, toG]
 congr 1
 apply Array.ext_getElem?
 intro i
 by_cases hi : d = i
 ·subst hi
  by_cases hs : d < a.tmps.size
  ·simp [hs, upd_same]
  ·simp [hs]
 ·have hi' : ¬ i = d := fun e => hi e.symm
  simp [Array.getElem?_setIfInBounds_ne hi, upd_ne (toG l) x hi']
theorem over_nil (κ : Nat → Nat) (a : Act) : over κ (toG []) a = a := over_none κ a
end
end Go.Proofs.YtfmakoiiibacjaaDoor
namespace Go.Proofs.YtfmakoiiibacjaaDoor
open Go.RowKit
attribute [local irreducible] lo hs sm s64 c64 d64 b64 mh ml pd pc qd qc val hiB str cmpI srD lz nb
/-- The cells of a number. -/
abbrev nc (n : Nat) : List Value := [.int .u64 ((lo n : Nat) : Int), .string (hs n)]
theorem Hd.nx {w : World} {k n : Nat} (h : Hd w k (nc n)) : NX w k n :=
 ⟨⟨h.cell 0 (by simp), h.cell 1 (by simp), fun j => h.frz j⟩, h.lt⟩
theorem below_drew {x W : World} (hb : Below x.drew.heap.size x.drew W) : Below x.heap.size x W := ((Below.refl x.heap.size x).drew).trans hb
theorem NL.plus {w W : World} {L : List (Nat × Nat)} {k n : Nat} (h : NL w W L) (hw : w.heap.size ≤ k) (hk : ∀ p ∈ L, p.1 ≠ k) (hx : NX W k n) : NL w W ((k, n) :: L) := by
 refine ⟨h.bl, fun p hp => ?_, ?_⟩
 ·rcases List.mem_cons.1 hp with rfl | hp
  ·exact ⟨hw, hx⟩
  ·exact h.all p hp
 ·rw [List.map_cons, List.nodup_cons]
  exact ⟨fun hm => by obtain ⟨p, hp, he⟩ := List.mem_map.1 hm; exact hk p hp he, h.nd⟩
/-- The boxes that a region has made. -/
theorem NL.ghs {w x W : World} {L : List (Nat × Nat)} {g : Gh} {κ : Nat → Nat} (h : NL w x L) (hS : Sim x.drew g κ W) : ∀ (ds : List (Nat × Nat)), (ds.map (·.1)).Nodup → (∀ p ∈ ds, ∃ b, g p.1 = some (nc p.2, b)) →
  NL w W (ds.map (fun p => (κ p.1, p.2)) ++ L)
 | [], _, _ => h.call (below_drew hS.base)
 | p :: ds, hn, hg => by
  rw [List.map_cons, List.nodup_cons] at hn
  have ih := NL.ghs h hS ds hn.2 fun q hq => hg q (List.mem_cons_of_mem _ hq)
  obtain ⟨b, hb⟩ := hg p List.mem_cons_self
  obtain ⟨h1, h2⟩ := hS.hd _ _ _ hb
  refine ih.plus (Nat.le_trans h.bl.size h1) (fun q hq => ?_) h2.nx
  rcases List.mem_append.1 hq with hq | hq
  ·obtain ⟨r, hr, rfl⟩ := List.mem_map.1 hq
   obtain ⟨b', hb'⟩ := hg r (List.mem_cons_of_mem _ hr)
   exact hS.inj _ _ (by rw [hb']; rfl) (by rw [hb]; rfl) fun e => hn.1 (List.mem_map.2 ⟨r, hr, e⟩)
  ·have := (h.all q hq).2.lt
   have h1' : x.heap.size ≤ κ p.1 := h1
   omega
end Go.Proofs.YtfmakoiiibacjaaDoor
namespace Go.Proofs.YtfmakoiiibacjaaDoor
open Go.RowKit
section
variable {P : Program} {ops : Array Oper} {md : Region.Mode} {C : World → Prop}
def doneN (n : Nat) (listed : Array Bool) : Bool := (List.range n).all fun i => listed.getD i false
theorem doneN_iff {n : Nat} {listed : Array Bool} : doneN n listed = true ↔ ∀ i, i < n → listed.getD i false = true := by
 simp only [doneN, List.all_eq_true, List.mem_range]
theorem unl {listed : Array Bool} {i : Nat} (h : listed.getD i true = false) : listed.getD i false = false := by
 rcases Nat.lt_or_ge i listed.size with h' | h'
 ·simpa [h'] using h
 ·simp [Array.getElem?_eq_none h'] at h
/-- What has come up has what it waits for behind it. -/
def closedL (md : Region.Mode) (ops : Array Oper) (listed : Array Bool) : Prop := ∀ j o, ops[j]? = some o → listed.getD j false = true → ∀ e ∈ o.after, Region.binds md e = true → listed.getD e.on false = true
theorem closedL.set {listed : Array Bool} {j : Nat} (h : closedL md ops listed) (hj : j ∈ Region.ready md ops listed) : closedL md ops (listed.setIfInBounds j true) := by
 intro k o hk hl e he hb
 by_cases hkj : j = k
 ·subst hkj
  obtain ⟨-, o', ho', hall⟩ := mem_ready.1 hj
  rw [hk] at ho'
  obtain rfl := Option.some.inj ho'
  exact getD_set_true (hall e he hb)
 ·rw [getD_set_ne false hkj] at hl
  exact getD_set_true (h k o hk hl e he hb)
/-- What an operation waits for. -/
def predsOf (md : Region.Mode) (ops : Array Oper) (i : Nat) : List Nat := match ops[i]? with
 | none => []
 | some o => (o.after.toList.filter fun e => Region.binds md e).map fun e => e.on
def ancOf (md : Region.Mode) (ops : Array Oper) (j : Nat) : List Nat := (List.range ops.size).reverse.foldl (fun S i => if S.contains i then S ++ predsOf md ops i else S) (predsOf md ops j)
theorem preds_listed {listed : Array Bool} (h : closedL md ops listed) {i : Nat} (hi : listed.getD i false = true) : ∀ x ∈ predsOf md ops i, listed.getD x false = true := by
 intro x hx
 unfold predsOf at hx
 cases ho : ops[i]? with
 | none => simp [ho] at hx
 | some o =>
  simp only [ho, List.mem_map, List.mem_filter] at hx
  obtain ⟨e, ⟨he, hb⟩, rfl⟩ := hx
  exact h i o ho hi e (by simpa using he) hb
theorem fold_listed {listed : Array Bool} (h : closedL md ops listed) : ∀ (r S : List Nat), (∀ x ∈ S, listed.getD x false = true) →
  ∀ x ∈ r.foldl (fun S i => if S.contains i then S ++ predsOf md ops i else S) S, listed.getD x false = true
 | [], S, hS => hS
 | i :: r, S, hS => by
  rw [List.foldl_cons]
  refine fold_listed h r _ ?_
  by_cases hc : S.contains i = true
  ·rw [if_pos hc]
   intro x hx
   rcases List.mem_append.1 hx with hx | hx
   ·exact hS x hx
   ·exact preds_listed h (hS i (by simpa using hc)) x hx
  ·rw [if_neg hc]; exact hS
/-- The last operations wait for the first n. -/
def barB (md : Region.Mode) (ops : Array Oper) (n : Nat) : Bool := (List.range ops.size).all fun j => decide (j < n) || (List.range n).all fun i => (ancOf md ops j).contains i
theorem bar {n : Nat} {listed : Array Bool} {j : Nat} (hB : barB md ops n = true) (h : closedL md ops listed) (hj : j ∈ Region.ready md ops listed) (hd : doneN n listed = false) : j < n := by
 rcases Nat.lt_or_ge j n with hn | hn
 ·exact hn
 ·exfalso
  obtain ⟨-, o, ho, hall⟩ := mem_ready.1 hj
  have hjs : j < ops.size := (Array.getElem?_eq_some_iff.1 ho).1
  simp only [barB, List.all_eq_true, List.mem_range, Bool.or_eq_true, decide_eq_true_eq] at hB
  rcases hB j hjs with h1 | h1
  ·omega
  ·have hp : ∀ x ∈ predsOf md ops j, listed.getD x false = true := by
    intro x hx
    unfold predsOf at hx
    simp only [ho, List.mem_map, List.mem_filter] at hx
    obtain ⟨e, ⟨he, hb⟩, rfl⟩ := hx
    exact hall e (by simpa using he) hb
   have h2 : doneN n listed = true := doneN_iff.2 fun i hi => fold_listed h _ _ hp i (List.contains_iff_mem.1 (h1 i hi))
   rw [h2] at hd; cases hd
/-- Whatever order is picked from here on, till the first n have come up. -/
def wpAnyB (P : Program) (md : Region.Mode) (ops : Array Oper) (C : World → Prop) (n : Nat) (Q : Act → Prop) : Nat → Array Bool → Act → Prop
 | 0, listed, a => doneN n listed = true ∧ Q a
 | fuel + 1, listed, a => doneN n listed = false ∧ Region.ready md ops listed ≠ [] ∧ ∀ i ∈ Region.ready md ops listed, qOp P ops C i (wpAnyB P md ops C n Q fuel (listed.setIfInBounds i true)) a
theorem wpAnyB_first {n : Nat} {Q : Act → Prop} {i : Nat} {oi : Oper} {v : Value} (hi : ops[i]? = some oi) (hin : i < n) (hB : barB md ops n = true) (hsel : ∀ (j : Nat) (o : Oper) cs b, ops[j]? = some o → o.op ≠ .select cs b) :
  ∀ (fuel : Nat) (listed : Array Bool) (a : Act), closedL md ops listed →
   (∀ j oj, ops[j]? = some oj → j ≠ i → listed.getD j true = false → (∀ e ∈ oj.after, Region.binds md e = true → e.on ≠ i) → oi.apart ops oj = true) →
   i ∈ Region.ready md ops listed → YieldsIn P ops C oi v a →
   wpAnyB P md ops C n Q fuel (listed.setIfInBounds i true) (a.put oi.dst v) → wpAnyB P md ops C n Q (fuel + 1) listed a := by
 intro fuel
 induction fuel with
 | zero =>
  intro listed a hc _ hr hy H
  have hiu := (mem_ready.1 hr).1
  have hnd : doneN n listed = false := Bool.eq_false_iff.2 fun h => by have := doneN_iff.1 h i hin; rw [unl hiu] at this; cases this
  refine ⟨hnd, List.ne_nil_of_mem hr, fun j hj => ?_⟩
  by_cases hji : j = i
  ·subst hji; exact hy.qOp hi H
  ·have hjn := bar hB hc hj hnd
   have h1 := doneN_iff.1 H.1 j hjn
   rw [getD_set_ne false (fun e => hji e.symm), unl (mem_ready.1 hj).1] at h1
   cases h1
 | succ fuel ih =>
  intro listed a hc hfree hr hy H
  have hiu := (mem_ready.1 hr).1
  have hnd : doneN n listed = false := Bool.eq_false_iff.2 fun h => by have := doneN_iff.1 h i hin; rw [unl hiu] at this; cases this
  refine ⟨hnd, List.ne_nil_of_mem hr, fun j hj => ?_⟩
  by_cases hji : j = i
  ·subst hji; exact hy.qOp hi H
  ·have h1 := H.2.2 j (ready_mono hj hji)
   obtain ⟨hjun, oj, hoj, hall⟩ := mem_ready.1 hj
   have hnot : ∀ e ∈ oj.after, Region.binds md e = true → e.on ≠ i := fun e he hb heq => by
    have h1 := hall e he hb
    rw [heq, unl hiu] at h1
    cases h1
   have h2 := qOp_put hoj (hfree j oj hoj hji hjun hnot) (fun cs b => hsel i oi cs b hi) (fun cs b => hsel j oj cs b hoj) hy h1
   have hfree' : ∀ k ok, ops[k]? = some ok → k ≠ i → (listed.setIfInBounds j true).getD k true = false →
     (∀ e ∈ ok.after, Region.binds md e = true → e.on ≠ i) → oi.apart ops ok = true := fun k ok hk hki hun hno => by
    refine hfree k ok hk hki ?_ hno
    by_cases hjk : j = k
    ·subst hjk; exact hjun
    ·rw [getD_set_ne true hjk] at hun; exact hun
   refine qOp_mono (fun a' h3 => ih (listed.setIfInBounds j true) a' (hc.set hj) hfree' (ready_mono hr (Ne.symm hji)) h3.1 ?_) h2
   rw [Array.setIfInBounds_comm _ _ hji]
   exact h3.2
def lexTo (md : Region.Mode) (ops : Array Oper) (n : Nat) : Nat → Nat → Array Bool → Bool
 | 0, _, listed => doneN n listed
 | fuel + 1, k, listed => (Region.ready md ops listed).contains k && Region.free md ops listed k && decide (k < n) && lexTo md ops n fuel (k + 1) (listed.setIfInBounds k true)
theorem wpAnyB_lex {n : Nat} {Q : Act → Prop} (hs : Region.noSelect ops = true) (hB : barB md ops n = true) : ∀ (l : List Oper) (k : Nat) (listed : Array Bool) (a : Act), (∀ j, j < l.length → l[j]? = ops[k + j]?) → closedL md ops listed →
  lexTo md ops n l.length k listed = true → wpQuiet P ops C Q l a → wpAnyB P md ops C n Q l.length listed a
 | [], _, _, _, _, _, hL, h => ⟨hL, h⟩
 | o :: l, k, listed, a, hl, hc, hL, h => by
  have h0 : ops[k]? = some o := by simpa using (hl 0 (by simp)).symm
  simp only [List.length_cons, lexTo, Bool.and_eq_true, decide_eq_true_eq] at hL
  obtain ⟨⟨⟨hr, hf⟩, hk⟩, hL'⟩ := hL
  have hr' : k ∈ Region.ready md ops listed := by simpa using hr
  have hq : qOp P ops C k (wpQuiet P ops C Q l) a := by unfold qOp; simp only [h0]; exact h
  obtain ⟨v, hy, hK⟩ := yieldsIn_of_qOp h0 hq
  exact wpAnyB_first h0 hk hB (Region.noSelect_spec hs) l.length listed a hc (Region.free_spec h0 hf) hr' hy
   (wpAnyB_lex hs hB l (k + 1) _ _ (fun j hj => by have := hl (j + 1) (by rw [List.length_cons]; omega); simpa [Nat.add_assoc, Nat.add_comm 1 j] using this) (hc.set hr') hL' hK)
/-- The first n have come up, and no other. -/
def canonL (s n : Nat) : Array Bool := ((List.range s).map fun i => decide (i < n)).toArray
def sufL (n : Nat) (ops : Array Oper) (listed : Array Bool) : Prop := listed.size = ops.size ∧ ∀ j, n ≤ j → j < ops.size → listed.getD j true = false
theorem canon_of {n : Nat} {listed : Array Bool} (h : sufL n ops listed) (hd : doneN n listed = true) : listed = canonL ops.size n := by
 apply Array.ext
 ·simp [canonL, h.1]
 ·intro i h1 h2
  have hs : i < ops.size := h.1 ▸ h1
  simp only [canonL, List.getElem_toArray, List.getElem_map, List.getElem_range]
  by_cases hi : i < n
  ·have := doneN_iff.1 hd i hi
   simpa [h1, hi] using this
  ·have := h.2 i (by omega) hs
   simpa [h1, hi] using this
theorem wpAny_of_B {n m : Nat} {Q : Act → Prop} {Q' : Exit → Act → World → Prop} (hB : barB md ops n = true) (hQ : ∀ a w, C w → Q a → wpAny P md ops Q' m (canonL ops.size n) a w) :
  ∀ (fuel : Nat) (listed : Array Bool) (a : Act) (w : World), C w → closedL md ops listed → sufL n ops listed → wpAnyB P md ops C n Q fuel listed a → wpAny P md ops Q' (m + fuel) listed a w
 | 0, listed, a, w, hw, hc, hu, h => by rw [canon_of hu h.1]; exact hQ a w hw h.2
 | fuel + 1, listed, a, w, hw, hc, hu, h => ⟨fun h0 => absurd h0 h.2.1, fun i hi => by
   have hin := bar hB hc hi h.1
   refine wpOp_of_qOp hw (fun a' w' hw' hh => wpAny_of_B hB hQ fuel _ a' w' hw' (hc.set hi) ⟨by simpa using hu.1, fun j hj hjs => ?_⟩ hh) (h.2.2 i hi)
   rw [getD_set_ne true (by omega)]; exact hu.2 j hj hjs⟩
theorem wpQuiet_mono {Q Q' : Act → Prop} (h : ∀ a, Q a → Q' a) : ∀ (l : List Oper) (a : Act), wpQuiet P ops C Q l a → wpQuiet P ops C Q' l a
 | [], a, hh => h a hh
 | o :: l, a, hh => by
  simp only [wpQuiet] at hh ⊢
  split
  ·rename_i hw
   simp only [hw, if_true] at hh
   exact Oper.quiet_mono (fun a' => wpQuiet_mono h l a') hh
  ·rename_i hw
   simp only [hw] at hh
   exact wpQuiet_mono h l _ hh
/-- One order only. -/
def seqB (md : Region.Mode) (ops : Array Oper) : Nat → Nat → Array Bool → Bool
 | 0, _, listed => (Region.ready md ops listed).isEmpty
 | fuel + 1, k, listed => Region.ready md ops listed == [k] && seqB md ops fuel (k + 1) (listed.setIfInBounds k true)
theorem wpAny_of_seq {Q' : Exit → Act → World → Prop} : ∀ (l : List Oper) (k : Nat) (listed : Array Bool) (a : Act) (w : World), (∀ j, j < l.length → l[j]? = ops[k + j]?) → seqB md ops l.length k listed = true →
  wpList P ops Q' l a w → wpAny P md ops Q' l.length listed a w
 | [], _, _, _, _, _, hS, h => ⟨by simpa [seqB] using hS, h⟩
 | o :: l, k, listed, a, w, hl, hS, h => by
  have h0 : ops[k]? = some o := by simpa using (hl 0 (by simp)).symm
  simp only [List.length_cons, seqB, Bool.and_eq_true, beq_iff_eq] at hS
  obtain ⟨hr, hS'⟩ := hS
  have ih := fun a w => wpAny_of_seq (Q' := Q') l (k + 1) (listed.setIfInBounds k true) a w (fun j hj => by have := hl (j + 1) (by rw [List.length_cons]; omega); simpa [Nat.add_assoc, Nat.add_comm 1 j] using this) hS'
  rw [List.length_cons]
  unfold wpAny
  refine ⟨fun h1 => absurd h1 (by rw [hr]; simp), fun i hi => ?_⟩
  rw [hr] at hi
  obtain rfl := List.mem_singleton.1 hi
  unfold wpOp
  simp only [h0]
  simp only [wpList] at h
  split
  ·rename_i hw
   simp only [hw, if_true] at h
   rcases h with h | h
   ·exact .inl (Oper.wp_mono ih h)
   ·exact .inr h
  ·rename_i hw
   simp only [hw] at h
   exact ih _ _ h
def qaB (n : Nat) (l : List Oper) : Bool :=
 Region.noSelect l.toArray && decide (n ≤ l.length) && barB .any l.toArray n && lexTo .any l.toArray n n 0 (Array.replicate l.length false)
/-- **First what only reads and calls, in any order; then the others, in any order of theirs.** -/
theorem region_qa (n : Nat) {id : Nat} {Q : Exit → Act → World → Prop} {a : Act} {w : World} {l : List Oper} (hm : P.follows .mixedOrders = true) (hB : qaB n l = true) (hC : C w.drew)
  (h : wpQuiet P l.toArray C (fun a' => ∀ w', C w' → wpAny P .any l.toArray Q (l.length - n) (canonL l.length n) a' w') (l.take n) a) : (Code.region id l.toArray true).wp P Q a w := by
 simp only [qaB, Bool.and_eq_true, decide_eq_true_eq] at hB
 obtain ⟨⟨⟨hs, hn⟩, hb⟩, hl⟩ := hB
 refine wp_region_any hm ?_
 have hlen : (l.take n).length = n := by rw [List.length_take]; omega
 have h0 : closedL .any l.toArray (Array.replicate l.length false) := fun j o _ hl => by
  rcases Nat.lt_or_ge j l.length with h' | h' <;> simp [h'] at hl
 have h1 := wpAnyB_lex (md := .any) (n := n) hs hb (l.take n) 0 (Array.replicate l.length false) a (fun j hj => by rw [hlen] at hj; simp [List.getElem?_take, hj]) h0 (by rw [hlen]; exact hl) h
 rw [hlen] at h1
 have h2 := wpAny_of_B (m := l.length - n) (Q' := Q) hb (fun a' w' hw' hh => by simpa using hh w' hw') n (Array.replicate l.length false) a w.drew hC h0 ⟨by simp, fun j _ hj => by simp at hj; simp [hj]⟩ h1
 rw [Nat.sub_add_cancel hn] at h2
 simpa using h2
def qsB (n : Nat) (l : List Oper) : Bool := qaB n l && seqB .any l.toArray (l.length - n) n (canonL l.length n)
/-- **First what only reads and calls, in any order; then the stores.** -/
theorem region_qs (n : Nat) {id : Nat} {Q : Exit → Act → World → Prop} {a : Act} {w : World} {l : List Oper} (hm : P.follows .mixedOrders = true) (hB : qsB n l = true) (hC : C w.drew)
  (h : wpQuiet P l.toArray C (fun a' => ∀ w', C w' → wpList P l.toArray Q (l.drop n) a' w') (l.take n) a) : (Code.region id l.toArray true).wp P Q a w := by
 simp only [qsB, Bool.and_eq_true] at hB
 refine region_qa n hm hB.1 hC ?_
 refine wpQuiet_mono (fun a' hh w' hw' => ?_) _ _ h
 have h3 := wpAny_of_seq (md := .any) (P := P) (Q' := Q) (l.drop n) n (canonL l.length n) a' w' (fun j hj => by simp [List.getElem?_drop]) (by rw [List.length_drop]; exact hB.2) (hh w' hw')
 rw [List.length_drop] at h3
 exact h3
end
end Go.Proofs.YtfmakoiiibacjaaDoor
namespace Go.Proofs.YtfmakoiiibacjaaDoor
open Go.RowKit
/-- Cells stored one behind the other. -/
def setAll (W : World) (k : Nat) : Nat → List Value → World
 | _, [] => W
 | i, v :: vs => setAll (W.setCell ⟨k, i, none⟩ v) k (i + 1) vs
theorem setAll_upd (k : Nat) : ∀ (c : List Value) (i : Nat) (W : World), Upd k W (setAll W k i c)
 | [], _, W => Upd.refl k W
 | v :: vs, i, W => by
  have h1 := (Upd.refl k W).setCell i v
  have h2 := setAll_upd k vs (i + 1) (W.setCell ⟨k, i, none⟩ v)
  exact ⟨h2.os.trans h1.os, h2.tape.trans h1.tape, h2.output.trans h1.output, h2.size.trans h1.size, fun j hj => (h2.block j hj).trans (h1.block j hj)⟩
theorem hd_set {W : World} {k : Nat} {c : List Value} (h : Hd W k c) (i : Nat) (v : Value) (hi : i < c.length) : Hd (W.setCell ⟨k, i, none⟩ v) k (c.set i v) := by
 refine ⟨fun j hj => ?_, fun j => by simp [go_sem, h.frz j], by simp [World.setCell]; exact h.lt, by rw [List.length_set]; exact row_set h.row i v⟩
 rw [List.length_set] at hj
 by_cases e : i = j
 ·subst e
  rw [World.cell?_setCell_same _ _ _ (h.cell i hi)]
  simp
 ·rw [World.cell?_setCell_other _ _ _ _ (by intro h; simp only [Addr.mk.injEq] at h; omega), h.cell j hj]
  simp [e]
theorem setAll_hd : ∀ (c : List Value) (i : Nat) (W : World) (k : Nat) (p s : List Value), p.length = i → s.length = c.length → Hd W k (p ++ s) → Hd (setAll W k i c) k (p ++ c)
 | [], i, W, k, p, s, hp, hs, h => by
  rw [List.length_nil, List.length_eq_zero_iff] at hs
  subst hs; exact h
 | v :: vs, i, W, k, p, s, hp, hs, h => by
  cases s with
  | nil => simp at hs
  | cons s0 s =>
   have h1 := hd_set h i v (by rw [List.length_append, List.length_cons]; omega)
   rw [show (p ++ s0 :: s).set i v = (p ++ [v]) ++ s by subst hp; simp] at h1
   have h2 := setAll_hd vs (i + 1) (W.setCell ⟨k, i, none⟩ v) k (p ++ [v]) s (by simp [hp]) (by simpa using hs) h1
   rw [List.append_assoc] at h2
   exact h2
/-- The boxes that a call has made, with what they hold. -/
structure GL (w0 W : World) (L : List (Nat × List Value)) : Prop where
 bl : Below w0.heap.size w0 W
 all : ∀ p ∈ L, w0.heap.size ≤ p.1 ∧ Hd W p.1 p.2
 nd : (L.map (·.1)).Nodup
theorem GL.start (w : World) : GL w w [] := ⟨Below.refl _ _, (fun p hp => by cases hp), List.nodup_nil⟩
theorem GL.call {w0 W W' : World} {L : List (Nat × List Value)} (h : GL w0 W L) (hb : Below W.heap.size W W') : GL w0 W' L :=
 ⟨h.bl.trans (hb.mono h.bl.size), fun p hp => ⟨(h.all p hp).1, (h.all p hp).2.below hb⟩, h.nd⟩
theorem GL.drew {w0 W : World} {L : List (Nat × List Value)} (h : GL w0 W L) : GL w0 W.drew L :=
 ⟨h.bl.drew, fun p hp => ⟨(h.all p hp).1, (h.all p hp).2.cell, (h.all p hp).2.frz, (h.all p hp).2.lt, (h.all p hp).2.row⟩, h.nd⟩
theorem hd_new (W : World) (c : List Value) (t : TypeId) : Hd (W.alloc (.cells c.toArray t)) W.heap.size c := by
 have hrow := heap_alloc_new W (.cells c.toArray t)
 exact ⟨fun i hi => by rw [cell_of_row _ _ i _ _ _ hrow]; simp [hi], fun j => frozen_of_row _ _ j _ _ hrow, by rw [World.size_alloc]; omega, _, _, hrow, by simp⟩
theorem GL.new {w0 W : World} {L : List (Nat × List Value)} {K : Nat} (h : GL w0 W L) (hK : W.heap.size = K) (c : List Value) (t : TypeId) : GL w0 (W.alloc (.cells c.toArray t)) ((K, c) :: L) := by
 subst hK
 have hb : Below W.heap.size W (W.alloc (.cells c.toArray t)) := (Below.refl _ _).alloc (Nat.le_refl _) _
 refine ⟨h.bl.trans (hb.mono h.bl.size), fun p hp => ?_, ?_⟩
 ·rcases List.mem_cons.1 hp with rfl | hp
  ·exact ⟨h.bl.size, hd_new W c t⟩
  ·exact ⟨(h.all p hp).1, (h.all p hp).2.below hb⟩
 ·rw [List.map_cons, List.nodup_cons]
  refine ⟨fun hm => ?_, h.nd⟩
  obtain ⟨p, hp, he⟩ := List.mem_map.1 hm
  have := (h.all p hp).2.lt
  simp only at he
  omega
theorem GL.put {w0 W : World} {L : List (Nat × List Value)} (h : GL w0 W L) (i k : Nat) (c0 : List Value) (hi : L[i]? = some (k, c0)) (c : List Value) (hc : c.length = c0.length) :
  GL w0 (setAll W k 0 c) (L.set i (k, c)) := by
 have hu := setAll_upd k c 0 W
 obtain ⟨hil, he⟩ := List.getElem?_eq_some_iff.1 hi
 have hm : (k, c0) ∈ L := he ▸ List.getElem_mem hil
 have hk := h.all _ hm
 have hd := setAll_hd c 0 W k [] c0 rfl hc.symm hk.2
 have hmap : (L.set i (k, c)).map (·.1) = L.map (·.1) := by
  rw [List.map_set]
  apply List.ext_getElem?
  intro j
  by_cases e : i = j
  ·subst e
   rw [List.getElem?_set_self (by simpa using hil), List.getElem?_map, hi]; rfl
  ·rw [List.getElem?_set_ne e]
 refine ⟨h.bl.trans (hu.below hk.1), fun p hp => ?_, by rw [hmap]; exact h.nd⟩
 obtain ⟨j, hj, hpj⟩ := List.getElem_of_mem hp
 by_cases e : i = j
 ·subst e
  rw [List.getElem_set_self] at hpj
  subst hpj
  exact ⟨hk.1, hd⟩
 ·rw [List.getElem_set_ne e] at hpj
  rw [List.length_set] at hj
  have hp' : p ∈ L := hpj ▸ List.getElem_mem hj
  have hne : p.1 ≠ k := fun e2 => by
   have h1 : (L.map (·.1))[i]? = some k := by rw [List.getElem?_map, hi]; rfl
   have h2 : (L.map (·.1))[j]? = some k := by rw [List.getElem?_map, List.getElem?_eq_getElem hj, hpj]; simp [e2]
   exact e ((List.getElem?_inj (by simpa using hil) h.nd).1 (h1.trans h2.symm))
  exact ⟨(h.all p hp').1, hu.hd hne (h.all p hp').2⟩
theorem GL.get {w0 W : World} {L : List (Nat × List Value)} (h : GL w0 W L) (k : Nat) (c : List Value) (hm : (k, c) ∈ L) : Hd W k c := (h.all _ hm).2
/-- What cells hold, one fact each. -/
def cellsF (W : World) (k : Nat) : Nat → List Value → Prop
 | _, [] => True
 | i, v :: vs => W.cell? ⟨k, i, none⟩ = some v ∧ cellsF W k (i + 1) vs
theorem cells_of {W : World} {k : Nat} : ∀ (c : List Value) (i : Nat) (p : List Value), p.length = i → Hd W k (p ++ c) → cellsF W k i c
 | [], _, _, _, _ => trivial
 | v :: vs, i, p, hp, h => ⟨by have := h.cell i (by rw [List.length_append, List.length_cons]; omega); rw [this]; subst hp; simp,
   cells_of vs (i + 1) (p ++ [v]) (by simp [hp]) (by rw [List.append_assoc]; exact h)⟩
def neK (k : Nat) : List (Nat × List Value) → Prop
 | [] => True
 | p :: L => k ≠ p.1 ∧ p.1 ≠ k ∧ neK k L
theorem neK_of {k : Nat} : ∀ {L : List (Nat × List Value)}, k ∉ L.map (·.1) → neK k L
 | [], _ => trivial
 | p :: L, h => by
  simp only [List.map_cons, List.mem_cons, not_or] at h
  exact ⟨h.1, fun e => h.1 e.symm, neK_of h.2⟩
def fcG (W : World) : List (Nat × List Value) → Prop
 | [] => True
 | p :: L => cellsF W p.1 0 p.2 ∧ (∀ j, W.frozen? ⟨p.1, j, none⟩ = false) ∧ neK p.1 L ∧ fcG W L
theorem GL.fc {w0 W : World} : ∀ {L : List (Nat × List Value)}, GL w0 W L → fcG W L
 | [], _ => trivial
 | p :: L, h => ⟨cells_of p.2 0 [] rfl (h.all p List.mem_cons_self).2, (h.all p List.mem_cons_self).2.frz, neK_of (List.nodup_cons.1 h.nd).1,
   GL.fc (L := L) ⟨h.bl, fun q hq => h.all q (List.mem_cons_of_mem _ hq), (List.nodup_cons.1 h.nd).2⟩⟩
def cellsC {α : Type} (F : α → World) (k : Nat) : Nat → List Value → Prop
 | _, [] => True
 | i, v :: vs => (∀ x, (F x).cell? ⟨k, i, none⟩ = some v) ∧ cellsC F k (i + 1) vs
theorem cellsC_of {α : Type} {F : α → World} {k : Nat} : ∀ (c : List Value) (i : Nat), (∀ x, cellsF (F x) k i c) → cellsC F k i c
 | [], _, _ => trivial
 | v :: vs, i, h => ⟨fun x => (h x).1, cellsC_of vs (i + 1) fun x => (h x).2⟩
def fcC {α : Type} (F : α → World) : List (Nat × List Value) → Prop
 | [] => True
 | p :: L => cellsC F p.1 0 p.2 ∧ fcC F L
theorem GL.fcC {α : Type} {F : α → World} {z : World} (h1 : ∀ x, Below z.heap.size z (F x)) {w : World} : ∀ {L : List (Nat × List Value)}, GL w z L → fcC F L
 | [], _ => trivial
 | p :: L, h => ⟨cellsC_of p.2 0 fun x => cells_of p.2 0 [] rfl ((h.all p List.mem_cons_self).2.below (h1 x)), GL.fcC h1 (L := L) ⟨h.bl, fun q hq => h.all q (List.mem_cons_of_mem _ hq), (List.nodup_cons.1 h.nd).2⟩⟩
/-- The boxes that a region has made. -/
theorem GL.ghs {w x W : World} {L : List (Nat × List Value)} {g : Gh} {κ : Nat → Nat} (h : GL w x L) (hS : Sim x.drew g κ W) : ∀ (ds : List (Nat × List Value)), (ds.map (·.1)).Nodup → (∀ p ∈ ds, ∃ b, g p.1 = some (p.2, b)) →
  GL w W (ds.map (fun p => (κ p.1, p.2)) ++ L)
 | [], _, _ => h.call (below_drew hS.base)
 | p :: ds, hn, hg => by
  rw [List.map_cons, List.nodup_cons] at hn
  have ih := GL.ghs h hS ds hn.2 fun q hq => hg q (List.mem_cons_of_mem _ hq)
  obtain ⟨b, hb⟩ := hg p List.mem_cons_self
  obtain ⟨h1, h2⟩ := hS.hd _ _ _ hb
  refine ⟨ih.bl, fun q hq => ?_, ?_⟩
  ·rw [List.map_cons, List.cons_append] at hq
   rcases List.mem_cons.1 hq with rfl | hq
   ·exact ⟨Nat.le_trans h.bl.size h1, h2⟩
   ·exact ih.all q hq
  ·rw [List.map_cons, List.cons_append, List.map_cons, List.nodup_cons]
   refine ⟨fun hm => ?_, ih.nd⟩
   obtain ⟨q, hq, he⟩ := List.mem_map.1 hm
   rcases List.mem_append.1 hq with hq | hq
   ·obtain ⟨r, hr, rfl⟩ := List.mem_map.1 hq
    obtain ⟨b', hb'⟩ := hg r (List.mem_cons_of_mem _ hr)
    exact hS.inj _ _ (by rw [hb']; rfl) (by rw [hb]; rfl) (fun e => hn.1 (List.mem_map.2 ⟨r, hr, e⟩)) he
   ·have := (h.all q hq).2.lt
    have h1' : x.heap.size ≤ κ p.1 := h1
    simp only at he
    omega
theorem GL.seg {α : Type} {F : α → World} {x : World} (h1 : ∀ y, Below x.drew.heap.size x.drew (F y)) {w : World} {L : List (Nat × List Value)} (hL : GL w x L) : Go.Proofs.YtfmakoiiibacjaaDoor.fcC F L := GL.fcC (fun y => below_drew (h1 y)) hL
end Go.Proofs.YtfmakoiiibacjaaDoor
namespace Go.Proofs.YtfmakoiiibacjaaDoor
open Go.RowKit
attribute [local irreducible] lo hs sm s64 c64 d64 b64 mh ml pd pc qd qc val hiB str cmpI srD lz nb
/-- An integer, by its sign and its absolute value. -/
abbrev zV (s : Bool) (m : Nat) : Value := .agg #[.int .u64 ((lo m : Nat) : Int), .string (hs m), .bool s]
theorem ne0 {d : Nat} (h : d ≠ 0) : (((lo d : Nat) : Int) == 0) = false ∨ ((((lo d : Nat) : Int) == 0) = true ∧ ((hs d).toList == []) = false) := by
 have e := eq_zero (Nat.pos_of_ne_zero h)
 rwa [show ((lo 0 : Nat) : Int) = 0 by rw [lo_small Bs_pos]; rfl, show (hs 0).toList = [] by rw [hs_small Bs_pos, ByteArray.toList_eq]] at e
theorem zV_zero : zV false 0 = .agg #[.int .u64 0, .string ⟨#[]⟩, .bool false] := by unfold zV; rw [lo_small Bs_pos, hs_small Bs_pos]; rfl
set_option maxHeartbeats 4000000 in
set_option maxRecDepth 100000 in
theorem from_pos (n : Nat)  (w : World) :
  Calls Tryd.prog 41 #[.bool false, natV n] w fun e w' => e = .returned (zV false n) ∧ Below w.heap.size w w' := by
 have hL0 : GL w w [] := GL.start w
 replace hL0 := ((hL0.new rfl [.int .u64 ((lo n : Nat) : Int), .string (hs n)] 45).new (K := w.heap.size + 1) (szA _ _) [.int .u64 0, .string ⟨#[]⟩, .bool false] 47)
 generalize hweq : ((w.alloc (.cells #[.int .u64 ((lo n : Nat) : Int), .string (hs n)] 45)).alloc (.cells #[.int .u64 0, .string ⟨#[]⟩, .bool false] 47)) = x1 at hL0
 go_enter Tryd.func41, Tryd.ntmps41
 have hA := hL0.fc
 simp only [fcG, cellsF, neK, and_true, ne_eq, Nat.zero_add, Nat.reduceAdd] at hA
 go_upto_region 1 with fail
 clear hA
 clear hweq
 obtain ⟨α, iα, F, hF1, hF2⟩ := cls x1
 have hq := GL.fcC hF1 hL0
 simp only [fcC, cellsC, and_true, Nat.zero_add, Nat.reduceAdd] at hq
 refine region_qs 8 (C := fun w' => ∃ x, w' = F x) (by kernel_rfl) (by kernel_rfl) (cls_drew hF2) ?_
 simp only [List.take_succ_cons, List.take_zero, List.drop_succ_cons, List.drop_zero, List.take_nil, List.drop_nil]
 repeat (go_big_quiet_step (first | fail))
 refine wpQuiet_nil ?_
 rintro wq ⟨xq, rfl⟩
 replace hL0 := hL0.call (hF1 xq)
 clear hq hF2
 generalize F xq = x2 at hL0 ⊢
 clear hF1 xq iα F α
 have hA := hL0.fc
 simp only [fcG, cellsF, neK, and_true, ne_eq, Nat.zero_add, Nat.reduceAdd] at hA
 have hP := hL0.put 0 (w.heap.size + 1) _ rfl [.int .u64 ((lo n : Nat) : Int), .string (hs n), .bool false] rfl
 simp only [setAll, List.set_cons_zero, List.set_cons_succ] at hP
 generalize hput1 : (((x2.setCell ⟨w.heap.size + 1, 0, none⟩ (.int .u64 ((lo n : Nat) : Int))).setCell ⟨w.heap.size + 1, 1, none⟩ (.string (hs n))).setCell ⟨w.heap.size + 1, 2, none⟩ (.bool false)) = x3 at hP
 have hB1 := hP.fc
 simp only [fcG, cellsF, neK, and_true, ne_eq, Nat.zero_add, Nat.reduceAdd] at hB1
 replace hL0 := hP
 go_wp2_with fail
 exact bodyPost_ret (v := zV false n) (by simp [results, Tryd.results41, go_sem, hB1]) rfl ⟨rfl, hL0.bl⟩
set_option maxHeartbeats 4000000 in
set_option maxRecDepth 100000 in
theorem from_zero  (w : World) :
  Calls Tryd.prog 41 #[.bool true, natV 0] w fun e w' => e = .returned (zV false 0) ∧ Below w.heap.size w w' := by
 have hL0 : GL w w [] := GL.start w
 rw [natV_zero]
 replace hL0 := ((hL0.new rfl [.int .u64 0, .string ⟨#[]⟩] 45).new (K := w.heap.size + 1) (szA _ _) [.int .u64 0, .string ⟨#[]⟩, .bool false] 47)
 generalize hweq : ((w.alloc (.cells #[.int .u64 0, .string ⟨#[]⟩] 45)).alloc (.cells #[.int .u64 0, .string ⟨#[]⟩, .bool false] 47)) = x1 at hL0
 go_enter Tryd.func41, Tryd.ntmps41
 have hA := hL0.fc
 simp only [fcG, cellsF, neK, and_true, ne_eq, Nat.zero_add, Nat.reduceAdd] at hA
 go_upto_region 1 with fail
 clear hA
 clear hweq
 obtain ⟨α, iα, F, hF1, hF2⟩ := cls x1
 have hq := GL.fcC hF1 hL0
 simp only [fcC, cellsC, and_true, Nat.zero_add, Nat.reduceAdd] at hq
 refine region_qs 8 (C := fun w' => ∃ x, w' = F x) (by kernel_rfl) (by kernel_rfl) (cls_drew hF2) ?_
 simp only [List.take_succ_cons, List.take_zero, List.drop_succ_cons, List.drop_zero, List.take_nil, List.drop_nil]
 repeat (go_big_quiet_step (first | fail))
 refine wpQuiet_nil ?_
 rintro wq ⟨xq, rfl⟩
 replace hL0 := hL0.call (hF1 xq)
 clear hq hF2
 generalize F xq = x2 at hL0 ⊢
 clear hF1 xq iα F α
 have hA := hL0.fc
 simp only [fcG, cellsF, neK, and_true, ne_eq, Nat.zero_add, Nat.reduceAdd] at hA
 have hP := hL0.put 0 (w.heap.size + 1) _ rfl [.int .u64 0, .string ⟨#[]⟩, .bool false] rfl
 simp only [setAll, List.set_cons_zero, List.set_cons_succ] at hP
 generalize hput1 : (((x2.setCell ⟨w.heap.size + 1, 0, none⟩ (.int .u64 0)).setCell ⟨w.heap.size + 1, 1, none⟩ (.string ⟨#[]⟩)).setCell ⟨w.heap.size + 1, 2, none⟩ (.bool false)) = x3 at hP
 have hB1 := hP.fc
 simp only [fcG, cellsF, neK, and_true, ne_eq, Nat.zero_add, Nat.reduceAdd] at hB1
 replace hL0 := hP
 go_wp2_with fail
 exact bodyPost_ret (v := zV false 0) (by rw [zV_zero]; simp [results, Tryd.results41, go_sem, hB1]) rfl ⟨rfl, hL0.bl⟩
set_option maxHeartbeats 4000000 in
set_option maxRecDepth 100000 in
theorem from_neg (n : Nat) (hn : n ≠ 0) (w : World) :
  Calls Tryd.prog 41 #[.bool true, natV n] w fun e w' => e = .returned (zV true n) ∧ Below w.heap.size w w' := by
 have hL0 : GL w w [] := GL.start w
 replace hL0 := ((hL0.new rfl [.int .u64 ((lo n : Nat) : Int), .string (hs n)] 45).new (K := w.heap.size + 1) (szA _ _) [.int .u64 0, .string ⟨#[]⟩, .bool false] 47)
 generalize hweq : ((w.alloc (.cells #[.int .u64 ((lo n : Nat) : Int), .string (hs n)] 45)).alloc (.cells #[.int .u64 0, .string ⟨#[]⟩, .bool false] 47)) = x1 at hL0
 rcases ne0 hn with e0 | ⟨e0, e1⟩
 all_goals (
  go_enter Tryd.func41, Tryd.ntmps41
  have hA := hL0.fc
  simp only [fcG, cellsF, neK, and_true, ne_eq, Nat.zero_add, Nat.reduceAdd] at hA
  go_upto_region 1 with fail
  clear hA
  clear hweq
  obtain ⟨α, iα, F, hF1, hF2⟩ := cls x1
  have hq := GL.fcC hF1 hL0
  simp only [fcC, cellsC, and_true, Nat.zero_add, Nat.reduceAdd] at hq
  refine region_qs 8 (C := fun w' => ∃ x, w' = F x) (by kernel_rfl) (by kernel_rfl) (cls_drew hF2) ?_
  simp only [List.take_succ_cons, List.take_zero, List.drop_succ_cons, List.drop_zero, List.take_nil, List.drop_nil]
  repeat (go_big_quiet_step (first | fail))
  refine wpQuiet_nil ?_
  rintro wq ⟨xq, rfl⟩
  replace hL0 := hL0.call (hF1 xq)
  clear hq hF2
  generalize F xq = x2 at hL0 ⊢
  clear hF1 xq iα F α
  have hA := hL0.fc
  simp only [fcG, cellsF, neK, and_true, ne_eq, Nat.zero_add, Nat.reduceAdd] at hA
  have hP := hL0.put 0 (w.heap.size + 1) _ rfl [.int .u64 ((lo n : Nat) : Int), .string (hs n), .bool true] rfl
  simp only [setAll, List.set_cons_zero, List.set_cons_succ] at hP
  generalize hput1 : (((x2.setCell ⟨w.heap.size + 1, 0, none⟩ (.int .u64 ((lo n : Nat) : Int))).setCell ⟨w.heap.size + 1, 1, none⟩ (.string (hs n))).setCell ⟨w.heap.size + 1, 2, none⟩ (.bool true)) = x3 at hP
  have hB1 := hP.fc
  simp only [fcG, cellsF, neK, and_true, ne_eq, Nat.zero_add, Nat.reduceAdd] at hB1
  replace hL0 := hP
  go_wp2_with fail
  exact bodyPost_ret (v := zV true n) (by simp [results, Tryd.results41, go_sem, hB1]) rfl ⟨rfl, hL0.bl⟩)
theorem from_any (s : Bool) (n : Nat) (w : World) : Calls Tryd.prog 41 #[.bool s, natV n] w fun e w' => e = .returned (zV (s && decide (n ≠ 0)) n) ∧ Below w.heap.size w w' := by
 cases s with
 | false => exact from_pos n w
 | true =>
  by_cases h : n = 0
  ·subst h; exact from_zero w
  ·rw [Bool.true_and, decide_eq_true h]; exact from_neg n h w
set_option maxHeartbeats 4000000 in
set_option maxRecDepth 100000 in
theorem abs_any (s : Bool) (m : Nat) (w : World) :
  Calls Tryd.prog 51 #[zV s m] w fun e w' => e = .returned (natV m) ∧ Below w.heap.size w w' := by
 have hL0 : GL w w [] := GL.start w
 replace hL0 := ((hL0.new rfl [.int .u64 ((lo m : Nat) : Int), .string (hs m), .bool s] 47).new (K := w.heap.size + 1) (szA _ _) [.int .u64 0, .string ⟨#[]⟩] 45)
 generalize hweq : ((w.alloc (.cells #[.int .u64 ((lo m : Nat) : Int), .string (hs m), .bool s] 47)).alloc (.cells #[.int .u64 0, .string ⟨#[]⟩] 45)) = x1 at hL0
 go_enter Tryd.func51, Tryd.ntmps51
 have hA := hL0.fc
 simp only [fcG, cellsF, neK, and_true, ne_eq, Nat.zero_add, Nat.reduceAdd] at hA
 have hP := hL0.put 0 (w.heap.size + 1) _ rfl [.int .u64 ((lo m : Nat) : Int), .string (hs m)] rfl
 simp only [setAll, List.set_cons_zero, List.set_cons_succ] at hP
 generalize hput1 : ((x1.setCell ⟨w.heap.size + 1, 0, none⟩ (.int .u64 ((lo m : Nat) : Int))).setCell ⟨w.heap.size + 1, 1, none⟩ (.string (hs m))) = x2 at hP
 have hB1 := hP.fc
 simp only [fcG, cellsF, neK, and_true, ne_eq, Nat.zero_add, Nat.reduceAdd] at hB1
 replace hL0 := hP
 go_wp2_with fail
 exact bodyPost_ret (v := natV m) (by simp [results, Tryd.results51, go_sem, hB1]) rfl ⟨rfl, hL0.bl⟩
set_option maxHeartbeats 4000000 in
set_option maxRecDepth 100000 in
theorem sign_neg (m : Nat) (w : World) :
  Calls Tryd.prog 82 #[zV true m] w fun e w' => e = .returned (.int .i64 (-1)) ∧ Below w.heap.size w w' := by
 have hL0 : GL w w [] := GL.start w
 replace hL0 := (hL0.new rfl [.int .u64 ((lo m : Nat) : Int), .string (hs m), .bool true] 47)
 generalize hweq : (w.alloc (.cells #[.int .u64 ((lo m : Nat) : Int), .string (hs m), .bool true] 47)) = x1 at hL0
 go_enter Tryd.func82, Tryd.ntmps82
 have hA := hL0.fc
 simp only [fcG, cellsF, neK, and_true, ne_eq, Nat.zero_add, Nat.reduceAdd] at hA
 go_wp2_with fail
 exact bodyPost_ret (v := .int .i64 (-1)) (by simp [results, Tryd.results82, go_sem, hA]) rfl ⟨rfl, hL0.bl⟩
set_option maxHeartbeats 4000000 in
set_option maxRecDepth 100000 in
theorem sign_zero  (w : World) :
  Calls Tryd.prog 82 #[zV false 0] w fun e w' => e = .returned (.int .i64 0) ∧ Below w.heap.size w w' := by
 have hL0 : GL w w [] := GL.start w
 rw [zV_zero]
 replace hL0 := (hL0.new rfl [.int .u64 0, .string ⟨#[]⟩, .bool false] 47)
 generalize hweq : (w.alloc (.cells #[.int .u64 0, .string ⟨#[]⟩, .bool false] 47)) = x1 at hL0
 go_enter Tryd.func82, Tryd.ntmps82
 have hA := hL0.fc
 simp only [fcG, cellsF, neK, and_true, ne_eq, Nat.zero_add, Nat.reduceAdd] at hA
 go_wp2_with fail
 exact bodyPost_ret (v := .int .i64 0) (by simp [results, Tryd.results82, go_sem, hA]) rfl ⟨rfl, hL0.bl⟩
set_option maxHeartbeats 4000000 in
set_option maxRecDepth 100000 in
theorem sign_pos (m : Nat) (hm : m ≠ 0) (w : World) :
  Calls Tryd.prog 82 #[zV false m] w fun e w' => e = .returned (.int .i64 1) ∧ Below w.heap.size w w' := by
 have hL0 : GL w w [] := GL.start w
 replace hL0 := (hL0.new rfl [.int .u64 ((lo m : Nat) : Int), .string (hs m), .bool false] 47)
 generalize hweq : (w.alloc (.cells #[.int .u64 ((lo m : Nat) : Int), .string (hs m), .bool false] 47)) = x1 at hL0
 rcases ne0 hm with e0 | ⟨e0, e1⟩
 all_goals (
  go_enter Tryd.func82, Tryd.ntmps82
  have hA := hL0.fc
  simp only [fcG, cellsF, neK, and_true, ne_eq, Nat.zero_add, Nat.reduceAdd] at hA
  go_wp2_with fail
  exact bodyPost_ret (v := .int .i64 1) (by simp [results, Tryd.results82, go_sem, hA]) rfl ⟨rfl, hL0.bl⟩)
set_option maxHeartbeats 4000000 in
set_option maxRecDepth 100000 in
theorem neg_true (m : Nat) (w : World) :
  Calls Tryd.prog 27 #[zV true m] w fun e w' => e = .returned (zV false m) ∧ Below w.heap.size w w' := by
 have hL0 : GL w w [] := GL.start w
 have HF := Lib.hid (fun w => from_any false m w)
 simp only [Bool.false_and] at HF
 replace hL0 := ((hL0.new rfl [.int .u64 ((lo m : Nat) : Int), .string (hs m), .bool true] 47).new (K := w.heap.size + 1) (szA _ _) [.int .u64 0, .string ⟨#[]⟩, .bool false] 47)
 generalize hweq : ((w.alloc (.cells #[.int .u64 ((lo m : Nat) : Int), .string (hs m), .bool true] 47)).alloc (.cells #[.int .u64 0, .string ⟨#[]⟩, .bool false] 47)) = x1 at hL0
 go_enter Tryd.func27, Tryd.ntmps27
 have hA := hL0.fc
 simp only [fcG, cellsF, neK, and_true, ne_eq, Nat.zero_add, Nat.reduceAdd] at hA
 go_wp2_with fail
 clear hA
 with_reducible refine Calls.mono (HF.out _) ?_
 rintro e x2 ⟨rfl, hb⟩
 replace hL0 := hL0.call hb
 clear hb hweq
 have hA := hL0.fc
 simp only [fcG, cellsF, neK, and_true, ne_eq, Nat.zero_add, Nat.reduceAdd] at hA
 have hP := hL0.put 0 (w.heap.size + 1) _ rfl [.int .u64 ((lo m : Nat) : Int), .string (hs m), .bool false] rfl
 simp only [setAll, List.set_cons_zero, List.set_cons_succ] at hP
 generalize hput1 : (((x2.setCell ⟨w.heap.size + 1, 0, none⟩ (.int .u64 ((lo m : Nat) : Int))).setCell ⟨w.heap.size + 1, 1, none⟩ (.string (hs m))).setCell ⟨w.heap.size + 1, 2, none⟩ (.bool false)) = x3 at hP
 have hB1 := hP.fc
 simp only [fcG, cellsF, neK, and_true, ne_eq, Nat.zero_add, Nat.reduceAdd] at hB1
 replace hL0 := hP
 go_wp2_with fail
 exact bodyPost_ret (v := zV false m) (by simp [results, Tryd.results27, go_sem, hB1]) rfl ⟨rfl, hL0.bl⟩
set_option maxHeartbeats 4000000 in
set_option maxRecDepth 100000 in
theorem neg_false (m : Nat) (w : World) :
  Calls Tryd.prog 27 #[zV false m] w fun e w' => e = .returned (zV (decide (m ≠ 0)) m) ∧ Below w.heap.size w w' := by
 have hL0 : GL w w [] := GL.start w
 have HF := Lib.hid (fun w => from_any true m w)
 simp only [Bool.true_and] at HF
 obtain ⟨d, hd⟩ : ∃ d, d = decide (m ≠ 0) := ⟨_, rfl⟩
 rw [← hd] at HF ⊢
 clear hd
 replace hL0 := ((hL0.new rfl [.int .u64 ((lo m : Nat) : Int), .string (hs m), .bool false] 47).new (K := w.heap.size + 1) (szA _ _) [.int .u64 0, .string ⟨#[]⟩, .bool false] 47)
 generalize hweq : ((w.alloc (.cells #[.int .u64 ((lo m : Nat) : Int), .string (hs m), .bool false] 47)).alloc (.cells #[.int .u64 0, .string ⟨#[]⟩, .bool false] 47)) = x1 at hL0
 go_enter Tryd.func27, Tryd.ntmps27
 have hA := hL0.fc
 simp only [fcG, cellsF, neK, and_true, ne_eq, Nat.zero_add, Nat.reduceAdd] at hA
 go_wp2_with fail
 clear hA
 with_reducible refine Calls.mono (HF.out _) ?_
 rintro e x2 ⟨rfl, hb⟩
 replace hL0 := hL0.call hb
 clear hb hweq
 have hA := hL0.fc
 simp only [fcG, cellsF, neK, and_true, ne_eq, Nat.zero_add, Nat.reduceAdd] at hA
 have hP := hL0.put 0 (w.heap.size + 1) _ rfl [.int .u64 ((lo m : Nat) : Int), .string (hs m), .bool d] rfl
 simp only [setAll, List.set_cons_zero, List.set_cons_succ] at hP
 generalize hput1 : (((x2.setCell ⟨w.heap.size + 1, 0, none⟩ (.int .u64 ((lo m : Nat) : Int))).setCell ⟨w.heap.size + 1, 1, none⟩ (.string (hs m))).setCell ⟨w.heap.size + 1, 2, none⟩ (.bool d)) = x3 at hP
 have hB1 := hP.fc
 simp only [fcG, cellsF, neK, and_true, ne_eq, Nat.zero_add, Nat.reduceAdd] at hB1
 replace hL0 := hP
 go_wp2_with fail
 exact bodyPost_ret (v := zV d m) (by simp [results, Tryd.results27, go_sem, hB1]) rfl ⟨rfl, hL0.bl⟩
end Go.Proofs.YtfmakoiiibacjaaDoor
namespace Go.Proofs.YtfmakoiiibacjaaDoor
open Go.RowKit
attribute [local irreducible] lo hs sm s64 c64 d64 b64 mh ml pd pc qd qc val hiB str cmpI srD lz nb
set_option maxHeartbeats 4000000 in
set_option maxRecDepth 100000 in
theorem ofp_any (m : Nat) (hm : m < 9223372036854775808) (w : World) :
  Calls Tryd.prog 35 #[.int .i64 (m : Int)] w fun e w' => e = .returned (zV false m) ∧ Below w.heap.size w w' := by
 have hL0 : GL w w [] := GL.start w
 have k0 : decide ((m : Int) < 0) = false := decide_eq_false (by omega)
 have hw : IntKind.u64.wrap (m : Int) = (m : Int) := wrapN _ (by omega)
 have HO := Lib.hid (fun w => of_any m (by unfold Bs; omega) w)
 have HF := Lib.hid (fun w => from_pos m w)
 replace hL0 := (hL0.new rfl [.int .u64 0, .string ⟨#[]⟩, .bool false] 47)
 generalize hweq : (w.alloc (.cells #[.int .u64 0, .string ⟨#[]⟩, .bool false] 47)) = x1 at hL0
 clear hm
 go_enter Tryd.func35, Tryd.ntmps35
 have hA := hL0.fc
 simp only [fcG, cellsF, neK, and_true, ne_eq, Nat.zero_add, Nat.reduceAdd] at hA
 go_wp2_with fail
 clear hA
 with_reducible refine Calls.mono (HO.out _) ?_
 rintro e x2 ⟨rfl, hb⟩
 replace hL0 := hL0.call hb
 clear hb hweq
 have hA := hL0.fc
 simp only [fcG, cellsF, neK, and_true, ne_eq, Nat.zero_add, Nat.reduceAdd] at hA
 go_wp2_with fail
 clear hA
 with_reducible refine Calls.mono (HF.out _) ?_
 rintro e x3 ⟨rfl, hb⟩
 replace hL0 := hL0.call hb
 clear hb
 have hA := hL0.fc
 simp only [fcG, cellsF, neK, and_true, ne_eq, Nat.zero_add, Nat.reduceAdd] at hA
 have hP := hL0.put 0 (w.heap.size) _ rfl [.int .u64 ((lo m : Nat) : Int), .string (hs m), .bool false] rfl
 simp only [setAll, List.set_cons_zero, List.set_cons_succ] at hP
 generalize hput1 : (((x3.setCell ⟨w.heap.size, 0, none⟩ (.int .u64 ((lo m : Nat) : Int))).setCell ⟨w.heap.size, 1, none⟩ (.string (hs m))).setCell ⟨w.heap.size, 2, none⟩ (.bool false)) = x4 at hP
 have hB1 := hP.fc
 simp only [fcG, cellsF, neK, and_true, ne_eq, Nat.zero_add, Nat.reduceAdd] at hB1
 replace hL0 := hP
 go_wp2_with fail
 exact bodyPost_ret (v := zV false m) (by simp [results, Tryd.results35, go_sem, hB1]) rfl ⟨rfl, hL0.bl⟩
set_option maxHeartbeats 4000000 in
set_option maxRecDepth 100000 in
theorem ofn_any (z : Int) (m : Nat) (hz : z = -(m : Int)) (h0 : 0 < m) (hm : m ≤ 9223372036854775808) (w : World) :
  Calls Tryd.prog 35 #[.int .i64 z] w fun e w' => e = .returned (zV true m) ∧ Below w.heap.size w w' := by
 have hL0 : GL w w [] := GL.start w
 have k0 : decide (z < 0) = true := decide_eq_true (by omega)
 obtain ⟨q, hq⟩ : ∃ q : Nat, (q : Int) = 18446744073709551616 - m := ⟨(18446744073709551616 - (m : Int)).toNat, by omega⟩
 have hw : IntKind.u64.wrap z = (q : Int) := by rw [IntKind.wrap_u64]; omega
 have hw2 : IntKind.u64.wrap (-(q : Int)) = (m : Int) := by rw [IntKind.wrap_u64]; omega
 have HO := Lib.hid (fun w => of_any m (by unfold Bs; omega) w)
 have HF := Lib.hid (fun w => from_neg m (by omega) w)
 replace hL0 := (hL0.new rfl [.int .u64 0, .string ⟨#[]⟩, .bool false] 47)
 generalize hweq : (w.alloc (.cells #[.int .u64 0, .string ⟨#[]⟩, .bool false] 47)) = x1 at hL0
 clear hm h0 hz hq
 go_enter Tryd.func35, Tryd.ntmps35
 have hA := hL0.fc
 simp only [fcG, cellsF, neK, and_true, ne_eq, Nat.zero_add, Nat.reduceAdd] at hA
 go_wp2_with fail
 clear hA
 with_reducible refine Calls.mono (HO.out _) ?_
 rintro e x2 ⟨rfl, hb⟩
 replace hL0 := hL0.call hb
 clear hb hweq
 have hA := hL0.fc
 simp only [fcG, cellsF, neK, and_true, ne_eq, Nat.zero_add, Nat.reduceAdd] at hA
 go_wp2_with fail
 clear hA
 with_reducible refine Calls.mono (HF.out _) ?_
 rintro e x3 ⟨rfl, hb⟩
 replace hL0 := hL0.call hb
 clear hb
 have hA := hL0.fc
 simp only [fcG, cellsF, neK, and_true, ne_eq, Nat.zero_add, Nat.reduceAdd] at hA
 have hP := hL0.put 0 (w.heap.size) _ rfl [.int .u64 ((lo m : Nat) : Int), .string (hs m), .bool true] rfl
 simp only [setAll, List.set_cons_zero, List.set_cons_succ] at hP
 generalize hput1 : (((x3.setCell ⟨w.heap.size, 0, none⟩ (.int .u64 ((lo m : Nat) : Int))).setCell ⟨w.heap.size, 1, none⟩ (.string (hs m))).setCell ⟨w.heap.size, 2, none⟩ (.bool true)) = x4 at hP
 have hB1 := hP.fc
 simp only [fcG, cellsF, neK, and_true, ne_eq, Nat.zero_add, Nat.reduceAdd] at hB1
 replace hL0 := hP
 go_wp2_with fail
 exact bodyPost_ret (v := zV true m) (by simp [results, Tryd.results35, go_sem, hB1]) rfl ⟨rfl, hL0.bl⟩
end Go.Proofs.YtfmakoiiibacjaaDoor
namespace Go.Proofs.YtfmakoiiibacjaaDoor
open Go.RowKit
attribute [local irreducible] lo hs sm s64 c64 d64 b64 mh ml pd pc qd qc val hiB str cmpI srD lz nb
set_option maxHeartbeats 4000000 in
set_option maxRecDepth 100000 in
theorem idiv0_true (m : Nat) (w : World) :
  Calls Tryd.prog 43 #[zV true m, zV false 0] w fun e w' => e = .returned (.tuple #[zV false 0, zV false 0, .bool false]) ∧ Below w.heap.size w w' := by
 have hL0 : GL w w [] := GL.start w
 have HD := Lib.hid (fun w => div_zero m w)
 rw [show zV false 0 = .agg #[.int .u64 ((lo 0 : Nat) : Int), .string (hs 0), .bool false] from rfl]
 replace hL0 := ((((hL0.new rfl [.int .u64 ((lo m : Nat) : Int), .string (hs m), .bool true] 47).new (K := w.heap.size + 1) (szA _ _) [.int .u64 ((lo 0 : Nat) : Int), .string (hs 0), .bool false] 47).new (K := w.heap.size + 1 + 1) (by simp only [World.size_alloc]) [.int .u64 0, .string ⟨#[]⟩, .bool false] 47).new (K := w.heap.size + 1 + 1 + 1) (by simp only [World.size_alloc]) [.int .u64 0, .string ⟨#[]⟩, .bool false] 47)
 generalize hweq : ((((w.alloc (.cells #[.int .u64 ((lo m : Nat) : Int), .string (hs m), .bool true] 47)).alloc (.cells #[.int .u64 ((lo 0 : Nat) : Int), .string (hs 0), .bool false] 47)).alloc (.cells #[.int .u64 0, .string ⟨#[]⟩, .bool false] 47)).alloc (.cells #[.int .u64 0, .string ⟨#[]⟩, .bool false] 47)) = x1 at hL0
 go_enter Tryd.func43, Tryd.ntmps43
 have hA := hL0.fc
 simp only [fcG, cellsF, neK, and_true, ne_eq, Nat.zero_add, Nat.reduceAdd] at hA
 go_wp2_with fail
 clear hA
 with_reducible refine Calls.mono (HD.out _) ?_
 rintro e x2 ⟨rfl, hb⟩
 replace hL0 := hL0.call hb
 clear hb hweq
 replace hL0 := ((hL0.new rfl [.int .u64 ((lo 0 : Nat) : Int), .string (hs 0)] 45).new (K := x2.heap.size + 1) (szA _ _) [.int .u64 ((lo 0 : Nat) : Int), .string (hs 0)] 45)
 generalize hweq : ((x2.alloc (.cells #[.int .u64 ((lo 0 : Nat) : Int), .string (hs 0)] 45)).alloc (.cells #[.int .u64 ((lo 0 : Nat) : Int), .string (hs 0)] 45)) = x3 at hL0
 have hA := hL0.fc
 simp only [fcG, cellsF, neK, and_true, ne_eq, Nat.zero_add, Nat.reduceAdd] at hA
 have hP := hL0.put 3 (w.heap.size + 1 + 1) _ rfl [.int .u64 0, .string ⟨#[]⟩, .bool false] rfl
 simp only [setAll, List.set_cons_zero, List.set_cons_succ] at hP
 generalize hput1 : (((x3.setCell ⟨w.heap.size + 1 + 1, 0, none⟩ (.int .u64 0)).setCell ⟨w.heap.size + 1 + 1, 1, none⟩ (.string ⟨#[]⟩)).setCell ⟨w.heap.size + 1 + 1, 2, none⟩ (.bool false)) = x4 at hP
 have hB1 := hP.fc
 simp only [fcG, cellsF, neK, and_true, ne_eq, Nat.zero_add, Nat.reduceAdd] at hB1
 replace hL0 := hP
 have hP := hL0.put 2 (w.heap.size + 1 + 1 + 1) _ rfl [.int .u64 0, .string ⟨#[]⟩, .bool false] rfl
 simp only [setAll, List.set_cons_zero, List.set_cons_succ] at hP
 generalize hput2 : (((x4.setCell ⟨w.heap.size + 1 + 1 + 1, 0, none⟩ (.int .u64 0)).setCell ⟨w.heap.size + 1 + 1 + 1, 1, none⟩ (.string ⟨#[]⟩)).setCell ⟨w.heap.size + 1 + 1 + 1, 2, none⟩ (.bool false)) = x5 at hP
 have hB2 := hP.fc
 simp only [fcG, cellsF, neK, and_true, ne_eq, Nat.zero_add, Nat.reduceAdd] at hB2
 replace hL0 := hP
 go_wp2_with fail
 exact bodyPost_ret (v := .tuple #[zV false 0, zV false 0, .bool false]) (by rw [zV_zero]; simp [results, Tryd.results43, go_sem, hB2]) rfl ⟨rfl, hL0.bl⟩
set_option maxHeartbeats 4000000 in
set_option maxRecDepth 100000 in
theorem idiv0_false (m : Nat) (w : World) :
  Calls Tryd.prog 43 #[zV false m, zV false 0] w fun e w' => e = .returned (.tuple #[zV false 0, zV false 0, .bool false]) ∧ Below w.heap.size w w' := by
 have hL0 : GL w w [] := GL.start w
 have HD := Lib.hid (fun w => div_zero m w)
 rw [show zV false 0 = .agg #[.int .u64 ((lo 0 : Nat) : Int), .string (hs 0), .bool false] from rfl]
 replace hL0 := ((((hL0.new rfl [.int .u64 ((lo m : Nat) : Int), .string (hs m), .bool false] 47).new (K := w.heap.size + 1) (szA _ _) [.int .u64 ((lo 0 : Nat) : Int), .string (hs 0), .bool false] 47).new (K := w.heap.size + 1 + 1) (by simp only [World.size_alloc]) [.int .u64 0, .string ⟨#[]⟩, .bool false] 47).new (K := w.heap.size + 1 + 1 + 1) (by simp only [World.size_alloc]) [.int .u64 0, .string ⟨#[]⟩, .bool false] 47)
 generalize hweq : ((((w.alloc (.cells #[.int .u64 ((lo m : Nat) : Int), .string (hs m), .bool false] 47)).alloc (.cells #[.int .u64 ((lo 0 : Nat) : Int), .string (hs 0), .bool false] 47)).alloc (.cells #[.int .u64 0, .string ⟨#[]⟩, .bool false] 47)).alloc (.cells #[.int .u64 0, .string ⟨#[]⟩, .bool false] 47)) = x1 at hL0
 go_enter Tryd.func43, Tryd.ntmps43
 have hA := hL0.fc
 simp only [fcG, cellsF, neK, and_true, ne_eq, Nat.zero_add, Nat.reduceAdd] at hA
 go_wp2_with fail
 clear hA
 with_reducible refine Calls.mono (HD.out _) ?_
 rintro e x2 ⟨rfl, hb⟩
 replace hL0 := hL0.call hb
 clear hb hweq
 replace hL0 := ((hL0.new rfl [.int .u64 ((lo 0 : Nat) : Int), .string (hs 0)] 45).new (K := x2.heap.size + 1) (szA _ _) [.int .u64 ((lo 0 : Nat) : Int), .string (hs 0)] 45)
 generalize hweq : ((x2.alloc (.cells #[.int .u64 ((lo 0 : Nat) : Int), .string (hs 0)] 45)).alloc (.cells #[.int .u64 ((lo 0 : Nat) : Int), .string (hs 0)] 45)) = x3 at hL0
 have hA := hL0.fc
 simp only [fcG, cellsF, neK, and_true, ne_eq, Nat.zero_add, Nat.reduceAdd] at hA
 have hP := hL0.put 3 (w.heap.size + 1 + 1) _ rfl [.int .u64 0, .string ⟨#[]⟩, .bool false] rfl
 simp only [setAll, List.set_cons_zero, List.set_cons_succ] at hP
 generalize hput1 : (((x3.setCell ⟨w.heap.size + 1 + 1, 0, none⟩ (.int .u64 0)).setCell ⟨w.heap.size + 1 + 1, 1, none⟩ (.string ⟨#[]⟩)).setCell ⟨w.heap.size + 1 + 1, 2, none⟩ (.bool false)) = x4 at hP
 have hB1 := hP.fc
 simp only [fcG, cellsF, neK, and_true, ne_eq, Nat.zero_add, Nat.reduceAdd] at hB1
 replace hL0 := hP
 have hP := hL0.put 2 (w.heap.size + 1 + 1 + 1) _ rfl [.int .u64 0, .string ⟨#[]⟩, .bool false] rfl
 simp only [setAll, List.set_cons_zero, List.set_cons_succ] at hP
 generalize hput2 : (((x4.setCell ⟨w.heap.size + 1 + 1 + 1, 0, none⟩ (.int .u64 0)).setCell ⟨w.heap.size + 1 + 1 + 1, 1, none⟩ (.string ⟨#[]⟩)).setCell ⟨w.heap.size + 1 + 1 + 1, 2, none⟩ (.bool false)) = x5 at hP
 have hB2 := hP.fc
 simp only [fcG, cellsF, neK, and_true, ne_eq, Nat.zero_add, Nat.reduceAdd] at hB2
 replace hL0 := hP
 go_wp2_with fail
 exact bodyPost_ret (v := .tuple #[zV false 0, zV false 0, .bool false]) (by rw [zV_zero]; simp [results, Tryd.results43, go_sem, hB2]) rfl ⟨rfl, hL0.bl⟩
set_option maxHeartbeats 4000000 in
set_option maxRecDepth 100000 in
theorem idiv_true_true_1 (m n : Nat) (h0 : n ≠ 0) (hr : m % n = 0) (hm : (digs m).length ≤ 1000000000) (hn : (digs n).length ≤ 1000000000) (w : World) :
  Calls Tryd.prog 43 #[zV true m, zV true n] w fun e w' => e = .returned (.tuple #[zV false (m / n), zV false (0), .bool true]) ∧ Below w.heap.size w w' := by
 have hL0 : GL w w [] := GL.start w
 have HD := Lib.hid (fun w => div_pos m n (by omega) (by omega) w)
 have hlq : (digs (m / n)).length ≤ 1000000000 := Nat.le_trans (digs_mono (Nat.div_le_self m n)) hm
 have hrn : m % n < n := Nat.mod_lt _ (by omega)
 generalize m / n = q at *
 rw [hr] at HD
 clear hr hrn
 have e0 : (((lo 0 : Nat) : Int) == 0) = true := by rw [lo_small Bs_pos]; rfl
 have e1 : ((hs 0).toList == []) = true := by rw [hs_small Bs_pos, ByteArray.toList_eq]; rfl
 have HF := Lib.hid (fun w => from_any false q w)
 simp only [Bool.false_and] at HF
 have HG := Lib.hid (fun w => from_pos 0 w)
 clear hm hn h0 hlq
 replace hL0 := ((((hL0.new rfl [.int .u64 ((lo m : Nat) : Int), .string (hs m), .bool true] 47).new (K := w.heap.size + 1) (szA _ _) [.int .u64 ((lo n : Nat) : Int), .string (hs n), .bool true] 47).new (K := w.heap.size + 1 + 1) (by simp only [World.size_alloc]) [.int .u64 0, .string ⟨#[]⟩, .bool false] 47).new (K := w.heap.size + 1 + 1 + 1) (by simp only [World.size_alloc]) [.int .u64 0, .string ⟨#[]⟩, .bool false] 47)
 generalize hweq : ((((w.alloc (.cells #[.int .u64 ((lo m : Nat) : Int), .string (hs m), .bool true] 47)).alloc (.cells #[.int .u64 ((lo n : Nat) : Int), .string (hs n), .bool true] 47)).alloc (.cells #[.int .u64 0, .string ⟨#[]⟩, .bool false] 47)).alloc (.cells #[.int .u64 0, .string ⟨#[]⟩, .bool false] 47)) = x1 at hL0
 go_enter Tryd.func43, Tryd.ntmps43
 have hA := hL0.fc
 simp only [fcG, cellsF, neK, and_true, ne_eq, Nat.zero_add, Nat.reduceAdd] at hA
 go_wp2_with fail
 clear hA
 with_reducible refine Calls.mono (HD.out _) ?_
 rintro e x2 ⟨rfl, hb⟩
 replace hL0 := hL0.call hb
 clear hb hweq
 replace hL0 := ((hL0.new rfl [.int .u64 ((lo q : Nat) : Int), .string (hs q)] 45).new (K := x2.heap.size + 1) (szA _ _) [.int .u64 ((lo 0 : Nat) : Int), .string (hs 0)] 45)
 generalize hweq : ((x2.alloc (.cells #[.int .u64 ((lo q : Nat) : Int), .string (hs q)] 45)).alloc (.cells #[.int .u64 ((lo 0 : Nat) : Int), .string (hs 0)] 45)) = x3 at hL0
 have hA := hL0.fc
 simp only [fcG, cellsF, neK, and_true, ne_eq, Nat.zero_add, Nat.reduceAdd] at hA
 go_upto_region 7 with fail
 clear hA
 clear hweq
 obtain ⟨α, iα, F, hF1, hF2⟩ := cls x3
 have hq := GL.fcC hF1 hL0
 simp only [fcC, cellsC, and_true, Nat.zero_add, Nat.reduceAdd] at hq
 refine region_qs 9 (C := fun w' => ∃ x, w' = F x) (by kernel_rfl) (by kernel_rfl) (cls_drew hF2) ?_
 simp only [List.take_succ_cons, List.take_zero, List.drop_succ_cons, List.drop_zero, List.take_nil, List.drop_nil]
 repeat (go_big_quiet_step (first | fail | (go_at_call 41; with_reducible exact cls_call hF1 hF2 HF.out _) | (go_at_call 41; with_reducible exact cls_call hF1 hF2 HG.out _)))
 refine wpQuiet_nil ?_
 rintro wq ⟨xq, rfl⟩
 replace hL0 := hL0.call (hF1 xq)
 clear hq hF2
 generalize F xq = x4 at hL0 ⊢
 clear hF1 xq iα F α
 have hA := hL0.fc
 simp only [fcG, cellsF, neK, and_true, ne_eq, Nat.zero_add, Nat.reduceAdd] at hA
 have hP := hL0.put 3 (w.heap.size + 1 + 1) _ rfl [.int .u64 ((lo q : Nat) : Int), .string (hs q), .bool false] rfl
 simp only [setAll, List.set_cons_zero, List.set_cons_succ] at hP
 generalize hput1 : (((x4.setCell ⟨w.heap.size + 1 + 1, 0, none⟩ (.int .u64 ((lo q : Nat) : Int))).setCell ⟨w.heap.size + 1 + 1, 1, none⟩ (.string (hs q))).setCell ⟨w.heap.size + 1 + 1, 2, none⟩ (.bool false)) = x5 at hP
 have hB1 := hP.fc
 simp only [fcG, cellsF, neK, and_true, ne_eq, Nat.zero_add, Nat.reduceAdd] at hB1
 replace hL0 := hP
 have hP := hL0.put 2 (w.heap.size + 1 + 1 + 1) _ rfl [.int .u64 ((lo 0 : Nat) : Int), .string (hs 0), .bool false] rfl
 simp only [setAll, List.set_cons_zero, List.set_cons_succ] at hP
 generalize hput2 : (((x5.setCell ⟨w.heap.size + 1 + 1 + 1, 0, none⟩ (.int .u64 ((lo 0 : Nat) : Int))).setCell ⟨w.heap.size + 1 + 1 + 1, 1, none⟩ (.string (hs 0))).setCell ⟨w.heap.size + 1 + 1 + 1, 2, none⟩ (.bool false)) = x6 at hP
 have hB2 := hP.fc
 simp only [fcG, cellsF, neK, and_true, ne_eq, Nat.zero_add, Nat.reduceAdd] at hB2
 replace hL0 := hP
 go_wp2_with fail
 exact bodyPost_ret (v := .tuple #[zV false q, zV false 0, .bool true]) (by simp [results, Tryd.results43, go_sem, hB2]) rfl ⟨rfl, hL0.bl⟩
set_option maxHeartbeats 4000000 in
set_option maxRecDepth 100000 in
theorem idiv_true_true_2 (m n : Nat) (h0 : n ≠ 0) (hr : m % n ≠ 0) (hm : (digs m).length ≤ 1000000000) (hn : (digs n).length ≤ 1000000000) (w : World) :
  Calls Tryd.prog 43 #[zV true m, zV true n] w fun e w' => e = .returned (.tuple #[zV false (m / n + 1), zV false (n - m % n), .bool true]) ∧ Below w.heap.size w w' := by
 have hL0 : GL w w [] := GL.start w
 have HD := Lib.hid (fun w => div_pos m n (by omega) (by omega) w)
 have hlq : (digs (m / n)).length ≤ 1000000000 := Nat.le_trans (digs_mono (Nat.div_le_self m n)) hm
 have hrn : m % n < n := Nat.mod_lt _ (by omega)
 generalize m / n = q at *
 generalize m % n = r at *
 have HO := Lib.hid (fun w => of_val 1 1 rfl (by unfold Bs; omega) w)
 have HA := Lib.hid (fun w => add_any q 1 (by omega) (Nat.le_trans (digs_length_iff (k := 1).2 (by unfold Bs; decide)) (by omega)) w)
 have HS := Lib.hid (fun w => sub_ge n r (by omega) (by omega) w)
 generalize q + 1 = q1 at *
 generalize n - r = r1 at *
 have HF := Lib.hid (fun w => from_any false q1 w)
 simp only [Bool.false_and] at HF
 have HG := Lib.hid (fun w => from_pos r1 w)
 rcases ne0 hr with e0 | ⟨e0, e1⟩
 all_goals clear hm hn h0 hlq hrn hr
 all_goals (
  replace hL0 := ((((hL0.new rfl [.int .u64 ((lo m : Nat) : Int), .string (hs m), .bool true] 47).new (K := w.heap.size + 1) (szA _ _) [.int .u64 ((lo n : Nat) : Int), .string (hs n), .bool true] 47).new (K := w.heap.size + 1 + 1) (by simp only [World.size_alloc]) [.int .u64 0, .string ⟨#[]⟩, .bool false] 47).new (K := w.heap.size + 1 + 1 + 1) (by simp only [World.size_alloc]) [.int .u64 0, .string ⟨#[]⟩, .bool false] 47)
  generalize hweq : ((((w.alloc (.cells #[.int .u64 ((lo m : Nat) : Int), .string (hs m), .bool true] 47)).alloc (.cells #[.int .u64 ((lo n : Nat) : Int), .string (hs n), .bool true] 47)).alloc (.cells #[.int .u64 0, .string ⟨#[]⟩, .bool false] 47)).alloc (.cells #[.int .u64 0, .string ⟨#[]⟩, .bool false] 47)) = x1 at hL0
  go_enter Tryd.func43, Tryd.ntmps43
  have hA := hL0.fc
  simp only [fcG, cellsF, neK, and_true, ne_eq, Nat.zero_add, Nat.reduceAdd] at hA
  go_wp2_with fail
  clear hA
  with_reducible refine Calls.mono (HD.out _) ?_
  rintro e x2 ⟨rfl, hb⟩
  replace hL0 := hL0.call hb
  clear hb hweq
  replace hL0 := ((hL0.new rfl [.int .u64 ((lo q : Nat) : Int), .string (hs q)] 45).new (K := x2.heap.size + 1) (szA _ _) [.int .u64 ((lo r : Nat) : Int), .string (hs r)] 45)
  generalize hweq : ((x2.alloc (.cells #[.int .u64 ((lo q : Nat) : Int), .string (hs q)] 45)).alloc (.cells #[.int .u64 ((lo r : Nat) : Int), .string (hs r)] 45)) = x3 at hL0
  have hA := hL0.fc
  simp only [fcG, cellsF, neK, and_true, ne_eq, Nat.zero_add, Nat.reduceAdd] at hA
  go_upto_region 5 with fail
  clear hA
  clear hweq
  obtain ⟨α, iα, F, hF1, hF2⟩ := cls x3
  have hq := GL.fcC hF1 hL0
  simp only [fcC, cellsC, and_true, Nat.zero_add, Nat.reduceAdd] at hq
  refine region_qs 3 (C := fun w' => ∃ x, w' = F x) (by kernel_rfl) (by kernel_rfl) (cls_drew hF2) ?_
  simp only [List.take_succ_cons, List.take_zero, List.drop_succ_cons, List.drop_zero, List.take_nil, List.drop_nil]
  repeat (go_big_quiet_step (first | fail | (go_at_call 53; with_reducible exact cls_call hF1 hF2 HO.out _) | (go_at_call 50; with_reducible exact cls_call hF1 hF2 HA.out _)))
  refine wpQuiet_nil ?_
  rintro wq ⟨xq, rfl⟩
  replace hL0 := hL0.call (hF1 xq)
  clear hq hF2
  generalize F xq = x4 at hL0 ⊢
  clear hF1 xq iα F α
  have hA := hL0.fc
  simp only [fcG, cellsF, neK, and_true, ne_eq, Nat.zero_add, Nat.reduceAdd] at hA
  have hP := hL0.put 1 (x2.heap.size) _ rfl [.int .u64 ((lo q1 : Nat) : Int), .string (hs q1)] rfl
  simp only [setAll, List.set_cons_zero, List.set_cons_succ] at hP
  generalize hput1 : ((x4.setCell ⟨x2.heap.size, 0, none⟩ (.int .u64 ((lo q1 : Nat) : Int))).setCell ⟨x2.heap.size, 1, none⟩ (.string (hs q1))) = x5 at hP
  have hB1 := hP.fc
  simp only [fcG, cellsF, neK, and_true, ne_eq, Nat.zero_add, Nat.reduceAdd] at hB1
  replace hL0 := hP
  go_wp2_with fail
  clear hA
  with_reducible refine Calls.mono (HS.out _) ?_
  rintro e x6 ⟨rfl, hb⟩
  replace hL0 := hL0.call hb
  clear hb hput1 hB1
  have hA := hL0.fc
  simp only [fcG, cellsF, neK, and_true, ne_eq, Nat.zero_add, Nat.reduceAdd] at hA
  have hP := hL0.put 0 (x2.heap.size + 1) _ rfl [.int .u64 ((lo r1 : Nat) : Int), .string (hs r1)] rfl
  simp only [setAll, List.set_cons_zero, List.set_cons_succ] at hP
  generalize hput2 : ((x6.setCell ⟨x2.heap.size + 1, 0, none⟩ (.int .u64 ((lo r1 : Nat) : Int))).setCell ⟨x2.heap.size + 1, 1, none⟩ (.string (hs r1))) = x7 at hP
  have hB2 := hP.fc
  simp only [fcG, cellsF, neK, and_true, ne_eq, Nat.zero_add, Nat.reduceAdd] at hB2
  replace hL0 := hP
  go_upto_region 7 with fail
  clear hA
  clear hput2 hB2
  obtain ⟨α, iα, F, hF1, hF2⟩ := cls x7
  have hq := GL.fcC hF1 hL0
  simp only [fcC, cellsC, and_true, Nat.zero_add, Nat.reduceAdd] at hq
  refine region_qs 9 (C := fun w' => ∃ x, w' = F x) (by kernel_rfl) (by kernel_rfl) (cls_drew hF2) ?_
  simp only [List.take_succ_cons, List.take_zero, List.drop_succ_cons, List.drop_zero, List.take_nil, List.drop_nil]
  repeat (go_big_quiet_step (first | fail | (go_at_call 41; with_reducible exact cls_call hF1 hF2 HF.out _) | (go_at_call 41; with_reducible exact cls_call hF1 hF2 HG.out _)))
  refine wpQuiet_nil ?_
  rintro wq ⟨xq, rfl⟩
  replace hL0 := hL0.call (hF1 xq)
  clear hq hF2
  generalize F xq = x8 at hL0 ⊢
  clear hF1 xq iα F α
  have hA := hL0.fc
  simp only [fcG, cellsF, neK, and_true, ne_eq, Nat.zero_add, Nat.reduceAdd] at hA
  have hP := hL0.put 3 (w.heap.size + 1 + 1) _ rfl [.int .u64 ((lo q1 : Nat) : Int), .string (hs q1), .bool false] rfl
  simp only [setAll, List.set_cons_zero, List.set_cons_succ] at hP
  generalize hput3 : (((x8.setCell ⟨w.heap.size + 1 + 1, 0, none⟩ (.int .u64 ((lo q1 : Nat) : Int))).setCell ⟨w.heap.size + 1 + 1, 1, none⟩ (.string (hs q1))).setCell ⟨w.heap.size + 1 + 1, 2, none⟩ (.bool false)) = x9 at hP
  have hB3 := hP.fc
  simp only [fcG, cellsF, neK, and_true, ne_eq, Nat.zero_add, Nat.reduceAdd] at hB3
  replace hL0 := hP
  have hP := hL0.put 2 (w.heap.size + 1 + 1 + 1) _ rfl [.int .u64 ((lo r1 : Nat) : Int), .string (hs r1), .bool false] rfl
  simp only [setAll, List.set_cons_zero, List.set_cons_succ] at hP
  generalize hput4 : (((x9.setCell ⟨w.heap.size + 1 + 1 + 1, 0, none⟩ (.int .u64 ((lo r1 : Nat) : Int))).setCell ⟨w.heap.size + 1 + 1 + 1, 1, none⟩ (.string (hs r1))).setCell ⟨w.heap.size + 1 + 1 + 1, 2, none⟩ (.bool false)) = x10 at hP
  have hB4 := hP.fc
  simp only [fcG, cellsF, neK, and_true, ne_eq, Nat.zero_add, Nat.reduceAdd] at hB4
  replace hL0 := hP
  go_wp2_with fail
  exact bodyPost_ret (v := .tuple #[zV false q1, zV false r1, .bool true]) (by simp [results, Tryd.results43, go_sem, hB4]) rfl ⟨rfl, hL0.bl⟩)
set_option maxHeartbeats 4000000 in
set_option maxRecDepth 100000 in
theorem idiv_true_false_1 (m n : Nat) (h0 : n ≠ 0) (hr : m % n = 0) (hm : (digs m).length ≤ 1000000000) (hn : (digs n).length ≤ 1000000000) (w : World) :
  Calls Tryd.prog 43 #[zV true m, zV false n] w fun e w' => e = .returned (.tuple #[zV (decide (m / n ≠ 0)) (m / n), zV false (0), .bool true]) ∧ Below w.heap.size w w' := by
 have hL0 : GL w w [] := GL.start w
 have HD := Lib.hid (fun w => div_pos m n (by omega) (by omega) w)
 have hlq : (digs (m / n)).length ≤ 1000000000 := Nat.le_trans (digs_mono (Nat.div_le_self m n)) hm
 have hrn : m % n < n := Nat.mod_lt _ (by omega)
 generalize m / n = q at *
 rw [hr] at HD
 clear hr hrn
 have e0 : (((lo 0 : Nat) : Int) == 0) = true := by rw [lo_small Bs_pos]; rfl
 have e1 : ((hs 0).toList == []) = true := by rw [hs_small Bs_pos, ByteArray.toList_eq]; rfl
 have HF := Lib.hid (fun w => from_any true q w)
 simp only [Bool.true_and] at HF
 obtain ⟨d, hd⟩ : ∃ d, d = decide (q ≠ 0) := ⟨_, rfl⟩
 rw [← hd] at HF ⊢
 clear hd
 have HG := Lib.hid (fun w => from_pos 0 w)
 clear hm hn h0 hlq
 replace hL0 := ((((hL0.new rfl [.int .u64 ((lo m : Nat) : Int), .string (hs m), .bool true] 47).new (K := w.heap.size + 1) (szA _ _) [.int .u64 ((lo n : Nat) : Int), .string (hs n), .bool false] 47).new (K := w.heap.size + 1 + 1) (by simp only [World.size_alloc]) [.int .u64 0, .string ⟨#[]⟩, .bool false] 47).new (K := w.heap.size + 1 + 1 + 1) (by simp only [World.size_alloc]) [.int .u64 0, .string ⟨#[]⟩, .bool false] 47)
 generalize hweq : ((((w.alloc (.cells #[.int .u64 ((lo m : Nat) : Int), .string (hs m), .bool true] 47)).alloc (.cells #[.int .u64 ((lo n : Nat) : Int), .string (hs n), .bool false] 47)).alloc (.cells #[.int .u64 0, .string ⟨#[]⟩, .bool false] 47)).alloc (.cells #[.int .u64 0, .string ⟨#[]⟩, .bool false] 47)) = x1 at hL0
 go_enter Tryd.func43, Tryd.ntmps43
 have hA := hL0.fc
 simp only [fcG, cellsF, neK, and_true, ne_eq, Nat.zero_add, Nat.reduceAdd] at hA
 go_wp2_with fail
 clear hA
 with_reducible refine Calls.mono (HD.out _) ?_
 rintro e x2 ⟨rfl, hb⟩
 replace hL0 := hL0.call hb
 clear hb hweq
 replace hL0 := ((hL0.new rfl [.int .u64 ((lo q : Nat) : Int), .string (hs q)] 45).new (K := x2.heap.size + 1) (szA _ _) [.int .u64 ((lo 0 : Nat) : Int), .string (hs 0)] 45)
 generalize hweq : ((x2.alloc (.cells #[.int .u64 ((lo q : Nat) : Int), .string (hs q)] 45)).alloc (.cells #[.int .u64 ((lo 0 : Nat) : Int), .string (hs 0)] 45)) = x3 at hL0
 have hA := hL0.fc
 simp only [fcG, cellsF, neK, and_true, ne_eq, Nat.zero_add, Nat.reduceAdd] at hA
 go_upto_region 7 with fail
 clear hA
 clear hweq
 obtain ⟨α, iα, F, hF1, hF2⟩ := cls x3
 have hq := GL.fcC hF1 hL0
 simp only [fcC, cellsC, and_true, Nat.zero_add, Nat.reduceAdd] at hq
 refine region_qs 9 (C := fun w' => ∃ x, w' = F x) (by kernel_rfl) (by kernel_rfl) (cls_drew hF2) ?_
 simp only [List.take_succ_cons, List.take_zero, List.drop_succ_cons, List.drop_zero, List.take_nil, List.drop_nil]
 repeat (go_big_quiet_step (first | fail | (go_at_call 41; with_reducible exact cls_call hF1 hF2 HF.out _) | (go_at_call 41; with_reducible exact cls_call hF1 hF2 HG.out _)))
 refine wpQuiet_nil ?_
 rintro wq ⟨xq, rfl⟩
 replace hL0 := hL0.call (hF1 xq)
 clear hq hF2
 generalize F xq = x4 at hL0 ⊢
 clear hF1 xq iα F α
 have hA := hL0.fc
 simp only [fcG, cellsF, neK, and_true, ne_eq, Nat.zero_add, Nat.reduceAdd] at hA
 have hP := hL0.put 3 (w.heap.size + 1 + 1) _ rfl [.int .u64 ((lo q : Nat) : Int), .string (hs q), .bool d] rfl
 simp only [setAll, List.set_cons_zero, List.set_cons_succ] at hP
 generalize hput1 : (((x4.setCell ⟨w.heap.size + 1 + 1, 0, none⟩ (.int .u64 ((lo q : Nat) : Int))).setCell ⟨w.heap.size + 1 + 1, 1, none⟩ (.string (hs q))).setCell ⟨w.heap.size + 1 + 1, 2, none⟩ (.bool d)) = x5 at hP
 have hB1 := hP.fc
 simp only [fcG, cellsF, neK, and_true, ne_eq, Nat.zero_add, Nat.reduceAdd] at hB1
 replace hL0 := hP
 have hP := hL0.put 2 (w.heap.size + 1 + 1 + 1) _ rfl [.int .u64 ((lo 0 : Nat) : Int), .string (hs 0), .bool false] rfl
 simp only [setAll, List.set_cons_zero, List.set_cons_succ] at hP
 generalize hput2 : (((x5.setCell ⟨w.heap.size + 1 + 1 + 1, 0, none⟩ (.int .u64 ((lo 0 : Nat) : Int))).setCell ⟨w.heap.size + 1 + 1 + 1, 1, none⟩ (.string (hs 0))).setCell ⟨w.heap.size + 1 + 1 + 1, 2, none⟩ (.bool false)) = x6 at hP
 have hB2 := hP.fc
 simp only [fcG, cellsF, neK, and_true, ne_eq, Nat.zero_add, Nat.reduceAdd] at hB2
 replace hL0 := hP
 go_wp2_with fail
 exact bodyPost_ret (v := .tuple #[zV d q, zV false 0, .bool true]) (by simp [results, Tryd.results43, go_sem, hB2]) rfl ⟨rfl, hL0.bl⟩
set_option maxHeartbeats 4000000 in
set_option maxRecDepth 100000 in
theorem idiv_true_false_2 (m n : Nat) (h0 : n ≠ 0) (hr : m % n ≠ 0) (hm : (digs m).length ≤ 1000000000) (hn : (digs n).length ≤ 1000000000) (w : World) :
  Calls Tryd.prog 43 #[zV true m, zV false n] w fun e w' => e = .returned (.tuple #[zV (decide (m / n + 1 ≠ 0)) (m / n + 1), zV false (n - m % n), .bool true]) ∧ Below w.heap.size w w' := by
 have hL0 : GL w w [] := GL.start w
 have HD := Lib.hid (fun w => div_pos m n (by omega) (by omega) w)
 have hlq : (digs (m / n)).length ≤ 1000000000 := Nat.le_trans (digs_mono (Nat.div_le_self m n)) hm
 have hrn : m % n < n := Nat.mod_lt _ (by omega)
 generalize m / n = q at *
 generalize m % n = r at *
 have HO := Lib.hid (fun w => of_val 1 1 rfl (by unfold Bs; omega) w)
 have HA := Lib.hid (fun w => add_any q 1 (by omega) (Nat.le_trans (digs_length_iff (k := 1).2 (by unfold Bs; decide)) (by omega)) w)
 have HS := Lib.hid (fun w => sub_ge n r (by omega) (by omega) w)
 generalize q + 1 = q1 at *
 generalize n - r = r1 at *
 have HF := Lib.hid (fun w => from_any true q1 w)
 simp only [Bool.true_and] at HF
 obtain ⟨d, hd⟩ : ∃ d, d = decide (q1 ≠ 0) := ⟨_, rfl⟩
 rw [← hd] at HF ⊢
 clear hd
 have HG := Lib.hid (fun w => from_pos r1 w)
 rcases ne0 hr with e0 | ⟨e0, e1⟩
 all_goals clear hm hn h0 hlq hrn hr
 all_goals (
  replace hL0 := ((((hL0.new rfl [.int .u64 ((lo m : Nat) : Int), .string (hs m), .bool true] 47).new (K := w.heap.size + 1) (szA _ _) [.int .u64 ((lo n : Nat) : Int), .string (hs n), .bool false] 47).new (K := w.heap.size + 1 + 1) (by simp only [World.size_alloc]) [.int .u64 0, .string ⟨#[]⟩, .bool false] 47).new (K := w.heap.size + 1 + 1 + 1) (by simp only [World.size_alloc]) [.int .u64 0, .string ⟨#[]⟩, .bool false] 47)
  generalize hweq : ((((w.alloc (.cells #[.int .u64 ((lo m : Nat) : Int), .string (hs m), .bool true] 47)).alloc (.cells #[.int .u64 ((lo n : Nat) : Int), .string (hs n), .bool false] 47)).alloc (.cells #[.int .u64 0, .string ⟨#[]⟩, .bool false] 47)).alloc (.cells #[.int .u64 0, .string ⟨#[]⟩, .bool false] 47)) = x1 at hL0
  go_enter Tryd.func43, Tryd.ntmps43
  have hA := hL0.fc
  simp only [fcG, cellsF, neK, and_true, ne_eq, Nat.zero_add, Nat.reduceAdd] at hA
  go_wp2_with fail
  clear hA
  with_reducible refine Calls.mono (HD.out _) ?_
  rintro e x2 ⟨rfl, hb⟩
  replace hL0 := hL0.call hb
  clear hb hweq
  replace hL0 := ((hL0.new rfl [.int .u64 ((lo q : Nat) : Int), .string (hs q)] 45).new (K := x2.heap.size + 1) (szA _ _) [.int .u64 ((lo r : Nat) : Int), .string (hs r)] 45)
  generalize hweq : ((x2.alloc (.cells #[.int .u64 ((lo q : Nat) : Int), .string (hs q)] 45)).alloc (.cells #[.int .u64 ((lo r : Nat) : Int), .string (hs r)] 45)) = x3 at hL0
  have hA := hL0.fc
  simp only [fcG, cellsF, neK, and_true, ne_eq, Nat.zero_add, Nat.reduceAdd] at hA
  go_upto_region 5 with fail
  clear hA
  clear hweq
  obtain ⟨α, iα, F, hF1, hF2⟩ := cls x3
  have hq := GL.fcC hF1 hL0
  simp only [fcC, cellsC, and_true, Nat.zero_add, Nat.reduceAdd] at hq
  refine region_qs 3 (C := fun w' => ∃ x, w' = F x) (by kernel_rfl) (by kernel_rfl) (cls_drew hF2) ?_
  simp only [List.take_succ_cons, List.take_zero, List.drop_succ_cons, List.drop_zero, List.take_nil, List.drop_nil]
  repeat (go_big_quiet_step (first | fail | (go_at_call 53; with_reducible exact cls_call hF1 hF2 HO.out _) | (go_at_call 50; with_reducible exact cls_call hF1 hF2 HA.out _)))
  refine wpQuiet_nil ?_
  rintro wq ⟨xq, rfl⟩
  replace hL0 := hL0.call (hF1 xq)
  clear hq hF2
  generalize F xq = x4 at hL0 ⊢
  clear hF1 xq iα F α
  have hA := hL0.fc
  simp only [fcG, cellsF, neK, and_true, ne_eq, Nat.zero_add, Nat.reduceAdd] at hA
  have hP := hL0.put 1 (x2.heap.size) _ rfl [.int .u64 ((lo q1 : Nat) : Int), .string (hs q1)] rfl
  simp only [setAll, List.set_cons_zero, List.set_cons_succ] at hP
  generalize hput1 : ((x4.setCell ⟨x2.heap.size, 0, none⟩ (.int .u64 ((lo q1 : Nat) : Int))).setCell ⟨x2.heap.size, 1, none⟩ (.string (hs q1))) = x5 at hP
  have hB1 := hP.fc
  simp only [fcG, cellsF, neK, and_true, ne_eq, Nat.zero_add, Nat.reduceAdd] at hB1
  replace hL0 := hP
  go_wp2_with fail
  clear hA
  with_reducible refine Calls.mono (HS.out _) ?_
  rintro e x6 ⟨rfl, hb⟩
  replace hL0 := hL0.call hb
  clear hb hput1 hB1
  have hA := hL0.fc
  simp only [fcG, cellsF, neK, and_true, ne_eq, Nat.zero_add, Nat.reduceAdd] at hA
  have hP := hL0.put 0 (x2.heap.size + 1) _ rfl [.int .u64 ((lo r1 : Nat) : Int), .string (hs r1)] rfl
  simp only [setAll, List.set_cons_zero, List.set_cons_succ] at hP
  generalize hput2 : ((x6.setCell ⟨x2.heap.size + 1, 0, none⟩ (.int .u64 ((lo r1 : Nat) : Int))).setCell ⟨x2.heap.size + 1, 1, none⟩ (.string (hs r1))) = x7 at hP
  have hB2 := hP.fc
  simp only [fcG, cellsF, neK, and_true, ne_eq, Nat.zero_add, Nat.reduceAdd] at hB2
  replace hL0 := hP
  go_upto_region 7 with fail
  clear hA
  clear hput2 hB2
  obtain ⟨α, iα, F, hF1, hF2⟩ := cls x7
  have hq := GL.fcC hF1 hL0
  simp only [fcC, cellsC, and_true, Nat.zero_add, Nat.reduceAdd] at hq
  refine region_qs 9 (C := fun w' => ∃ x, w' = F x) (by kernel_rfl) (by kernel_rfl) (cls_drew hF2) ?_
  simp only [List.take_succ_cons, List.take_zero, List.drop_succ_cons, List.drop_zero, List.take_nil, List.drop_nil]
  repeat (go_big_quiet_step (first | fail | (go_at_call 41; with_reducible exact cls_call hF1 hF2 HF.out _) | (go_at_call 41; with_reducible exact cls_call hF1 hF2 HG.out _)))
  refine wpQuiet_nil ?_
  rintro wq ⟨xq, rfl⟩
  replace hL0 := hL0.call (hF1 xq)
  clear hq hF2
  generalize F xq = x8 at hL0 ⊢
  clear hF1 xq iα F α
  have hA := hL0.fc
  simp only [fcG, cellsF, neK, and_true, ne_eq, Nat.zero_add, Nat.reduceAdd] at hA
  have hP := hL0.put 3 (w.heap.size + 1 + 1) _ rfl [.int .u64 ((lo q1 : Nat) : Int), .string (hs q1), .bool d] rfl
  simp only [setAll, List.set_cons_zero, List.set_cons_succ] at hP
  generalize hput3 : (((x8.setCell ⟨w.heap.size + 1 + 1, 0, none⟩ (.int .u64 ((lo q1 : Nat) : Int))).setCell ⟨w.heap.size + 1 + 1, 1, none⟩ (.string (hs q1))).setCell ⟨w.heap.size + 1 + 1, 2, none⟩ (.bool d)) = x9 at hP
  have hB3 := hP.fc
  simp only [fcG, cellsF, neK, and_true, ne_eq, Nat.zero_add, Nat.reduceAdd] at hB3
  replace hL0 := hP
  have hP := hL0.put 2 (w.heap.size + 1 + 1 + 1) _ rfl [.int .u64 ((lo r1 : Nat) : Int), .string (hs r1), .bool false] rfl
  simp only [setAll, List.set_cons_zero, List.set_cons_succ] at hP
  generalize hput4 : (((x9.setCell ⟨w.heap.size + 1 + 1 + 1, 0, none⟩ (.int .u64 ((lo r1 : Nat) : Int))).setCell ⟨w.heap.size + 1 + 1 + 1, 1, none⟩ (.string (hs r1))).setCell ⟨w.heap.size + 1 + 1 + 1, 2, none⟩ (.bool false)) = x10 at hP
  have hB4 := hP.fc
  simp only [fcG, cellsF, neK, and_true, ne_eq, Nat.zero_add, Nat.reduceAdd] at hB4
  replace hL0 := hP
  go_wp2_with fail
  exact bodyPost_ret (v := .tuple #[zV d q1, zV false r1, .bool true]) (by simp [results, Tryd.results43, go_sem, hB4]) rfl ⟨rfl, hL0.bl⟩)
set_option maxHeartbeats 4000000 in
set_option maxRecDepth 100000 in
theorem idiv_false_true (m n : Nat) (h0 : n ≠ 0) (hm : (digs m).length ≤ 1000000000) (hn : (digs n).length ≤ 1000000000) (w : World) :
  Calls Tryd.prog 43 #[zV false m, zV true n] w fun e w' => e = .returned (.tuple #[zV (decide (m / n ≠ 0)) (m / n), zV false (m % n), .bool true]) ∧ Below w.heap.size w w' := by
 have hL0 : GL w w [] := GL.start w
 have HD := Lib.hid (fun w => div_pos m n (by omega) (by omega) w)
 have hlq : (digs (m / n)).length ≤ 1000000000 := Nat.le_trans (digs_mono (Nat.div_le_self m n)) hm
 have hrn : m % n < n := Nat.mod_lt _ (by omega)
 generalize m / n = q at *
 generalize m % n = r at *
 have HF := Lib.hid (fun w => from_any true q w)
 simp only [Bool.true_and] at HF
 obtain ⟨d, hd⟩ : ∃ d, d = decide (q ≠ 0) := ⟨_, rfl⟩
 rw [← hd] at HF ⊢
 clear hd
 have HG := Lib.hid (fun w => from_pos r w)
 clear hm hn h0 hlq hrn
 replace hL0 := ((((hL0.new rfl [.int .u64 ((lo m : Nat) : Int), .string (hs m), .bool false] 47).new (K := w.heap.size + 1) (szA _ _) [.int .u64 ((lo n : Nat) : Int), .string (hs n), .bool true] 47).new (K := w.heap.size + 1 + 1) (by simp only [World.size_alloc]) [.int .u64 0, .string ⟨#[]⟩, .bool false] 47).new (K := w.heap.size + 1 + 1 + 1) (by simp only [World.size_alloc]) [.int .u64 0, .string ⟨#[]⟩, .bool false] 47)
 generalize hweq : ((((w.alloc (.cells #[.int .u64 ((lo m : Nat) : Int), .string (hs m), .bool false] 47)).alloc (.cells #[.int .u64 ((lo n : Nat) : Int), .string (hs n), .bool true] 47)).alloc (.cells #[.int .u64 0, .string ⟨#[]⟩, .bool false] 47)).alloc (.cells #[.int .u64 0, .string ⟨#[]⟩, .bool false] 47)) = x1 at hL0
 go_enter Tryd.func43, Tryd.ntmps43
 have hA := hL0.fc
 simp only [fcG, cellsF, neK, and_true, ne_eq, Nat.zero_add, Nat.reduceAdd] at hA
 go_wp2_with fail
 clear hA
 with_reducible refine Calls.mono (HD.out _) ?_
 rintro e x2 ⟨rfl, hb⟩
 replace hL0 := hL0.call hb
 clear hb hweq
 replace hL0 := ((hL0.new rfl [.int .u64 ((lo q : Nat) : Int), .string (hs q)] 45).new (K := x2.heap.size + 1) (szA _ _) [.int .u64 ((lo r : Nat) : Int), .string (hs r)] 45)
 generalize hweq : ((x2.alloc (.cells #[.int .u64 ((lo q : Nat) : Int), .string (hs q)] 45)).alloc (.cells #[.int .u64 ((lo r : Nat) : Int), .string (hs r)] 45)) = x3 at hL0
 have hA := hL0.fc
 simp only [fcG, cellsF, neK, and_true, ne_eq, Nat.zero_add, Nat.reduceAdd] at hA
 go_upto_region 7 with fail
 clear hA
 clear hweq
 obtain ⟨α, iα, F, hF1, hF2⟩ := cls x3
 have hq := GL.fcC hF1 hL0
 simp only [fcC, cellsC, and_true, Nat.zero_add, Nat.reduceAdd] at hq
 refine region_qs 9 (C := fun w' => ∃ x, w' = F x) (by kernel_rfl) (by kernel_rfl) (cls_drew hF2) ?_
 simp only [List.take_succ_cons, List.take_zero, List.drop_succ_cons, List.drop_zero, List.take_nil, List.drop_nil]
 repeat (go_big_quiet_step (first | fail | (go_at_call 41; with_reducible exact cls_call hF1 hF2 HF.out _) | (go_at_call 41; with_reducible exact cls_call hF1 hF2 HG.out _)))
 refine wpQuiet_nil ?_
 rintro wq ⟨xq, rfl⟩
 replace hL0 := hL0.call (hF1 xq)
 clear hq hF2
 generalize F xq = x4 at hL0 ⊢
 clear hF1 xq iα F α
 have hA := hL0.fc
 simp only [fcG, cellsF, neK, and_true, ne_eq, Nat.zero_add, Nat.reduceAdd] at hA
 have hP := hL0.put 3 (w.heap.size + 1 + 1) _ rfl [.int .u64 ((lo q : Nat) : Int), .string (hs q), .bool d] rfl
 simp only [setAll, List.set_cons_zero, List.set_cons_succ] at hP
 generalize hput1 : (((x4.setCell ⟨w.heap.size + 1 + 1, 0, none⟩ (.int .u64 ((lo q : Nat) : Int))).setCell ⟨w.heap.size + 1 + 1, 1, none⟩ (.string (hs q))).setCell ⟨w.heap.size + 1 + 1, 2, none⟩ (.bool d)) = x5 at hP
 have hB1 := hP.fc
 simp only [fcG, cellsF, neK, and_true, ne_eq, Nat.zero_add, Nat.reduceAdd] at hB1
 replace hL0 := hP
 have hP := hL0.put 2 (w.heap.size + 1 + 1 + 1) _ rfl [.int .u64 ((lo r : Nat) : Int), .string (hs r), .bool false] rfl
 simp only [setAll, List.set_cons_zero, List.set_cons_succ] at hP
 generalize hput2 : (((x5.setCell ⟨w.heap.size + 1 + 1 + 1, 0, none⟩ (.int .u64 ((lo r : Nat) : Int))).setCell ⟨w.heap.size + 1 + 1 + 1, 1, none⟩ (.string (hs r))).setCell ⟨w.heap.size + 1 + 1 + 1, 2, none⟩ (.bool false)) = x6 at hP
 have hB2 := hP.fc
 simp only [fcG, cellsF, neK, and_true, ne_eq, Nat.zero_add, Nat.reduceAdd] at hB2
 replace hL0 := hP
 go_wp2_with fail
 exact bodyPost_ret (v := .tuple #[zV d q, zV false r, .bool true]) (by simp [results, Tryd.results43, go_sem, hB2]) rfl ⟨rfl, hL0.bl⟩
set_option maxHeartbeats 4000000 in
set_option maxRecDepth 100000 in
theorem idiv_false_false (m n : Nat) (h0 : n ≠ 0) (hm : (digs m).length ≤ 1000000000) (hn : (digs n).length ≤ 1000000000) (w : World) :
  Calls Tryd.prog 43 #[zV false m, zV false n] w fun e w' => e = .returned (.tuple #[zV false (m / n), zV false (m % n), .bool true]) ∧ Below w.heap.size w w' := by
 have hL0 : GL w w [] := GL.start w
 have HD := Lib.hid (fun w => div_pos m n (by omega) (by omega) w)
 have hlq : (digs (m / n)).length ≤ 1000000000 := Nat.le_trans (digs_mono (Nat.div_le_self m n)) hm
 have hrn : m % n < n := Nat.mod_lt _ (by omega)
 generalize m / n = q at *
 generalize m % n = r at *
 have HF := Lib.hid (fun w => from_any false q w)
 simp only [Bool.false_and] at HF
 have HG := Lib.hid (fun w => from_pos r w)
 clear hm hn h0 hlq hrn
 replace hL0 := ((((hL0.new rfl [.int .u64 ((lo m : Nat) : Int), .string (hs m), .bool false] 47).new (K := w.heap.size + 1) (szA _ _) [.int .u64 ((lo n : Nat) : Int), .string (hs n), .bool false] 47).new (K := w.heap.size + 1 + 1) (by simp only [World.size_alloc]) [.int .u64 0, .string ⟨#[]⟩, .bool false] 47).new (K := w.heap.size + 1 + 1 + 1) (by simp only [World.size_alloc]) [.int .u64 0, .string ⟨#[]⟩, .bool false] 47)
 generalize hweq : ((((w.alloc (.cells #[.int .u64 ((lo m : Nat) : Int), .string (hs m), .bool false] 47)).alloc (.cells #[.int .u64 ((lo n : Nat) : Int), .string (hs n), .bool false] 47)).alloc (.cells #[.int .u64 0, .string ⟨#[]⟩, .bool false] 47)).alloc (.cells #[.int .u64 0, .string ⟨#[]⟩, .bool false] 47)) = x1 at hL0
 go_enter Tryd.func43, Tryd.ntmps43
 have hA := hL0.fc
 simp only [fcG, cellsF, neK, and_true, ne_eq, Nat.zero_add, Nat.reduceAdd] at hA
 go_wp2_with fail
 clear hA
 with_reducible refine Calls.mono (HD.out _) ?_
 rintro e x2 ⟨rfl, hb⟩
 replace hL0 := hL0.call hb
 clear hb hweq
 replace hL0 := ((hL0.new rfl [.int .u64 ((lo q : Nat) : Int), .string (hs q)] 45).new (K := x2.heap.size + 1) (szA _ _) [.int .u64 ((lo r : Nat) : Int), .string (hs r)] 45)
 generalize hweq : ((x2.alloc (.cells #[.int .u64 ((lo q : Nat) : Int), .string (hs q)] 45)).alloc (.cells #[.int .u64 ((lo r : Nat) : Int), .string (hs r)] 45)) = x3 at hL0
 have hA := hL0.fc
 simp only [fcG, cellsF, neK, and_true, ne_eq, Nat.zero_add, Nat.reduceAdd] at hA
 go_upto_region 7 with fail
 clear hA
 clear hweq
 obtain ⟨α, iα, F, hF1, hF2⟩ := cls x3
 have hq := GL.fcC hF1 hL0
 simp only [fcC, cellsC, and_true, Nat.zero_add, Nat.reduceAdd] at hq
 refine region_qs 9 (C := fun w' => ∃ x, w' = F x) (by kernel_rfl) (by kernel_rfl) (cls_drew hF2) ?_
 simp only [List.take_succ_cons, List.take_zero, List.drop_succ_cons, List.drop_zero, List.take_nil, List.drop_nil]
 repeat (go_big_quiet_step (first | fail | (go_at_call 41; with_reducible exact cls_call hF1 hF2 HF.out _) | (go_at_call 41; with_reducible exact cls_call hF1 hF2 HG.out _)))
 refine wpQuiet_nil ?_
 rintro wq ⟨xq, rfl⟩
 replace hL0 := hL0.call (hF1 xq)
 clear hq hF2
 generalize F xq = x4 at hL0 ⊢
 clear hF1 xq iα F α
 have hA := hL0.fc
 simp only [fcG, cellsF, neK, and_true, ne_eq, Nat.zero_add, Nat.reduceAdd] at hA
 have hP := hL0.put 3 (w.heap.size + 1 + 1) _ rfl [.int .u64 ((lo q : Nat) : Int), .string (hs q), .bool false] rfl
 simp only [setAll, List.set_cons_zero, List.set_cons_succ] at hP
 generalize hput1 : (((x4.setCell ⟨w.heap.size + 1 + 1, 0, none⟩ (.int .u64 ((lo q : Nat) : Int))).setCell ⟨w.heap.size + 1 + 1, 1, none⟩ (.string (hs q))).setCell ⟨w.heap.size + 1 + 1, 2, none⟩ (.bool false)) = x5 at hP
 have hB1 := hP.fc
 simp only [fcG, cellsF, neK, and_true, ne_eq, Nat.zero_add, Nat.reduceAdd] at hB1
 replace hL0 := hP
 have hP := hL0.put 2 (w.heap.size + 1 + 1 + 1) _ rfl [.int .u64 ((lo r : Nat) : Int), .string (hs r), .bool false] rfl
 simp only [setAll, List.set_cons_zero, List.set_cons_succ] at hP
 generalize hput2 : (((x5.setCell ⟨w.heap.size + 1 + 1 + 1, 0, none⟩ (.int .u64 ((lo r : Nat) : Int))).setCell ⟨w.heap.size + 1 + 1 + 1, 1, none⟩ (.string (hs r))).setCell ⟨w.heap.size + 1 + 1 + 1, 2, none⟩ (.bool false)) = x6 at hP
 have hB2 := hP.fc
 simp only [fcG, cellsF, neK, and_true, ne_eq, Nat.zero_add, Nat.reduceAdd] at hB2
 replace hL0 := hP
 go_wp2_with fail
 exact bodyPost_ret (v := .tuple #[zV false q, zV false r, .bool true]) (by simp [results, Tryd.results43, go_sem, hB2]) rfl ⟨rfl, hL0.bl⟩
end Go.Proofs.YtfmakoiiibacjaaDoor
namespace Go.Proofs.YtfmakoiiibacjaaDoor
open Go.RowKit
attribute [local irreducible] lo hs sm s64 c64 d64 b64 mh ml pd pc qd qc val hiB str cmpI srD lz nb
set_option maxHeartbeats 4000000 in
set_option maxRecDepth 100000 in
theorem i64_true_big (m : Nat) (h : Bs ≤ m) (w : World) :
  Calls Tryd.prog 44 #[zV true m] w fun e w' => e = .returned (.tuple #[.int .i64 0, .bool false]) ∧ Below w.heap.size w w' := by
 have hL0 : GL w w [] := GL.start w
 have HU := Lib.hid (fun w => u64_big m h w)
 clear h
 replace hL0 := (hL0.new rfl [.int .u64 ((lo m : Nat) : Int), .string (hs m), .bool true] 47)
 generalize hweq : (w.alloc (.cells #[.int .u64 ((lo m : Nat) : Int), .string (hs m), .bool true] 47)) = x1 at hL0
 go_enter Tryd.func44, Tryd.ntmps44
 have hA := hL0.fc
 simp only [fcG, cellsF, neK, and_true, ne_eq, Nat.zero_add, Nat.reduceAdd] at hA
 go_wp2_with fail
 clear hA
 with_reducible refine Calls.mono (HU.out _) ?_
 rintro e x2 ⟨rfl, hb⟩
 replace hL0 := hL0.call hb
 clear hb hweq
 have hA := hL0.fc
 simp only [fcG, cellsF, neK, and_true, ne_eq, Nat.zero_add, Nat.reduceAdd] at hA
 go_wp2_with fail
 exact bodyPost_ret (v := .tuple #[.int .i64 0, .bool false]) (by simp [results, Tryd.results44, go_sem, hA]) rfl ⟨rfl, hL0.bl⟩
set_option maxHeartbeats 4000000 in
set_option maxRecDepth 100000 in
theorem i64_true_out (m : Nat) (h : m < Bs) (h1 : (9223372036854775808 : Int) < (m : Int)) (w : World) :
  Calls Tryd.prog 44 #[zV true m] w fun e w' => e = .returned (.tuple #[.int .i64 0, .bool false]) ∧ Below w.heap.size w w' := by
 have hL0 : GL w w [] := GL.start w
 have HU := Lib.hid (fun w => u64_small m h w)
 have k1 : decide ((m : Int) ≤ 9223372036854775808) = false := decide_eq_false (by omega)
 clear h h1
 replace hL0 := (hL0.new rfl [.int .u64 ((lo m : Nat) : Int), .string (hs m), .bool true] 47)
 generalize hweq : (w.alloc (.cells #[.int .u64 ((lo m : Nat) : Int), .string (hs m), .bool true] 47)) = x1 at hL0
 go_enter Tryd.func44, Tryd.ntmps44
 have hA := hL0.fc
 simp only [fcG, cellsF, neK, and_true, ne_eq, Nat.zero_add, Nat.reduceAdd] at hA
 go_wp2_with fail
 clear hA
 with_reducible refine Calls.mono (HU.out _) ?_
 rintro e x2 ⟨rfl, hb⟩
 replace hL0 := hL0.call hb
 clear hb hweq
 have hA := hL0.fc
 simp only [fcG, cellsF, neK, and_true, ne_eq, Nat.zero_add, Nat.reduceAdd] at hA
 go_wp2_with fail
 exact bodyPost_ret (v := .tuple #[.int .i64 0, .bool false]) (by simp [results, Tryd.results44, go_sem, hA]) rfl ⟨rfl, hL0.bl⟩
set_option maxHeartbeats 4000000 in
set_option maxRecDepth 100000 in
theorem i64_false_big (m : Nat) (h : Bs ≤ m) (w : World) :
  Calls Tryd.prog 44 #[zV false m] w fun e w' => e = .returned (.tuple #[.int .i64 0, .bool false]) ∧ Below w.heap.size w w' := by
 have hL0 : GL w w [] := GL.start w
 have HU := Lib.hid (fun w => u64_big m h w)
 clear h
 replace hL0 := (hL0.new rfl [.int .u64 ((lo m : Nat) : Int), .string (hs m), .bool false] 47)
 generalize hweq : (w.alloc (.cells #[.int .u64 ((lo m : Nat) : Int), .string (hs m), .bool false] 47)) = x1 at hL0
 go_enter Tryd.func44, Tryd.ntmps44
 have hA := hL0.fc
 simp only [fcG, cellsF, neK, and_true, ne_eq, Nat.zero_add, Nat.reduceAdd] at hA
 go_wp2_with fail
 clear hA
 with_reducible refine Calls.mono (HU.out _) ?_
 rintro e x2 ⟨rfl, hb⟩
 replace hL0 := hL0.call hb
 clear hb hweq
 have hA := hL0.fc
 simp only [fcG, cellsF, neK, and_true, ne_eq, Nat.zero_add, Nat.reduceAdd] at hA
 go_wp2_with fail
 exact bodyPost_ret (v := .tuple #[.int .i64 0, .bool false]) (by simp [results, Tryd.results44, go_sem, hA]) rfl ⟨rfl, hL0.bl⟩
set_option maxHeartbeats 4000000 in
set_option maxRecDepth 100000 in
theorem i64_false_out (m : Nat) (h : m < Bs) (h1 : (9223372036854775807 : Int) < (m : Int)) (w : World) :
  Calls Tryd.prog 44 #[zV false m] w fun e w' => e = .returned (.tuple #[.int .i64 0, .bool false]) ∧ Below w.heap.size w w' := by
 have hL0 : GL w w [] := GL.start w
 have HU := Lib.hid (fun w => u64_small m h w)
 have k1 : decide ((m : Int) ≤ 9223372036854775807) = false := decide_eq_false (by omega)
 clear h h1
 replace hL0 := (hL0.new rfl [.int .u64 ((lo m : Nat) : Int), .string (hs m), .bool false] 47)
 generalize hweq : (w.alloc (.cells #[.int .u64 ((lo m : Nat) : Int), .string (hs m), .bool false] 47)) = x1 at hL0
 go_enter Tryd.func44, Tryd.ntmps44
 have hA := hL0.fc
 simp only [fcG, cellsF, neK, and_true, ne_eq, Nat.zero_add, Nat.reduceAdd] at hA
 go_wp2_with fail
 clear hA
 with_reducible refine Calls.mono (HU.out _) ?_
 rintro e x2 ⟨rfl, hb⟩
 replace hL0 := hL0.call hb
 clear hb hweq
 have hA := hL0.fc
 simp only [fcG, cellsF, neK, and_true, ne_eq, Nat.zero_add, Nat.reduceAdd] at hA
 go_wp2_with fail
 exact bodyPost_ret (v := .tuple #[.int .i64 0, .bool false]) (by simp [results, Tryd.results44, go_sem, hA]) rfl ⟨rfl, hL0.bl⟩
set_option maxHeartbeats 4000000 in
set_option maxRecDepth 100000 in
theorem i64_false_in (m : Nat) (h : m < Bs) (h1 : (m : Int) ≤ 9223372036854775807) (w : World) :
  Calls Tryd.prog 44 #[zV false m] w fun e w' => e = .returned (.tuple #[.int .i64 (m : Int), .bool true]) ∧ Below w.heap.size w w' := by
 have hL0 : GL w w [] := GL.start w
 have HU := Lib.hid (fun w => u64_small m h w)
 have k1 : decide ((m : Int) ≤ 9223372036854775807) = true := decide_eq_true h1
 have kw : IntKind.i64.wrap (m : Int) = (m : Int) := IntWalk.i64_in _ (by omega)
 clear h h1
 replace hL0 := (hL0.new rfl [.int .u64 ((lo m : Nat) : Int), .string (hs m), .bool false] 47)
 generalize hweq : (w.alloc (.cells #[.int .u64 ((lo m : Nat) : Int), .string (hs m), .bool false] 47)) = x1 at hL0
 go_enter Tryd.func44, Tryd.ntmps44
 have hA := hL0.fc
 simp only [fcG, cellsF, neK, and_true, ne_eq, Nat.zero_add, Nat.reduceAdd] at hA
 go_wp2_with fail
 clear hA
 with_reducible refine Calls.mono (HU.out _) ?_
 rintro e x2 ⟨rfl, hb⟩
 replace hL0 := hL0.call hb
 clear hb hweq
 have hA := hL0.fc
 simp only [fcG, cellsF, neK, and_true, ne_eq, Nat.zero_add, Nat.reduceAdd] at hA
 go_wp2_with fail
 exact bodyPost_ret (v := .tuple #[.int .i64 (m : Int), .bool true]) (by simp [results, Tryd.results44, go_sem, hA]) rfl ⟨rfl, hL0.bl⟩
set_option maxHeartbeats 4000000 in
set_option maxRecDepth 100000 in
theorem i64_true_in (m : Nat) (h : m < Bs) (h1 : (m : Int) ≤ 9223372036854775808) (h2 : m ≠ 0) (w : World) :
  Calls Tryd.prog 44 #[zV true m] w fun e w' => e = .returned (.tuple #[.int .i64 (-(m : Int)), .bool true]) ∧ Below w.heap.size w w' := by
 have hL0 : GL w w [] := GL.start w
 have HU := Lib.hid (fun w => u64_small m h w)
 have k1 : decide ((m : Int) ≤ 9223372036854775808) = true := decide_eq_true h1
 obtain ⟨q, hq⟩ : ∃ q : Nat, (q : Int) = 18446744073709551616 - m := ⟨(18446744073709551616 - (m : Int)).toNat, by omega⟩
 have kw : IntKind.u64.wrap (-(m : Int)) = (q : Int) := by rw [IntKind.wrap_u64]; omega
 have kw2 : IntKind.i64.wrap (q : Int) = -(m : Int) := by rw [IntKind.wrap_i64]; omega
 clear hq
 clear h h1 h2
 replace hL0 := (hL0.new rfl [.int .u64 ((lo m : Nat) : Int), .string (hs m), .bool true] 47)
 generalize hweq : (w.alloc (.cells #[.int .u64 ((lo m : Nat) : Int), .string (hs m), .bool true] 47)) = x1 at hL0
 go_enter Tryd.func44, Tryd.ntmps44
 have hA := hL0.fc
 simp only [fcG, cellsF, neK, and_true, ne_eq, Nat.zero_add, Nat.reduceAdd] at hA
 go_wp2_with fail
 clear hA
 with_reducible refine Calls.mono (HU.out _) ?_
 rintro e x2 ⟨rfl, hb⟩
 replace hL0 := hL0.call hb
 clear hb hweq
 have hA := hL0.fc
 simp only [fcG, cellsF, neK, and_true, ne_eq, Nat.zero_add, Nat.reduceAdd] at hA
 go_wp2_with fail
 exact bodyPost_ret (v := .tuple #[.int .i64 (-(m : Int)), .bool true]) (by simp [results, Tryd.results44, go_sem, hA]) rfl ⟨rfl, hL0.bl⟩
end Go.Proofs.YtfmakoiiibacjaaDoor
namespace Go.Proofs.YtfmakoiiibacjaaDoor
open Go.RowKit
attribute [local irreducible] lo hs
def zl (z : Int) : Nat := lo z.natAbs
def zh (z : Int) : ByteArray := hs z.natAbs
def zs (z : Int) : Bool := decide (z < 0)
/-- An integer. -/
abbrev intV (z : Int) : Value := .agg #[.int .u64 ((zl z : Nat) : Int), .string (zh z), .bool (zs z)]
theorem intV_zV (z : Int) : intV z = zV (decide (z < 0)) z.natAbs := rfl
theorem res_f {z : Int} {k : Nat} (h : z = (k : Int)) : intV z = zV false k := by subst h; rw [intV_zV, decide_eq_false (by omega), Int.natAbs_natCast]
theorem res_m {z : Int} {k : Nat} (h : z = -(k : Int)) : intV z = zV (decide (k ≠ 0)) k := by
 subst h
 rw [intV_zV, Int.natAbs_neg, Int.natAbs_natCast]
 congr 1
 by_cases h0 : k = 0
 ·subst h0; rfl
 ·rw [decide_eq_true (by omega), decide_eq_true h0]
theorem res_t {z : Int} {k : Nat} (h : z = -(k : Int)) (h0 : k ≠ 0) : intV z = zV true k := by rw [res_m h, decide_eq_true h0]
theorem int_cases (z : Int) : (∃ m : Nat, z = (m : Int) ∧ intV z = zV false m) ∨ (∃ m : Nat, m ≠ 0 ∧ z = -(m : Int) ∧ intV z = zV true m) := by
 rcases Decidable.em (z < 0) with h | h
 ·exact .inr ⟨z.natAbs, by omega, by omega, res_t (by omega) (by omega)⟩
 ·exact .inl ⟨z.natAbs, by omega, res_f (by omega)⟩
/-- The words that an integer's absolute value takes. -/
abbrev dI (z : Int) : Nat := (digs z.natAbs).length
theorem dI_nat (n : Nat) : dI (n : Int) = (digs n).length := by unfold dI; rw [Int.natAbs_natCast]
theorem dI_neg (z : Int) : dI (-z) = dI z := by unfold dI; rw [Int.natAbs_neg]
theorem dI_add {x y : Int} {k : Nat} (hx : dI x ≤ k) (hy : dI y ≤ k) : dI (x + y) ≤ k + 1 :=
 Nat.le_trans (digs_mono (Int.natAbs_add_le x y)) (digs_add_le hx hy)
theorem dI_mul {x y : Int} {k m : Nat} (hx : dI x ≤ k) (hy : dI y ≤ m) : dI (x * y) ≤ k + m := by
 unfold dI; rw [Int.natAbs_mul]; exact digs_mul_le hx hy
theorem dI_mono {x y : Int} (h : x.natAbs ≤ y.natAbs) : dI x ≤ dI y := digs_mono h
theorem fromI (s : Bool) (n : Nat) (z : Int) (hz : z = if s then -(n : Int) else (n : Int)) (w : World) : Calls Tryd.prog 41 #[.bool s, natV n] w fun e w' => e = .returned (intV z) ∧ Below w.heap.size w w' := by
 cases s with
 | false => rw [res_f (z := z) (by simpa using hz)]; exact from_pos n w
 | true =>
  rw [res_m (z := z) (by simpa using hz)]
  have := from_any true n w
  rwa [Bool.true_and] at this
theorem ofI (z : Int) (h1 : -9223372036854775808 ≤ z) (h2 : z < 9223372036854775808) (w : World) : Calls Tryd.prog 35 #[.int .i64 z] w fun e w' => e = .returned (intV z) ∧ Below w.heap.size w w' := by
 rcases Decidable.em (z < 0) with h | h
 ·obtain ⟨m, hm⟩ : ∃ m : Nat, z = -(m : Int) := ⟨z.natAbs, by omega⟩
  rw [res_t hm (by omega)]; exact ofn_any z m hm (by omega) (by omega) w
 ·obtain ⟨m, rfl⟩ : ∃ m : Nat, z = (m : Int) := ⟨z.natAbs, by omega⟩
  rw [res_f rfl]; exact ofp_any m (by omega) w
theorem absI (z : Int) (w : World) : Calls Tryd.prog 51 #[intV z] w fun e w' => e = .returned (natV z.natAbs) ∧ Below w.heap.size w w' := abs_any _ _ w
def sgn (z : Int) : Int := if z < 0 then -1 else if z = 0 then 0 else 1
theorem signI (z : Int) (w : World) : Calls Tryd.prog 82 #[intV z] w fun e w' => e = .returned (.int .i64 (sgn z)) ∧ Below w.heap.size w w' := by
 rcases int_cases z with ⟨m, rfl, h⟩ | ⟨m, h0, rfl, h⟩ <;> rw [h]
 ·by_cases h0 : m = 0
  ·subst h0; exact sign_zero w
  ·rw [show sgn (m : Int) = 1 by unfold sgn; rw [if_neg (by omega), if_neg (by omega)]]; exact sign_pos m h0 w
 ·rw [show sgn (-(m : Int)) = -1 by unfold sgn; rw [if_pos (by omega)]]; exact sign_neg m w
theorem negI (z : Int) (w : World) : Calls Tryd.prog 27 #[intV z] w fun e w' => e = .returned (intV (-z)) ∧ Below w.heap.size w w' := by
 rcases int_cases z with ⟨m, rfl, h⟩ | ⟨m, h0, rfl, h⟩ <;> rw [h]
 ·rw [res_m (z := -(m : Int)) rfl]; exact neg_false m w
 ·rw [res_f (z := -(-(m : Int))) (k := m) (by omega)]; exact neg_true m w
theorem intV_zero : intV 0 = zV false 0 := res_f rfl
theorem div0I (x : Int) (w : World) : Calls Tryd.prog 43 #[intV x, intV 0] w fun e w' => e = .returned (.tuple #[intV 0, intV 0, .bool false]) ∧ Below w.heap.size w w' := by
 rcases int_cases x with ⟨m, rfl, ex⟩ | ⟨m, hm, rfl, ex⟩ <;> rw [ex, intV_zero]
 ·exact idiv0_false m w
 ·exact idiv0_true m w
theorem ediv_neg_pos {m n : Nat} (h0 : n ≠ 0) (hr : m % n ≠ 0) : -(m : Int) / (n : Int) = -((m / n + 1 : Nat) : Int) ∧ -(m : Int) % (n : Int) = ((n - m % n : Nat) : Int) := by
 have h1 := Nat.div_add_mod m n
 have h2 := Nat.mod_lt m (Nat.pos_of_ne_zero h0)
 refine (Int.ediv_emod_unique (by omega)).2 ⟨?_, by omega, by omega⟩
 have h3 : (m : Int) = (n : Int) * ((m / n : Nat) : Int) + ((m % n : Nat) : Int) := by
  have := congrArg (fun x : Nat => (x : Int)) h1
  simpa using this.symm
 have h4 : (n : Int) * -((m / n + 1 : Nat) : Int) = -((n : Int) * ((m / n : Nat) : Int)) - (n : Int) := by
  rw [Int.mul_neg, Int.natCast_add, Int.mul_add]; omega
 rw [h4]
 generalize (n : Int) * ((m / n : Nat) : Int) = X at *
 omega
theorem ediv_neg_zero {m n : Nat} (h0 : n ≠ 0) (hr : m % n = 0) : -(m : Int) / (n : Int) = -((m / n : Nat) : Int) ∧ -(m : Int) % (n : Int) = 0 := by
 have h1 := Nat.div_add_mod m n
 refine (Int.ediv_emod_unique (by omega)).2 ⟨?_, by omega, by omega⟩
 rw [hr, Nat.add_zero] at h1
 have h3 : (m : Int) = (n : Int) * ((m / n : Nat) : Int) := by
  have := congrArg (fun x : Nat => (x : Int)) h1
  simpa using this.symm
 rw [Int.mul_neg]
 omega
theorem divI (x y : Int) (h0 : y ≠ 0) (hx : dI x ≤ 1000000000) (hy : dI y ≤ 1000000000) (w : World) : Calls Tryd.prog 43 #[intV x, intV y] w fun e w' => e = .returned (.tuple #[intV (x / y), intV (x % y), .bool true]) ∧ Below w.heap.size w w' := by
 rcases int_cases x with ⟨m, rfl, ex⟩ | ⟨m, hm, rfl, ex⟩ <;> rcases int_cases y with ⟨n, rfl, ey⟩ | ⟨n, hn, rfl, ey⟩ <;> rw [ex, ey] <;> simp only [dI_neg, dI_nat] at hx hy
 ·rw [← Int.natCast_ediv, ← Int.natCast_emod, res_f (k := m / n) rfl, res_f (k := m % n) rfl]; exact idiv_false_false m n (by omega) hx hy w
 ·rw [Int.ediv_neg, Int.emod_neg, ← Int.natCast_ediv, ← Int.natCast_emod, res_m (k := m / n) rfl, res_f (k := m % n) rfl]; exact idiv_false_true m n hn hx hy w
 ·by_cases hr : m % n = 0
  ·obtain ⟨e1, e2⟩ := ediv_neg_zero (m := m) (n := n) (by omega) hr
   rw [e1, e2, res_m (k := m / n) rfl, intV_zero]; exact idiv_true_false_1 m n (by omega) hr hx hy w
  ·obtain ⟨e1, e2⟩ := ediv_neg_pos (m := m) (n := n) (by omega) hr
   rw [e1, e2, res_m (k := m / n + 1) rfl, res_f (k := n - m % n) rfl]; exact idiv_true_false_2 m n (by omega) hr hx hy w
 ·rw [Int.ediv_neg, Int.emod_neg]
  by_cases hr : m % n = 0
  ·obtain ⟨e1, e2⟩ := ediv_neg_zero (m := m) (n := n) hn hr
   rw [e1, e2, res_f (k := m / n) (Int.neg_neg _), intV_zero]; exact idiv_true_true_1 m n hn hr hx hy w
  ·obtain ⟨e1, e2⟩ := ediv_neg_pos (m := m) (n := n) hn hr
   rw [e1, e2, res_f (k := m / n + 1) (Int.neg_neg _), res_f (k := n - m % n) rfl]; exact idiv_true_true_2 m n hn hr hx hy w
def in64 (z : Int) : Bool := decide (-9223372036854775808 ≤ z ∧ z ≤ 9223372036854775807)
theorem i64I (z : Int) (w : World) : Calls Tryd.prog 44 #[intV z] w fun e w' => e = .returned (.tuple #[.int .i64 (if in64 z then z else 0), .bool (in64 z)]) ∧ Below w.heap.size w w' := by
 have hB : (Bs : Int) = 18446744073709551616 := rfl
 rcases int_cases z with ⟨m, rfl, h⟩ | ⟨m, h0, rfl, h⟩ <;> rw [h]
 ·by_cases h1 : (m : Int) ≤ 9223372036854775807
  ·rw [show in64 (m : Int) = true from decide_eq_true ⟨by omega, h1⟩, if_pos rfl]
   exact i64_false_in m (by omega) h1 w
  ·rw [show in64 (m : Int) = false from decide_eq_false (fun h => h1 h.2), if_neg Bool.false_ne_true]
   by_cases h2 : m < Bs
   ·exact i64_false_out m h2 (by omega) w
   ·exact i64_false_big m (by omega) w
 ·by_cases h1 : (m : Int) ≤ 9223372036854775808
  ·rw [show in64 (-(m : Int)) = true from decide_eq_true ⟨by omega, by omega⟩, if_pos rfl]
   exact i64_true_in m (by omega) h1 h0 w
  ·rw [show in64 (-(m : Int)) = false from decide_eq_false (fun h => h1 (by omega)), if_neg Bool.false_ne_true]
   by_cases h2 : m < Bs
   ·exact i64_true_out m h2 (by omega) w
   ·exact i64_true_big m (by omega) w
end Go.Proofs.YtfmakoiiibacjaaDoor
namespace Go.Proofs.YtfmakoiiibacjaaDoor
open Go.RowKit
attribute [local irreducible] lo hs
/-- The document's recursion. -/
def xgcd (a b : Int) : Int × Int × Int :=
 if h : b = 0 then ((a.natAbs : Int), sgn a, 0)
 else let r := xgcd b (a % b); (r.1, r.2.2, r.2.1 - a / b * r.2.2)
termination_by b.natAbs
decreasing_by
 have h1 := Int.emod_lt a h
 have h2 := Int.emod_nonneg a h
 omega
theorem xgcd_zero (a : Int) : xgcd a 0 = ((a.natAbs : Int), sgn a, 0) := by rw [xgcd]; simp
theorem xgcd_step {a b : Int} (h : b ≠ 0) : xgcd a b = ((xgcd b (a % b)).1, (xgcd b (a % b)).2.2, (xgcd b (a % b)).2.1 - a / b * (xgcd b (a % b)).2.2) := by rw [xgcd, dif_neg h]
theorem sgn_mul (a : Int) : sgn a * a = (a.natAbs : Int) := by unfold sgn; split <;> (try split) <;> simp <;> omega
/-- What the rounds keep. -/
structure GI (a b G X N Y : Int) : Prop where
 g : (xgcd a b).1 = (xgcd G N).1
 x : (xgcd a b).2.1 = (xgcd G N).2.1 * X + (xgcd G N).2.2 * Y
 s : (G = a ∧ X = 1 ∧ N = b ∧ Y = 0) ∨ (G = b ∧ X = 0 ∧ Y = 1 ∧ 0 ≤ N ∧ N < b.natAbs) ∨
  (0 < G ∧ 0 ≤ N ∧ N < G ∧ X.natAbs ≤ 3 * b.natAbs ∧ X.natAbs * N.natAbs + Y.natAbs * G.natAbs ≤ 3 * b.natAbs ∧ G ≤ b.natAbs)
theorem GI.start (a b : Int) : GI a b a 1 b 0 := ⟨rfl, by omega, .inl ⟨rfl, rfl, rfl, rfl⟩⟩
theorem GI.next {a b G X N Y : Int} (h : GI a b G X N Y) (hN : N ≠ 0) : GI a b N Y (G % N) (X - G / N * Y) := by
 have e := xgcd_step (a := G) hN
 have n1 := Int.emod_lt G hN
 have n2 := Int.emod_nonneg G hN
 have n3 := Int.mul_ediv_add_emod G N
 refine ⟨by rw [h.g, e], ?_, ?_⟩
 ·rw [h.x, e]
  show (xgcd N (G % N)).2.2 * X + ((xgcd N (G % N)).2.1 - G / N * (xgcd N (G % N)).2.2) * Y = _
  generalize (xgcd N (G % N)).2.1 = p
  generalize (xgcd N (G % N)).2.2 = q
  generalize G / N = c
  grind
 ·rcases h.s with ⟨rfl, rfl, rfl, rfl⟩ | ⟨rfl, rfl, rfl, h1, h2⟩ | ⟨h1, h2, h3, h4, h5, h6⟩
  ·exact .inr (.inl ⟨rfl, rfl, by omega, n2, n1⟩)
  ·refine .inr (.inr ⟨by omega, n2, by omega, by omega, ?_, by omega⟩)
   generalize hr : G % N = r at *
   generalize hq : G / N = q at *
   have e1 : (0 - q * 1).natAbs * N.natAbs = (N * q).natAbs := by rw [Int.natAbs_mul, Nat.mul_comm]; congr 1; omega
   have e2 : N * q = G - r := by omega
   rw [e1, e2]
   rw [show (1 : Int).natAbs = 1 from rfl, Nat.one_mul]
   omega
  ·have y1 : Y.natAbs ≤ 3 * b.natAbs := by
    have : Y.natAbs * 1 ≤ Y.natAbs * G.natAbs := Nat.mul_le_mul_left _ (by omega)
    omega
   refine .inr (.inr ⟨by omega, n2, by omega, y1, ?_, by omega⟩)
   have q0 : 0 ≤ G / N := Int.ediv_nonneg (by omega) (by omega)
   generalize hr : G % N = r at *
   generalize hq : G / N = q at *
   refine Nat.le_trans ?_ h5
   have t1 : (X - q * Y).natAbs ≤ X.natAbs + q.natAbs * Y.natAbs := by
    have := Int.natAbs_sub_le X (q * Y)
    rwa [Int.natAbs_mul] at this
   have t2 := Nat.mul_le_mul_right N.natAbs t1
   have t3 : G.natAbs = N.natAbs * q.natAbs + r.natAbs := by
    have : (N * q).natAbs = N.natAbs * q.natAbs := Int.natAbs_mul _ _
    have h0 : 0 ≤ N * q := Int.mul_nonneg (by omega) q0
    omega
   rw [t3, Nat.mul_add]
   rw [Nat.add_mul] at t2
   have t4 : Y.natAbs * (N.natAbs * q.natAbs) = q.natAbs * Y.natAbs * N.natAbs := by
    rw [Nat.mul_comm q.natAbs, Nat.mul_assoc, Nat.mul_comm q.natAbs]
   omega
theorem GI.bounds {a b G X N Y : Int} (h : GI a b G X N Y) {k : Nat} (ha : dI a ≤ k) (hb : dI b ≤ k) : dI G ≤ k ∧ dI N ≤ k ∧ dI X ≤ k + 1 ∧ (N ≠ 0 → dI Y ≤ k + 1) := by
 have h3 : ∀ z : Int, z.natAbs ≤ 3 * b.natAbs + 1 → dI z ≤ k + 1 := fun z hz => by
  have := digs_length_iff.1 hb
  refine digs_length_iff.2 ?_
  rw [Nat.pow_succ]
  have hB : 16 ≤ Bs := by unfold Bs; omega
  have hp : 0 < Bs ^ k := Nat.pow_pos (by omega)
  have h5 : Bs ^ k * 16 ≤ Bs ^ k * Bs := Nat.mul_le_mul_left _ hB
  generalize Bs ^ k = P at *
  generalize P * Bs = R at *
  omega
 rcases h.s with ⟨rfl, rfl, rfl, rfl⟩ | ⟨rfl, rfl, rfl, h1, h2⟩ | ⟨h1, h2, h3', h4, h5, h6⟩
 ·exact ⟨ha, hb, h3 1 (by omega), fun _ => h3 0 (by omega)⟩
 ·exact ⟨hb, Nat.le_trans (dI_mono (by omega)) hb, h3 0 (by omega), fun _ => h3 1 (by omega)⟩
 ·refine ⟨Nat.le_trans (dI_mono (by omega)) hb, Nat.le_trans (dI_mono (by omega)) hb, h3 X (by omega), fun _ => h3 Y ?_⟩
  have : Y.natAbs * 1 ≤ Y.natAbs * G.natAbs := Nat.mul_le_mul_left _ (by omega)
  omega
theorem GI.last {a b G X Y : Int} (h : GI a b G X 0 Y) : (xgcd a b).1 = sgn G * G ∧ (xgcd a b).2.1 = sgn G * X := by
 refine ⟨by rw [h.g, xgcd_zero, sgn_mul], ?_⟩
 rw [h.x, xgcd_zero]
 show sgn G * X + 0 * Y = _
 omega
end Go.Proofs.YtfmakoiiibacjaaDoor
namespace Go.Proofs.YtfmakoiiibacjaaDoor
open Go.RowKit
attribute [local irreducible] lo hs sm s64 c64 d64 b64 mh ml pd pc qd qc val hiB str cmpI srD lz nb zl zh zs
theorem new_int (w : World) : (Instr.alloc 47 true (.tuple #[])).run Tryd.prog w = .ok (.pointer (some ⟨w.heap.size, 0, none⟩)) (w.alloc (.cells #[.int .u64 0, .string ⟨#[]⟩, .bool false] 47)) := by
 simp [go_sem, Instr.alloc]
theorem hd_put3 {w : World} {k : Nat} {x0 x1 x2 : Value} (h : Hd w k [x0, x1, x2]) (v0 v1 v2 : Value) : Hd (((w.setCell ⟨k, 0, none⟩ v0).setCell ⟨k, 1, none⟩ v1).setCell ⟨k, 2, none⟩ v2) k [v0, v1, v2] :=
 setAll_hd [v0, v1, v2] 0 w k [] [x0, x1, x2] rfl rfl h
theorem put_int (i0 i : Int) (s0 s : ByteArray) (b0 b : Bool) (w : World) (k : Nat) (h : Hd w k [.int .u64 i0, .string s0, .bool b0]) :
  ∃ w', (Instr.storeAt 47 (.pointer (some ⟨k, 0, none⟩)) (.agg #[.int .u64 i, .string s, .bool b])).run Tryd.prog w = .ok () w' ∧ Hd w' k [.int .u64 i, .string s, .bool b] ∧ Upd k w w' := by
 have h0 : w.cell? ⟨k, 0, none⟩ = some (.int .u64 i0) := h.cell 0 (by simp)
 have h1 : w.cell? ⟨k, 1, none⟩ = some (.string s0) := h.cell 1 (by simp)
 have h2 : w.cell? ⟨k, 2, none⟩ = some (.bool b0) := h.cell 2 (by simp)
 have hf := h.frz
 refine ⟨_, ?_, hd_put3 h (.int .u64 i) (.string s) (.bool b), (((Upd.refl k w).setCell 0 _).setCell 1 _).setCell 2 _⟩
 simp [go_sem, Instr.storeAt, Instr.sureAddr, h0, h1, h2, hf]
theorem z0 : zl 0 = 0 ∧ zh 0 = ⟨#[]⟩ ∧ zs 0 = false := ⟨by unfold zl; rw [show (0 : Int).natAbs = 0 from rfl, lo_small Bs_pos], by unfold zh; rw [show (0 : Int).natAbs = 0 from rfl, hs_small Bs_pos], by unfold zs; rfl⟩
end Go.Proofs.YtfmakoiiibacjaaDoor
namespace Go.Proofs.YtfmakoiiibacjaaDoor
open Go.RowKit
theorem canc {z : Int} {d : Nat} (hd : d ≠ 0) : (mkRat z d).num = z.tdiv (Nat.gcd z.natAbs d : Nat) ∧ (mkRat z d).den = d / Nat.gcd z.natAbs d := by
 have hg : ((Nat.gcd z.natAbs d : Nat) : Int) ∣ z := by rw [← Int.dvd_natAbs, Int.ofNat_dvd]; exact Nat.gcd_dvd_left _ _
 rw [Rat.num_mkRat, Rat.den_mkRat, if_neg hd, if_neg hd, Nat.gcd_comm d]
 exact ⟨(Int.tdiv_eq_ediv_of_dvd hg).symm, rfl⟩
theorem rinv_parts {a : Rat} (h : a ≠ 0) : (a⁻¹).num = (if a.num < 0 then -(a.den : Int) else (a.den : Int)) ∧ (a⁻¹).den = a.num.natAbs := by
 have h0 : a.num ≠ 0 := fun e => h (Rat.num_eq_zero.1 e)
 rw [Rat.num_inv, Rat.den_inv, if_neg h0]
 refine ⟨?_, rfl⟩
 split
 ·rename_i h1; rw [Int.sign_eq_neg_one_of_neg h1]; omega
 ·rw [Int.sign_eq_one_of_pos (by omega)]; omega
theorem num_le_add (a b : Rat) : (a + b).num.natAbs ≤ (a.num * b.den + b.num * a.den).natAbs := by
 rw [Rat.num_add]; exact Int.natAbs_ediv_le_natAbs _ _
theorem den_le_add (a b : Rat) : (a + b).den ≤ a.den * b.den := by
 rw [Rat.den_add]; exact Nat.div_le_self _ _
theorem num_le_mul (a b : Rat) : (a * b).num.natAbs ≤ (a.num * b.num).natAbs := by
 rw [Rat.num_mul]; exact Int.natAbs_ediv_le_natAbs _ _
theorem den_le_mul (a b : Rat) : (a * b).den ≤ a.den * b.den := by
 rw [Rat.den_mul]; exact Nat.div_le_self _ _
/-- The denominator as it is kept: 0 stands for 1. -/
def fe (q : Rat) : Nat := if q.den = 1 then 0 else q.den
/-- A fraction: its numerator, and its denominator as it is kept. -/
abbrev frV (n : Int) (e : Nat) : Value := .agg #[.int .u64 ((zl n : Nat) : Int), .string (zh n), .bool (zs n), .int .u64 ((lo e : Nat) : Int), .string (hs e)]
abbrev fracV (q : Rat) : Value := frV q.num (fe q)
/-- What == sees of two naturals that differ. -/
theorem ne_nat {a b : Nat} (h : a ≠ b) : (((lo a : Nat) : Int) == ((lo b : Nat) : Int)) = false ∨ ((((lo a : Nat) : Int) == ((lo b : Nat) : Int)) = true ∧ ((hs a).toList == (hs b).toList) = false) := by
 by_cases h1 : lo a = lo b
 ·right
  refine ⟨by rw [h1]; exact beq_self_eq_true _, beq_eq_false_iff_ne.2 fun h3 => h ?_⟩
  rw [hs_toList, hs_toList] at h3
  have h4 := hiB_inj h3
  have h5 := divmod a
  have h6 := divmod b
  rw [h4, h1, ← h6] at h5
  exact h5
 ·left
  exact beq_eq_false_iff_ne.2 fun h2 => h1 (by omega)
/-- At most k words in the numerator and in the denominator. -/
def Sz (q : Rat) (k : Nat) : Prop := dI q.num ≤ k ∧ (digs q.den).length ≤ k
theorem Sz.n {q : Rat} {k : Nat} (h : Sz q k) : dI q.num ≤ k := h.1
theorem Sz.d {q : Rat} {k : Nat} (h : Sz q k) : (digs q.den).length ≤ k := h.2
theorem Sz.mono {q : Rat} {k m : Nat} (h : Sz q k) (hm : k ≤ m) : Sz q m := ⟨Nat.le_trans h.1 hm, Nat.le_trans h.2 hm⟩
theorem Sz.neg {q : Rat} {k : Nat} (h : Sz q k) : Sz (-q) k := ⟨by rw [Rat.neg_num, dI_neg]; exact h.1, h.2⟩
theorem Sz.add {p q : Rat} {k m : Nat} (hp : Sz p k) (hq : Sz q m) : Sz (p + q) (k + m + 1) := by
 constructor
 ·refine Nat.le_trans (dI_mono (num_le_add p q)) (dI_add (k := k + m) (dI_mul hp.1 (by rw [dI_nat]; exact hq.2)) ?_)
  rw [Nat.add_comm k m]
  exact dI_mul hq.1 (by rw [dI_nat]; exact hp.2)
 ·exact Nat.le_trans (digs_mono (den_le_add p q)) (Nat.le_trans (digs_mul_le hp.2 hq.2) (by omega))
theorem Sz.sub {p q : Rat} {k m : Nat} (hp : Sz p k) (hq : Sz q m) : Sz (p - q) (k + m + 1) := by
 rw [Rat.sub_eq_add_neg]; exact hp.add hq.neg
theorem Sz.mul {p q : Rat} {k m : Nat} (hp : Sz p k) (hq : Sz q m) : Sz (p * q) (k + m) :=
 ⟨Nat.le_trans (dI_mono (num_le_mul p q)) (dI_mul hp.1 hq.1), Nat.le_trans (digs_mono (den_le_mul p q)) (digs_mul_le hp.2 hq.2)⟩
theorem Sz.inv {q : Rat} {k : Nat} (h : Sz q k) (h0 : q ≠ 0) : Sz q⁻¹ k := by
 obtain ⟨h1, h2⟩ := rinv_parts h0
 refine ⟨?_, by rw [h2]; exact h.1⟩
 rw [h1]
 split
 ·rw [dI_neg, dI_nat]; exact h.2
 ·rw [dI_nat]; exact h.2
theorem Sz.div {p q : Rat} {k m : Nat} (hp : Sz p k) (hq : Sz q m) (h0 : q ≠ 0) : Sz (p / q) (k + m) := by
 rw [Rat.div_def]; exact hp.mul (hq.inv h0)
theorem Sz.int {z : Int} {k : Nat} (h : dI z ≤ k) (hk : 0 < k) : Sz (z : Rat) k :=
 ⟨h, Nat.le_trans (digs_length_iff (k := 1).2 (by show (z : Rat).den < _; rw [Rat.den_intCast, Nat.pow_one]; exact Bs_gt)) hk⟩
theorem Sz.mk {z : Int} {d k : Nat} (hz : dI z ≤ k) (hd : (digs d).length ≤ k) (h0 : d ≠ 0) : Sz (mkRat z d) k := by
 obtain ⟨h1, h2⟩ := canc (z := z) h0
 refine ⟨?_, ?_⟩
 ·rw [h1]
  refine Nat.le_trans (dI_mono ?_) hz
  rw [Int.natAbs_tdiv]
  exact Nat.div_le_self _ _
 ·rw [h2]; exact Nat.le_trans (digs_mono (Nat.div_le_self _ _)) hd
theorem new_natc (w : World) : (Instr.alloc 45 true (.tuple #[])).run Tryd.prog w = .ok (.pointer (some ⟨w.heap.size, 0, none⟩)) (w.alloc (.cells #[.int .u64 0, .string ⟨#[]⟩] 45)) := by
 simp [go_sem, Instr.alloc]
theorem put_natc (i0 i : Int) (s0 s : ByteArray) (w : World) (k : Nat) (h : Hd w k [.int .u64 i0, .string s0]) :
  ∃ w', (Instr.storeAt 45 (.pointer (some ⟨k, 0, none⟩)) (.agg #[.int .u64 i, .string s])).run Tryd.prog w = .ok () w' ∧ Hd w' k [.int .u64 i, .string s] ∧ Upd k w w' := by
 have h0 : w.cell? ⟨k, 0, none⟩ = some (.int .u64 i0) := h.cell 0 (by simp)
 have h1 : w.cell? ⟨k, 1, none⟩ = some (.string s0) := h.cell 1 (by simp)
 have hf := h.frz
 refine ⟨_, ?_, setAll_hd [.int .u64 i, .string s] 0 w k [] [.int .u64 i0, .string s0] rfl rfl h, (((Upd.refl k w).setCell 0 _).setCell 1 _)⟩
 simp [go_sem, Instr.storeAt, Instr.sureAddr, h0, h1, hf, setAll]
/-- A property of worlds that stays while memory is only made. -/
def Keeps (K : World → Prop) : Prop := ∀ w w', Below w.heap.size w w' → K w → K w'
theorem Keeps.at {K : World → Prop} (h : Keeps K) {w w' : World} (hb : Below w.heap.size w w') (hk : K w) : K w' := h _ _ hb hk
theorem Keeps.and {K L : World → Prop} (h : Keeps K) (g : Keeps L) : Keeps (fun w => K w ∧ L w) := fun _ _ hb ⟨a, b⟩ => ⟨h _ _ hb a, g _ _ hb b⟩
end Go.Proofs.YtfmakoiiibacjaaDoor
namespace Go.Proofs.YtfmakoiiibacjaaDoor
open Go.RowKit
attribute [local irreducible] lo hs sm s64 c64 d64 b64 mh ml pd pc qd qc val hiB str cmpI srD lz nb zl zh zs
theorem cls_box {α : Type} {F : α → World} {z : World} (h1 : ∀ x, Below z.heap.size z (F x)) {w : World} {L : List (Nat × List Value)} (hL : GL w z L) (k : Nat) (c : List Value) (hm : (k, c) ∈ L) : cellsC F k 0 c :=
 cellsC_of c 0 fun x => cells_of c 0 [] rfl ((hL.get k c hm).below (h1 x))
end Go.Proofs.YtfmakoiiibacjaaDoor
namespace Go.Proofs.YtfmakoiiibacjaaDoor
open Go.RowKit
attribute [local irreducible] lo hs sm s64 c64 d64 b64 mh ml pd pc qd qc val hiB str cmpI srD lz nb zl zh zs
end Go.Proofs.YtfmakoiiibacjaaDoor
namespace Go.Proofs.YtfmakoiiibacjaaDoor
open Go.RowKit
attribute [local irreducible] lo hs zl zh zs
theorem Ws.len {w : World} {a : Option Addr} {n c : Nat} {l : List Nat} (h : Ws w (.slice a n c) l) : l.length = n := by
 rcases h with ⟨ao, c1, h1, h2⟩ | ⟨a1, c1, h1, h2⟩
 ·simp only [Value.slice.injEq] at h1; rw [h2, h1.2.1]; rfl
 ·simp only [Value.slice.injEq] at h1; rw [h1.2.1]
end Go.Proofs.YtfmakoiiibacjaaDoor
namespace Go.Proofs.YtfmakoiiibacjaaDoor
open Go.RowKit
attribute [local irreducible] lo hs sm s64 c64 d64 b64 mh ml pd pc qd qc val hiB str cmpI srD lz nb zl zh zs
set_option maxHeartbeats 4000000 in
set_option maxRecDepth 100000 in
theorem whole_yes (n : Int) (w : World) :
  Calls Tryd.prog 77 #[frV n 0] w fun xe w' => xe = .returned (.bool true) ∧ Below w.heap.size w w' := by
 have hL0 : GL w w [] := GL.start w
 have e0 : (((lo 0 : Nat) : Int) == 0) = true := by rw [lo_small Bs_pos]; rfl
 have e1 : ((hs 0).toList == []) = true := by rw [hs_small Bs_pos, ByteArray.toList_eq]; rfl
 replace hL0 := (hL0.new rfl [.int .u64 ((zl n : Nat) : Int), .string (zh n), .bool (zs n), .int .u64 ((lo 0 : Nat) : Int), .string (hs 0)] 53)
 generalize hweq : (w.alloc (.cells #[.int .u64 ((zl n : Nat) : Int), .string (zh n), .bool (zs n), .int .u64 ((lo 0 : Nat) : Int), .string (hs 0)] 53)) = x1 at hL0
 go_enter Tryd.func77, Tryd.ntmps77
 have hN0 := cells_of _ 0 [] rfl (hL0.get _ _ List.mem_cons_self)
 simp only [cellsF, and_true, Nat.zero_add, Nat.reduceAdd] at hN0
 go_wp2_with fail
 exact bodyPost_ret (v := .bool true) (by simp [results, Tryd.results77, go_sem, hN0]) rfl ⟨rfl, hL0.bl⟩
set_option maxHeartbeats 4000000 in
set_option maxRecDepth 100000 in
theorem whole_no (n : Int) (e : Nat) (he : e ≠ 0) (w : World) :
  Calls Tryd.prog 77 #[frV n e] w fun xe w' => xe = .returned (.bool false) ∧ Below w.heap.size w w' := by
 have hL0 : GL w w [] := GL.start w
 have hz := ne0 he
 clear he
 rcases hz with e0 | ⟨e0, e1⟩
 all_goals (
  replace hL0 := (hL0.new rfl [.int .u64 ((zl n : Nat) : Int), .string (zh n), .bool (zs n), .int .u64 ((lo e : Nat) : Int), .string (hs e)] 53)
  generalize hweq : (w.alloc (.cells #[.int .u64 ((zl n : Nat) : Int), .string (zh n), .bool (zs n), .int .u64 ((lo e : Nat) : Int), .string (hs e)] 53)) = x1 at hL0
  go_enter Tryd.func77, Tryd.ntmps77
  have hN0 := cells_of _ 0 [] rfl (hL0.get _ _ List.mem_cons_self)
  simp only [cellsF, and_true, Nat.zero_add, Nat.reduceAdd] at hN0
  go_wp2_with fail
  exact bodyPost_ret (v := .bool false) (by simp [results, Tryd.results77, go_sem, hN0]) rfl ⟨rfl, hL0.bl⟩)
set_option maxHeartbeats 4000000 in
set_option maxRecDepth 100000 in
theorem den_one_w (n : Int) (HW : RT 77 #[frV n 0] (.bool true)) (HO : RT 53 #[.int .u64 1] (natV 1)) (w : World) :
  Calls Tryd.prog 54 #[frV n 0] w fun xe w' => xe = .returned (natV 1) ∧ Below w.heap.size w w' := by
 have hL0 : GL w w [] := GL.start w
 replace HW := Lib.hid HW
 replace HO := Lib.hid HO
 replace hL0 := ((hL0.new rfl [.int .u64 ((zl n : Nat) : Int), .string (zh n), .bool (zs n), .int .u64 ((lo 0 : Nat) : Int), .string (hs 0)] 53).new (K := w.heap.size + 1) (szA _ _) [.int .u64 0, .string ⟨#[]⟩] 45)
 generalize hweq : ((w.alloc (.cells #[.int .u64 ((zl n : Nat) : Int), .string (zh n), .bool (zs n), .int .u64 ((lo 0 : Nat) : Int), .string (hs 0)] 53)).alloc (.cells #[.int .u64 0, .string ⟨#[]⟩] 45)) = x1 at hL0
 go_enter Tryd.func54, Tryd.ntmps54
 have hN0 := cells_of _ 0 [] rfl (hL0.get _ _ (List.mem_cons_of_mem _ List.mem_cons_self))
 simp only [cellsF, and_true, Nat.zero_add, Nat.reduceAdd] at hN0
 go_wp2_with fail
 clear hN0
 with_reducible refine Calls.mono (HW.out _) ?_
 rintro e x2 ⟨rfl, hb⟩
 replace hL0 := hL0.call hb
 clear hb hweq
 go_wp2_with fail
 with_reducible refine Calls.mono (HO.out _) ?_
 rintro e x3 ⟨rfl, hb⟩
 replace hL0 := hL0.call hb
 clear hb
 have hA := hL0.fc
 simp only [fcG, cellsF, neK, and_true, ne_eq, Nat.zero_add, Nat.reduceAdd] at hA
 have hP := hL0.put 0 (w.heap.size + 1) _ rfl [.int .u64 ((lo 1 : Nat) : Int), .string (hs 1)] rfl
 simp only [setAll, List.set_cons_zero, List.set_cons_succ] at hP
 generalize hput1 : ((x3.setCell ⟨w.heap.size + 1, 0, none⟩ (.int .u64 ((lo 1 : Nat) : Int))).setCell ⟨w.heap.size + 1, 1, none⟩ (.string (hs 1))) = x4 at hP
 have hB1 := hP.fc
 simp only [fcG, cellsF, neK, and_true, ne_eq, Nat.zero_add, Nat.reduceAdd] at hB1
 replace hL0 := hP
 go_wp2_with fail
 exact bodyPost_ret (v := natV 1) (by simp [results, Tryd.results54, go_sem, hB1]) rfl ⟨rfl, hL0.bl⟩
set_option maxHeartbeats 4000000 in
set_option maxRecDepth 100000 in
theorem den_part_w (n : Int) (e : Nat) (HW : RT 77 #[frV n e] (.bool false)) (w : World) :
  Calls Tryd.prog 54 #[frV n e] w fun xe w' => xe = .returned (natV e) ∧ Below w.heap.size w w' := by
 have hL0 : GL w w [] := GL.start w
 replace HW := Lib.hid HW
 replace hL0 := ((hL0.new rfl [.int .u64 ((zl n : Nat) : Int), .string (zh n), .bool (zs n), .int .u64 ((lo e : Nat) : Int), .string (hs e)] 53).new (K := w.heap.size + 1) (szA _ _) [.int .u64 0, .string ⟨#[]⟩] 45)
 generalize hweq : ((w.alloc (.cells #[.int .u64 ((zl n : Nat) : Int), .string (zh n), .bool (zs n), .int .u64 ((lo e : Nat) : Int), .string (hs e)] 53)).alloc (.cells #[.int .u64 0, .string ⟨#[]⟩] 45)) = x1 at hL0
 go_enter Tryd.func54, Tryd.ntmps54
 have hN0 := cells_of _ 0 [] rfl (hL0.get _ _ (List.mem_cons_of_mem _ List.mem_cons_self))
 simp only [cellsF, and_true, Nat.zero_add, Nat.reduceAdd] at hN0
 go_wp2_with fail
 clear hN0
 with_reducible refine Calls.mono (HW.out _) ?_
 rintro e x2 ⟨rfl, hb⟩
 replace hL0 := hL0.call hb
 clear hb hweq
 have hA := hL0.fc
 simp only [fcG, cellsF, neK, and_true, ne_eq, Nat.zero_add, Nat.reduceAdd] at hA
 have hP := hL0.put 0 (w.heap.size + 1) _ rfl [.int .u64 ((lo e : Nat) : Int), .string (hs e)] rfl
 simp only [setAll, List.set_cons_zero, List.set_cons_succ] at hP
 generalize hput1 : ((x2.setCell ⟨w.heap.size + 1, 0, none⟩ (.int .u64 ((lo e : Nat) : Int))).setCell ⟨w.heap.size + 1, 1, none⟩ (.string (hs e))) = x3 at hP
 have hB1 := hP.fc
 simp only [fcG, cellsF, neK, and_true, ne_eq, Nat.zero_add, Nat.reduceAdd] at hB1
 replace hL0 := hP
 go_wp2_with fail
 exact bodyPost_ret (v := natV e) (by simp [results, Tryd.results54, go_sem, hB1]) rfl ⟨rfl, hL0.bl⟩
set_option maxHeartbeats 4000000 in
set_option maxRecDepth 100000 in
theorem lowest_one (n : Int) (HO : RT 53 #[.int .u64 1] (natV 1)) (w : World) :
  Calls Tryd.prog 58 #[intV n, natV 1] w fun xe w' => xe = .returned (.agg #[.int .u64 ((zl n : Nat) : Int), .string (zh n), .bool (zs n), .int .u64 0, .string ⟨#[]⟩]) ∧ Below w.heap.size w w' := by
 have hL0 : GL w w [] := GL.start w
 replace HO := Lib.hid HO
 replace hL0 := (((hL0.new rfl [.int .u64 ((zl n : Nat) : Int), .string (zh n), .bool (zs n)] 47).new (K := w.heap.size + 1) (szA _ _) [.int .u64 ((lo 1 : Nat) : Int), .string (hs 1)] 45).new (K := w.heap.size + 1 + 1) (by simp only [World.size_alloc]) [.int .u64 0, .string ⟨#[]⟩, .bool false, .int .u64 0, .string ⟨#[]⟩] 53)
 generalize hweq : (((w.alloc (.cells #[.int .u64 ((zl n : Nat) : Int), .string (zh n), .bool (zs n)] 47)).alloc (.cells #[.int .u64 ((lo 1 : Nat) : Int), .string (hs 1)] 45)).alloc (.cells #[.int .u64 0, .string ⟨#[]⟩, .bool false, .int .u64 0, .string ⟨#[]⟩] 53)) = x1 at hL0
 go_enter Tryd.func58, Tryd.ntmps58
 go_upto_region 1 with fail
 clear hweq
 obtain ⟨α, iα, F, hF1, hF2⟩ := cls x1
 have hq0 := cls_box hF1 hL0 _ _ (List.mem_cons_of_mem _ List.mem_cons_self)
 simp only [cellsC, and_true, Nat.zero_add, Nat.reduceAdd] at hq0
 refine region_qs 3 (C := fun w' => ∃ x, w' = F x) (by kernel_rfl) (by kernel_rfl) (cls_drew hF2) ?_
 simp only [List.take_succ_cons, List.take_zero, List.drop_succ_cons, List.drop_zero, List.take_nil, List.drop_nil]
 repeat (go_big_quiet_step (first | fail | (go_at_call 53; with_reducible exact cls_call hF1 hF2 HO.out _)))
 refine wpQuiet_nil ?_
 rintro wq ⟨xq, rfl⟩
 replace hL0 := hL0.call (hF1 xq)
 clear  hq0 hF2
 generalize F xq = x2 at hL0 ⊢
 clear hF1 xq iα F α
 have hA := hL0.fc
 simp only [fcG, cellsF, neK, and_true, ne_eq, Nat.zero_add, Nat.reduceAdd] at hA
 have hP := hL0.put 0 (w.heap.size + 1 + 1) _ rfl [.int .u64 ((zl n : Nat) : Int), .string (zh n), .bool (zs n), .int .u64 0, .string ⟨#[]⟩] rfl
 simp only [setAll, List.set_cons_zero, List.set_cons_succ] at hP
 generalize hput1 : (((((x2.setCell ⟨w.heap.size + 1 + 1, 0, none⟩ (.int .u64 ((zl n : Nat) : Int))).setCell ⟨w.heap.size + 1 + 1, 1, none⟩ (.string (zh n))).setCell ⟨w.heap.size + 1 + 1, 2, none⟩ (.bool (zs n))).setCell ⟨w.heap.size + 1 + 1, 3, none⟩ (.int .u64 0)).setCell ⟨w.heap.size + 1 + 1, 4, none⟩ (.string ⟨#[]⟩)) = x3 at hP
 have hB1 := hP.fc
 simp only [fcG, cellsF, neK, and_true, ne_eq, Nat.zero_add, Nat.reduceAdd] at hB1
 replace hL0 := hP
 go_wp2_with fail
 exact bodyPost_ret (v := .agg #[.int .u64 ((zl n : Nat) : Int), .string (zh n), .bool (zs n), .int .u64 0, .string ⟨#[]⟩]) (by simp [results, Tryd.results58, go_sem, hB1]) rfl ⟨rfl, hL0.bl⟩
set_option maxHeartbeats 4000000 in
set_option maxRecDepth 100000 in
theorem lowest_part (n : Int) (d : Nat) (HO : RT 53 #[.int .u64 1] (natV 1)) (hd : d ≠ 1) (w : World) :
  Calls Tryd.prog 58 #[intV n, natV d] w fun xe w' => xe = .returned (frV n d) ∧ Below w.heap.size w w' := by
 have hL0 : GL w w [] := GL.start w
 replace HO := Lib.hid HO
 have hz := ne_nat hd
 clear hd
 rcases hz with e0 | ⟨e0, e1⟩
 all_goals (
  replace hL0 := (((hL0.new rfl [.int .u64 ((zl n : Nat) : Int), .string (zh n), .bool (zs n)] 47).new (K := w.heap.size + 1) (szA _ _) [.int .u64 ((lo d : Nat) : Int), .string (hs d)] 45).new (K := w.heap.size + 1 + 1) (by simp only [World.size_alloc]) [.int .u64 0, .string ⟨#[]⟩, .bool false, .int .u64 0, .string ⟨#[]⟩] 53)
  generalize hweq : (((w.alloc (.cells #[.int .u64 ((zl n : Nat) : Int), .string (zh n), .bool (zs n)] 47)).alloc (.cells #[.int .u64 ((lo d : Nat) : Int), .string (hs d)] 45)).alloc (.cells #[.int .u64 0, .string ⟨#[]⟩, .bool false, .int .u64 0, .string ⟨#[]⟩] 53)) = x1 at hL0
  go_enter Tryd.func58, Tryd.ntmps58
  go_upto_region 1 with fail
  clear hweq
  obtain ⟨α, iα, F, hF1, hF2⟩ := cls x1
  have hq0 := cls_box hF1 hL0 _ _ (List.mem_cons_of_mem _ List.mem_cons_self)
  simp only [cellsC, and_true, Nat.zero_add, Nat.reduceAdd] at hq0
  refine region_qs 3 (C := fun w' => ∃ x, w' = F x) (by kernel_rfl) (by kernel_rfl) (cls_drew hF2) ?_
  simp only [List.take_succ_cons, List.take_zero, List.drop_succ_cons, List.drop_zero, List.take_nil, List.drop_nil]
  repeat (go_big_quiet_step (first | fail | (go_at_call 53; with_reducible exact cls_call hF1 hF2 HO.out _)))
  refine wpQuiet_nil ?_
  rintro wq ⟨xq, rfl⟩
  replace hL0 := hL0.call (hF1 xq)
  clear  hq0 hF2
  generalize F xq = x2 at hL0 ⊢
  clear hF1 xq iα F α
  have hA := hL0.fc
  simp only [fcG, cellsF, neK, and_true, ne_eq, Nat.zero_add, Nat.reduceAdd] at hA
  have hP := hL0.put 0 (w.heap.size + 1 + 1) _ rfl [.int .u64 ((zl n : Nat) : Int), .string (zh n), .bool (zs n), .int .u64 ((lo d : Nat) : Int), .string (hs d)] rfl
  simp only [setAll, List.set_cons_zero, List.set_cons_succ] at hP
  generalize hput1 : (((((x2.setCell ⟨w.heap.size + 1 + 1, 0, none⟩ (.int .u64 ((zl n : Nat) : Int))).setCell ⟨w.heap.size + 1 + 1, 1, none⟩ (.string (zh n))).setCell ⟨w.heap.size + 1 + 1, 2, none⟩ (.bool (zs n))).setCell ⟨w.heap.size + 1 + 1, 3, none⟩ (.int .u64 ((lo d : Nat) : Int))).setCell ⟨w.heap.size + 1 + 1, 4, none⟩ (.string (hs d))) = x3 at hP
  have hB1 := hP.fc
  simp only [fcG, cellsF, neK, and_true, ne_eq, Nat.zero_add, Nat.reduceAdd] at hB1
  replace hL0 := hP
  go_wp2_with fail
  exact bodyPost_ret (v := frV n d) (by simp [results, Tryd.results58, go_sem, hB1]) rfl ⟨rfl, hL0.bl⟩)
set_option maxHeartbeats 4000000 in
set_option maxRecDepth 100000 in
theorem pon_one (n : Nat) (HO : RT 53 #[.int .u64 1] (natV 1)) (w : World) :
  Calls Tryd.prog 79 #[natV n, natV 1] w fun xe w' => xe = .returned (natV n) ∧ Below w.heap.size w w' := by
 have hL0 : GL w w [] := GL.start w
 replace HO := Lib.hid HO
 replace hL0 := (((hL0.new rfl [.int .u64 ((lo n : Nat) : Int), .string (hs n)] 45).new (K := w.heap.size + 1) (szA _ _) [.int .u64 ((lo 1 : Nat) : Int), .string (hs 1)] 45).new (K := w.heap.size + 1 + 1) (by simp only [World.size_alloc]) [.int .u64 0, .string ⟨#[]⟩] 45)
 generalize hweq : (((w.alloc (.cells #[.int .u64 ((lo n : Nat) : Int), .string (hs n)] 45)).alloc (.cells #[.int .u64 ((lo 1 : Nat) : Int), .string (hs 1)] 45)).alloc (.cells #[.int .u64 0, .string ⟨#[]⟩] 45)) = x1 at hL0
 go_enter Tryd.func79, Tryd.ntmps79
 go_upto_region 1 with fail
 clear hweq
 obtain ⟨α, iα, F, hF1, hF2⟩ := cls x1
 have hq0 := cls_box hF1 hL0 _ _ (List.mem_cons_of_mem _ List.mem_cons_self)
 simp only [cellsC, and_true, Nat.zero_add, Nat.reduceAdd] at hq0
 refine region_qs 3 (C := fun w' => ∃ x, w' = F x) (by kernel_rfl) (by kernel_rfl) (cls_drew hF2) ?_
 simp only [List.take_succ_cons, List.take_zero, List.drop_succ_cons, List.drop_zero, List.take_nil, List.drop_nil]
 repeat (go_big_quiet_step (first | fail | (go_at_call 53; with_reducible exact cls_call hF1 hF2 HO.out _)))
 refine wpQuiet_nil ?_
 rintro wq ⟨xq, rfl⟩
 replace hL0 := hL0.call (hF1 xq)
 clear  hq0 hF2
 generalize F xq = x2 at hL0 ⊢
 clear hF1 xq iα F α
 have hA := hL0.fc
 simp only [fcG, cellsF, neK, and_true, ne_eq, Nat.zero_add, Nat.reduceAdd] at hA
 have hP := hL0.put 0 (w.heap.size + 1 + 1) _ rfl [.int .u64 ((lo n : Nat) : Int), .string (hs n)] rfl
 simp only [setAll, List.set_cons_zero, List.set_cons_succ] at hP
 generalize hput1 : ((x2.setCell ⟨w.heap.size + 1 + 1, 0, none⟩ (.int .u64 ((lo n : Nat) : Int))).setCell ⟨w.heap.size + 1 + 1, 1, none⟩ (.string (hs n))) = x3 at hP
 have hB1 := hP.fc
 simp only [fcG, cellsF, neK, and_true, ne_eq, Nat.zero_add, Nat.reduceAdd] at hB1
 replace hL0 := hP
 go_wp2_with fail
 exact bodyPost_ret (v := natV n) (by simp [results, Tryd.results79, go_sem, hB1]) rfl ⟨rfl, hL0.bl⟩
set_option maxHeartbeats 4000000 in
set_option maxRecDepth 100000 in
theorem pon_div (n d q r : Nat) (HO : RT 53 #[.int .u64 1] (natV 1)) (HD : RT 66 #[natV n, natV d] (.tuple #[natV q, natV r, .bool true])) (hd : d ≠ 1) (w : World) :
  Calls Tryd.prog 79 #[natV n, natV d] w fun xe w' => xe = .returned (natV q) ∧ Below w.heap.size w w' := by
 have hL0 : GL w w [] := GL.start w
 replace HO := Lib.hid HO
 replace HD := Lib.hid HD
 have hz := ne_nat hd
 clear hd
 rcases hz with e0 | ⟨e0, e1⟩
 all_goals (
  replace hL0 := (((hL0.new rfl [.int .u64 ((lo n : Nat) : Int), .string (hs n)] 45).new (K := w.heap.size + 1) (szA _ _) [.int .u64 ((lo d : Nat) : Int), .string (hs d)] 45).new (K := w.heap.size + 1 + 1) (by simp only [World.size_alloc]) [.int .u64 0, .string ⟨#[]⟩] 45)
  generalize hweq : (((w.alloc (.cells #[.int .u64 ((lo n : Nat) : Int), .string (hs n)] 45)).alloc (.cells #[.int .u64 ((lo d : Nat) : Int), .string (hs d)] 45)).alloc (.cells #[.int .u64 0, .string ⟨#[]⟩] 45)) = x1 at hL0
  go_enter Tryd.func79, Tryd.ntmps79
  go_upto_region 1 with fail
  clear hweq
  obtain ⟨α, iα, F, hF1, hF2⟩ := cls x1
  have hq0 := cls_box hF1 hL0 _ _ (List.mem_cons_of_mem _ List.mem_cons_self)
  simp only [cellsC, and_true, Nat.zero_add, Nat.reduceAdd] at hq0
  refine region_qs 3 (C := fun w' => ∃ x, w' = F x) (by kernel_rfl) (by kernel_rfl) (cls_drew hF2) ?_
  simp only [List.take_succ_cons, List.take_zero, List.drop_succ_cons, List.drop_zero, List.take_nil, List.drop_nil]
  repeat (go_big_quiet_step (first | fail | (go_at_call 53; with_reducible exact cls_call hF1 hF2 HO.out _)))
  refine wpQuiet_nil ?_
  rintro wq ⟨xq, rfl⟩
  replace hL0 := hL0.call (hF1 xq)
  clear  hq0 hF2
  generalize F xq = x2 at hL0 ⊢
  clear hF1 xq iα F α
  have hN0 := cells_of _ 0 [] rfl (hL0.get _ _ (List.mem_cons_of_mem _ List.mem_cons_self))
  simp only [cellsF, and_true, Nat.zero_add, Nat.reduceAdd] at hN0
  have hN1 := cells_of _ 0 [] rfl (hL0.get _ _ (List.mem_cons_of_mem _ (List.mem_cons_of_mem _ List.mem_cons_self)))
  simp only [cellsF, and_true, Nat.zero_add, Nat.reduceAdd] at hN1
  go_wp2_with fail
  clear hN0 hN1
  with_reducible refine Calls.mono (HD.out _) ?_
  rintro e x3 ⟨rfl, hb⟩
  replace hL0 := hL0.call hb
  clear hb
  replace hL0 := ((hL0.new rfl [.int .u64 ((lo q : Nat) : Int), .string (hs q)] 45).new (K := x3.heap.size + 1) (szA _ _) [.int .u64 ((lo r : Nat) : Int), .string (hs r)] 45)
  generalize hweq : ((x3.alloc (.cells #[.int .u64 ((lo q : Nat) : Int), .string (hs q)] 45)).alloc (.cells #[.int .u64 ((lo r : Nat) : Int), .string (hs r)] 45)) = x4 at hL0
  have hA := hL0.fc
  simp only [fcG, cellsF, neK, and_true, ne_eq, Nat.zero_add, Nat.reduceAdd] at hA
  have hP := hL0.put 2 (w.heap.size + 1 + 1) _ rfl [.int .u64 ((lo q : Nat) : Int), .string (hs q)] rfl
  simp only [setAll, List.set_cons_zero, List.set_cons_succ] at hP
  generalize hput1 : ((x4.setCell ⟨w.heap.size + 1 + 1, 0, none⟩ (.int .u64 ((lo q : Nat) : Int))).setCell ⟨w.heap.size + 1 + 1, 1, none⟩ (.string (hs q))) = x5 at hP
  have hB1 := hP.fc
  simp only [fcG, cellsF, neK, and_true, ne_eq, Nat.zero_add, Nat.reduceAdd] at hB1
  replace hL0 := hP
  go_wp2_with fail
  exact bodyPost_ret (v := natV q) (by simp [results, Tryd.results79, go_sem, hB1]) rfl ⟨rfl, hL0.bl⟩)
set_option maxHeartbeats 4000000 in
set_option maxRecDepth 100000 in
theorem part_true (z s u : Int) (a g q : Nat) (HS : RT 82 #[intV z] (.int .i64 s)) (HA : RT 51 #[intV z] (natV a)) (HP : RT 79 #[natV a, natV g] (natV q)) (HF : RT 41 #[.bool true, natV q] (intV u)) (hsg : decide (s < 0) = true) (w : World) :
  Calls Tryd.prog 81 #[intV z, natV g] w fun xe w' => xe = .returned (intV u) ∧ Below w.heap.size w w' := by
 have hL0 : GL w w [] := GL.start w
 replace HS := Lib.hid HS
 replace HA := Lib.hid HA
 replace HP := Lib.hid HP
 replace HF := Lib.hid HF
 replace hL0 := (((hL0.new rfl [.int .u64 ((zl z : Nat) : Int), .string (zh z), .bool (zs z)] 47).new (K := w.heap.size + 1) (szA _ _) [.int .u64 ((lo g : Nat) : Int), .string (hs g)] 45).new (K := w.heap.size + 1 + 1) (by simp only [World.size_alloc]) [.int .u64 0, .string ⟨#[]⟩, .bool false] 47)
 generalize hweq : (((w.alloc (.cells #[.int .u64 ((zl z : Nat) : Int), .string (zh z), .bool (zs z)] 47)).alloc (.cells #[.int .u64 ((lo g : Nat) : Int), .string (hs g)] 45)).alloc (.cells #[.int .u64 0, .string ⟨#[]⟩, .bool false] 47)) = x1 at hL0
 go_enter Tryd.func81, Tryd.ntmps81
 go_upto_region 1 with fail
 clear hweq
 obtain ⟨α, iα, F, hF1, hF2⟩ := cls x1
 have hq0 := cls_box hF1 hL0 _ _ (List.mem_cons_of_mem _ List.mem_cons_self)
 simp only [cellsC, and_true, Nat.zero_add, Nat.reduceAdd] at hq0
 have hq1 := cls_box hF1 hL0 _ _ (List.mem_cons_of_mem _ (List.mem_cons_of_mem _ List.mem_cons_self))
 simp only [cellsC, and_true, Nat.zero_add, Nat.reduceAdd] at hq1
 refine region_qs 8 (C := fun w' => ∃ x, w' = F x) (by kernel_rfl) (by kernel_rfl) (cls_drew hF2) ?_
 simp only [List.take_succ_cons, List.take_zero, List.drop_succ_cons, List.drop_zero, List.take_nil, List.drop_nil]
 repeat (go_big_quiet_step (first | fail | (go_at_call 82; with_reducible exact cls_call hF1 hF2 HS.out _) | (go_at_call 51; with_reducible exact cls_call hF1 hF2 HA.out _) | (go_at_call 79; with_reducible exact cls_call hF1 hF2 HP.out _) | (go_at_call 41; with_reducible exact cls_call hF1 hF2 HF.out _)))
 refine wpQuiet_nil ?_
 rintro wq ⟨xq, rfl⟩
 replace hL0 := hL0.call (hF1 xq)
 clear  hq0 hq1 hF2
 generalize F xq = x2 at hL0 ⊢
 clear hF1 xq iα F α
 have hA := hL0.fc
 simp only [fcG, cellsF, neK, and_true, ne_eq, Nat.zero_add, Nat.reduceAdd] at hA
 have hP := hL0.put 0 (w.heap.size + 1 + 1) _ rfl [.int .u64 ((zl u : Nat) : Int), .string (zh u), .bool (zs u)] rfl
 simp only [setAll, List.set_cons_zero, List.set_cons_succ] at hP
 generalize hput1 : (((x2.setCell ⟨w.heap.size + 1 + 1, 0, none⟩ (.int .u64 ((zl u : Nat) : Int))).setCell ⟨w.heap.size + 1 + 1, 1, none⟩ (.string (zh u))).setCell ⟨w.heap.size + 1 + 1, 2, none⟩ (.bool (zs u))) = x3 at hP
 have hB1 := hP.fc
 simp only [fcG, cellsF, neK, and_true, ne_eq, Nat.zero_add, Nat.reduceAdd] at hB1
 replace hL0 := hP
 go_wp2_with fail
 exact bodyPost_ret (v := intV u) (by simp [results, Tryd.results81, go_sem, hB1]) rfl ⟨rfl, hL0.bl⟩
set_option maxHeartbeats 4000000 in
set_option maxRecDepth 100000 in
theorem part_false (z s u : Int) (a g q : Nat) (HS : RT 82 #[intV z] (.int .i64 s)) (HA : RT 51 #[intV z] (natV a)) (HP : RT 79 #[natV a, natV g] (natV q)) (HF : RT 41 #[.bool false, natV q] (intV u)) (hsg : decide (s < 0) = false) (w : World) :
  Calls Tryd.prog 81 #[intV z, natV g] w fun xe w' => xe = .returned (intV u) ∧ Below w.heap.size w w' := by
 have hL0 : GL w w [] := GL.start w
 replace HS := Lib.hid HS
 replace HA := Lib.hid HA
 replace HP := Lib.hid HP
 replace HF := Lib.hid HF
 replace hL0 := (((hL0.new rfl [.int .u64 ((zl z : Nat) : Int), .string (zh z), .bool (zs z)] 47).new (K := w.heap.size + 1) (szA _ _) [.int .u64 ((lo g : Nat) : Int), .string (hs g)] 45).new (K := w.heap.size + 1 + 1) (by simp only [World.size_alloc]) [.int .u64 0, .string ⟨#[]⟩, .bool false] 47)
 generalize hweq : (((w.alloc (.cells #[.int .u64 ((zl z : Nat) : Int), .string (zh z), .bool (zs z)] 47)).alloc (.cells #[.int .u64 ((lo g : Nat) : Int), .string (hs g)] 45)).alloc (.cells #[.int .u64 0, .string ⟨#[]⟩, .bool false] 47)) = x1 at hL0
 go_enter Tryd.func81, Tryd.ntmps81
 go_upto_region 1 with fail
 clear hweq
 obtain ⟨α, iα, F, hF1, hF2⟩ := cls x1
 have hq0 := cls_box hF1 hL0 _ _ (List.mem_cons_of_mem _ List.mem_cons_self)
 simp only [cellsC, and_true, Nat.zero_add, Nat.reduceAdd] at hq0
 have hq1 := cls_box hF1 hL0 _ _ (List.mem_cons_of_mem _ (List.mem_cons_of_mem _ List.mem_cons_self))
 simp only [cellsC, and_true, Nat.zero_add, Nat.reduceAdd] at hq1
 refine region_qs 8 (C := fun w' => ∃ x, w' = F x) (by kernel_rfl) (by kernel_rfl) (cls_drew hF2) ?_
 simp only [List.take_succ_cons, List.take_zero, List.drop_succ_cons, List.drop_zero, List.take_nil, List.drop_nil]
 repeat (go_big_quiet_step (first | fail | (go_at_call 82; with_reducible exact cls_call hF1 hF2 HS.out _) | (go_at_call 51; with_reducible exact cls_call hF1 hF2 HA.out _) | (go_at_call 79; with_reducible exact cls_call hF1 hF2 HP.out _) | (go_at_call 41; with_reducible exact cls_call hF1 hF2 HF.out _)))
 refine wpQuiet_nil ?_
 rintro wq ⟨xq, rfl⟩
 replace hL0 := hL0.call (hF1 xq)
 clear  hq0 hq1 hF2
 generalize F xq = x2 at hL0 ⊢
 clear hF1 xq iα F α
 have hA := hL0.fc
 simp only [fcG, cellsF, neK, and_true, ne_eq, Nat.zero_add, Nat.reduceAdd] at hA
 have hP := hL0.put 0 (w.heap.size + 1 + 1) _ rfl [.int .u64 ((zl u : Nat) : Int), .string (zh u), .bool (zs u)] rfl
 simp only [setAll, List.set_cons_zero, List.set_cons_succ] at hP
 generalize hput1 : (((x2.setCell ⟨w.heap.size + 1 + 1, 0, none⟩ (.int .u64 ((zl u : Nat) : Int))).setCell ⟨w.heap.size + 1 + 1, 1, none⟩ (.string (zh u))).setCell ⟨w.heap.size + 1 + 1, 2, none⟩ (.bool (zs u))) = x3 at hP
 have hB1 := hP.fc
 simp only [fcG, cellsF, neK, and_true, ne_eq, Nat.zero_add, Nat.reduceAdd] at hB1
 replace hL0 := hP
 go_wp2_with fail
 exact bodyPost_ret (v := intV u) (by simp [results, Tryd.results81, go_sem, hB1]) rfl ⟨rfl, hL0.bl⟩
set_option maxHeartbeats 4000000 in
set_option maxRecDepth 100000 in
theorem cancel_w (z u : Int) (a d g v : Nat) (HA : RT 51 #[intV z] (natV a)) (HG : RT 78 #[natV a, natV d] (natV g)) (HP : RT 81 #[intV z, natV g] (intV u)) (HQ : RT 79 #[natV d, natV g] (natV v)) (w : World) :
  Calls Tryd.prog 57 #[intV z, natV d] w fun xe w' => xe = .returned (.tuple #[intV u, natV v]) ∧ Below w.heap.size w w' := by
 have hL0 : GL w w [] := GL.start w
 replace HA := Lib.hid HA
 replace HG := Lib.hid HG
 replace HP := Lib.hid HP
 replace HQ := Lib.hid HQ
 replace hL0 := ((((hL0.new rfl [.int .u64 ((zl z : Nat) : Int), .string (zh z), .bool (zs z)] 47).new (K := w.heap.size + 1) (szA _ _) [.int .u64 ((lo d : Nat) : Int), .string (hs d)] 45).new (K := w.heap.size + 1 + 1) (by simp only [World.size_alloc]) [.int .u64 0, .string ⟨#[]⟩, .bool false] 47).new (K := w.heap.size + 1 + 1 + 1) (by simp only [World.size_alloc]) [.int .u64 0, .string ⟨#[]⟩] 45)
 generalize hweq : ((((w.alloc (.cells #[.int .u64 ((zl z : Nat) : Int), .string (zh z), .bool (zs z)] 47)).alloc (.cells #[.int .u64 ((lo d : Nat) : Int), .string (hs d)] 45)).alloc (.cells #[.int .u64 0, .string ⟨#[]⟩, .bool false] 47)).alloc (.cells #[.int .u64 0, .string ⟨#[]⟩] 45)) = x1 at hL0
 go_enter Tryd.func57, Tryd.ntmps57
 go_upto_region 1 with fail
 clear hweq
 refine region_gh (by kernel_rfl) (by kernel_rfl) ?_
 refine lex_seg (gl := []) 4 (by kernel_rfl) ?_
 intro α iα F hF1 hF2
 have hq := GL.seg hF1 hL0
 simp only [fcC, cellsC, and_true, Nat.zero_add, Nat.reduceAdd] at hq
 simp only [List.take_succ_cons, List.take_zero, List.drop_succ_cons, List.drop_zero, List.take_nil, List.drop_nil]
 repeat (go_big_quiet_step (first | fail | (go_at_call 51; with_reducible exact seg_call hF2 HA.out _) | (go_at_call 78; with_reducible exact seg_call hF2 HG.out _)))
 refine wpQuiet_nil ?_
 clear hq hF1 hF2 iα F α
 refine lex_new [.int .u64 0, .string ⟨#[]⟩] 6 45 45 rfl rfl (of_decide_eq_true (by kernel_rfl)) (by kernel_rfl) rfl new_natc ?_
 simp only [Act.put, List.setIfInBounds_toArray, List.set_cons_succ, List.set_cons_zero]
 refine lex_put [.int .u64 ((lo g : Nat) : Int), .string (hs g)] [.int .u64 0, .string ⟨#[]⟩] 6 45 (.tmp 10) rfl (by kernel_rfl) (by simp [toG, upd]) rfl (fun w k h => put_natc _ _ _ _ w k h) ?_
 simp only [Act.put]
 refine lexG_nil ?_
 intro κ x2 hS
 replace hL0 := hL0.ghs hS [(6, [.int .u64 ((lo g : Nat) : Int), .string (hs g)])] (by simp) (by intro p hp; simp only [List.mem_cons, List.not_mem_nil, or_false] at hp; rcases hp with rfl <;> exact ⟨_, by simp only [toG, upd]; rfl⟩)
 simp only [List.map_cons, List.map_nil, List.cons_append, List.nil_append] at hL0
 simp only [over_toG, over_nil, Act.put, List.setIfInBounds_toArray, List.set_cons_succ, List.set_cons_zero]
 clear hS
 generalize κ 6 = k2_6 at *
 go_upto_region 2 with fail
 obtain ⟨α, iα, F, hF1, hF2⟩ := cls x2
 have hq0 := cls_box hF1 hL0 _ _ List.mem_cons_self
 simp only [cellsC, and_true, Nat.zero_add, Nat.reduceAdd] at hq0
 have hq1 := cls_box hF1 hL0 _ _ (List.mem_cons_of_mem _ (List.mem_cons_of_mem _ (List.mem_cons_of_mem _ List.mem_cons_self)))
 simp only [cellsC, and_true, Nat.zero_add, Nat.reduceAdd] at hq1
 have hq2 := cls_box hF1 hL0 _ _ (List.mem_cons_of_mem _ (List.mem_cons_of_mem _ (List.mem_cons_of_mem _ (List.mem_cons_of_mem _ List.mem_cons_self))))
 simp only [cellsC, and_true, Nat.zero_add, Nat.reduceAdd] at hq2
 refine region_qs 6 (C := fun w' => ∃ x, w' = F x) (by kernel_rfl) (by kernel_rfl) (cls_drew hF2) ?_
 simp only [List.take_succ_cons, List.take_zero, List.drop_succ_cons, List.drop_zero, List.take_nil, List.drop_nil]
 repeat (go_big_quiet_step (first | fail | (go_at_call 81; with_reducible exact cls_call hF1 hF2 HP.out _) | (go_at_call 79; with_reducible exact cls_call hF1 hF2 HQ.out _)))
 refine wpQuiet_nil ?_
 rintro wq ⟨xq, rfl⟩
 replace hL0 := hL0.call (hF1 xq)
 clear  hq0 hq1 hq2 hF2
 generalize F xq = x3 at hL0 ⊢
 clear hF1 xq iα F α
 have hA := hL0.fc
 simp only [fcG, cellsF, neK, and_true, ne_eq, Nat.zero_add, Nat.reduceAdd] at hA
 have hP := hL0.put 2 (w.heap.size + 1 + 1) _ rfl [.int .u64 ((zl u : Nat) : Int), .string (zh u), .bool (zs u)] rfl
 simp only [setAll, List.set_cons_zero, List.set_cons_succ] at hP
 generalize hput1 : (((x3.setCell ⟨w.heap.size + 1 + 1, 0, none⟩ (.int .u64 ((zl u : Nat) : Int))).setCell ⟨w.heap.size + 1 + 1, 1, none⟩ (.string (zh u))).setCell ⟨w.heap.size + 1 + 1, 2, none⟩ (.bool (zs u))) = x4 at hP
 have hB1 := hP.fc
 simp only [fcG, cellsF, neK, and_true, ne_eq, Nat.zero_add, Nat.reduceAdd] at hB1
 replace hL0 := hP
 have hP := hL0.put 1 (w.heap.size + 1 + 1 + 1) _ rfl [.int .u64 ((lo v : Nat) : Int), .string (hs v)] rfl
 simp only [setAll, List.set_cons_zero, List.set_cons_succ] at hP
 generalize hput2 : ((x4.setCell ⟨w.heap.size + 1 + 1 + 1, 0, none⟩ (.int .u64 ((lo v : Nat) : Int))).setCell ⟨w.heap.size + 1 + 1 + 1, 1, none⟩ (.string (hs v))) = x5 at hP
 have hB2 := hP.fc
 simp only [fcG, cellsF, neK, and_true, ne_eq, Nat.zero_add, Nat.reduceAdd] at hB2
 replace hL0 := hP
 go_wp2_with fail
 exact bodyPost_ret (v := .tuple #[intV u, natV v]) (by simp [results, Tryd.results57, go_sem, hB2]) rfl ⟨rfl, hL0.bl⟩
set_option maxHeartbeats 4000000 in
set_option maxRecDepth 100000 in
theorem num_w (n : Int) (e : Nat) (w : World) :
  Calls Tryd.prog 55 #[frV n e] w fun xe w' => xe = .returned (intV n) ∧ Below w.heap.size w w' := by
 have hL0 : GL w w [] := GL.start w
 replace hL0 := ((hL0.new rfl [.int .u64 ((zl n : Nat) : Int), .string (zh n), .bool (zs n), .int .u64 ((lo e : Nat) : Int), .string (hs e)] 53).new (K := w.heap.size + 1) (szA _ _) [.int .u64 ((zl n : Nat) : Int), .string (zh n), .bool (zs n)] 47)
 generalize hweq : ((w.alloc (.cells #[.int .u64 ((zl n : Nat) : Int), .string (zh n), .bool (zs n), .int .u64 ((lo e : Nat) : Int), .string (hs e)] 53)).alloc (.cells #[.int .u64 ((zl n : Nat) : Int), .string (zh n), .bool (zs n)] 47)) = x1 at hL0
 go_enter Tryd.func55, Tryd.ntmps55
 have hN0 := cells_of _ 0 [] rfl (hL0.get _ _ List.mem_cons_self)
 simp only [cellsF, and_true, Nat.zero_add, Nat.reduceAdd] at hN0
 have hN1 := cells_of _ 0 [] rfl (hL0.get _ _ (List.mem_cons_of_mem _ List.mem_cons_self))
 simp only [cellsF, and_true, Nat.zero_add, Nat.reduceAdd] at hN1
 go_wp2_with fail
 exact bodyPost_ret (v := intV n) (by simp [results, Tryd.results55, go_sem, hN0 ,hN1]) rfl ⟨rfl, hL0.bl⟩
set_option maxHeartbeats 4000000 in
set_option maxRecDepth 100000 in
theorem fof_true (x y s z p : Int) (a b : Int) (d e : Nat) (c : Int) (HO : RT 35 #[.int .i64 a] (intV x)) (HQ : RT 35 #[.int .i64 b] (intV y)) (HS : RT 82 #[intV y] (.int .i64 s)) (HN : RT 27 #[intV x] (intV z)) (HA : RT 51 #[intV y] (natV d)) (HF : RT 49 #[intV z, natV d] (.tuple #[frV p e, .int .i64 c])) (hsg : decide (s < 0) = true) (w : World) :
  Calls Tryd.prog 59 #[.int .i64 a, .int .i64 b] w fun xe w' => xe = .returned (.tuple #[frV p e, .int .i64 c]) ∧ Below w.heap.size w w' := by
 have hL0 : GL w w [] := GL.start w
 replace HO := Lib.hid HO
 replace HQ := Lib.hid HQ
 replace HS := Lib.hid HS
 replace HN := Lib.hid HN
 replace HA := Lib.hid HA
 replace HF := Lib.hid HF
 replace hL0 := (hL0.new rfl [.int .u64 0, .string ⟨#[]⟩, .bool false, .int .u64 0, .string ⟨#[]⟩] 53)
 generalize hweq : (w.alloc (.cells #[.int .u64 0, .string ⟨#[]⟩, .bool false, .int .u64 0, .string ⟨#[]⟩] 53)) = x1 at hL0
 go_enter Tryd.func59, Tryd.ntmps59
 go_wp2_with fail
 with_reducible refine Calls.mono (HO.out _) ?_
 rintro e x2 ⟨rfl, hb⟩
 replace hL0 := hL0.call hb
 clear hb hweq
 go_wp2_with fail
 with_reducible refine Calls.mono (HQ.out _) ?_
 rintro e x3 ⟨rfl, hb⟩
 replace hL0 := hL0.call hb
 clear hb
 replace hL0 := ((hL0.new rfl [.int .u64 ((zl x : Nat) : Int), .string (zh x), .bool (zs x)] 47).new (K := x3.heap.size + 1) (szA _ _) [.int .u64 ((zl y : Nat) : Int), .string (zh y), .bool (zs y)] 47)
 generalize hweq : ((x3.alloc (.cells #[.int .u64 ((zl x : Nat) : Int), .string (zh x), .bool (zs x)] 47)).alloc (.cells #[.int .u64 ((zl y : Nat) : Int), .string (zh y), .bool (zs y)] 47)) = x4 at hL0
 have hN0 := cells_of _ 0 [] rfl (hL0.get _ _ List.mem_cons_self)
 simp only [cellsF, and_true, Nat.zero_add, Nat.reduceAdd] at hN0
 go_wp2_with fail
 clear hN0
 with_reducible refine Calls.mono (HS.out _) ?_
 rintro e x5 ⟨rfl, hb⟩
 replace hL0 := hL0.call hb
 clear hb hweq
 have hN0 := cells_of _ 0 [] rfl (hL0.get _ _ (List.mem_cons_of_mem _ List.mem_cons_self))
 simp only [cellsF, and_true, Nat.zero_add, Nat.reduceAdd] at hN0
 go_wp2_with fail
 clear hN0
 with_reducible refine Calls.mono (HN.out _) ?_
 rintro e x6 ⟨rfl, hb⟩
 replace hL0 := hL0.call hb
 clear hb
 have hA := hL0.fc
 simp only [fcG, cellsF, neK, and_true, ne_eq, Nat.zero_add, Nat.reduceAdd] at hA
 have hP := hL0.put 1 (x3.heap.size) _ rfl [.int .u64 ((zl z : Nat) : Int), .string (zh z), .bool (zs z)] rfl
 simp only [setAll, List.set_cons_zero, List.set_cons_succ] at hP
 generalize hput1 : (((x6.setCell ⟨x3.heap.size, 0, none⟩ (.int .u64 ((zl z : Nat) : Int))).setCell ⟨x3.heap.size, 1, none⟩ (.string (zh z))).setCell ⟨x3.heap.size, 2, none⟩ (.bool (zs z))) = x7 at hP
 have hB1 := hP.fc
 simp only [fcG, cellsF, neK, and_true, ne_eq, Nat.zero_add, Nat.reduceAdd] at hB1
 replace hL0 := hP
 go_upto_region 4 with fail
 clear hA
 clear hput1 hB1
 obtain ⟨α, iα, F, hF1, hF2⟩ := cls x7
 have hq0 := cls_box hF1 hL0 _ _ List.mem_cons_self
 simp only [cellsC, and_true, Nat.zero_add, Nat.reduceAdd] at hq0
 have hq1 := cls_box hF1 hL0 _ _ (List.mem_cons_of_mem _ List.mem_cons_self)
 simp only [cellsC, and_true, Nat.zero_add, Nat.reduceAdd] at hq1
 refine region_qs 6 (C := fun w' => ∃ x, w' = F x) (by kernel_rfl) (by kernel_rfl) (cls_drew hF2) ?_
 simp only [List.take_succ_cons, List.take_zero, List.drop_succ_cons, List.drop_zero, List.take_nil, List.drop_nil]
 repeat (go_big_quiet_step (first | fail | (go_at_call 51; with_reducible exact cls_call hF1 hF2 HA.out _) | (go_at_call 49; with_reducible exact cls_call hF1 hF2 HF.out _)))
 refine wpQuiet_nil ?_
 rintro wq ⟨xq, rfl⟩
 replace hL0 := hL0.call (hF1 xq)
 clear  hq0 hq1 hF2
 generalize F xq = x8 at hL0 ⊢
 clear hF1 xq iα F α
 have hA := hL0.fc
 simp only [fcG, cellsF, neK, and_true, ne_eq, Nat.zero_add, Nat.reduceAdd] at hA
 have hP := hL0.put 2 (w.heap.size) _ rfl [.int .u64 ((zl p : Nat) : Int), .string (zh p), .bool (zs p), .int .u64 ((lo e : Nat) : Int), .string (hs e)] rfl
 simp only [setAll, List.set_cons_zero, List.set_cons_succ] at hP
 generalize hput2 : (((((x8.setCell ⟨w.heap.size, 0, none⟩ (.int .u64 ((zl p : Nat) : Int))).setCell ⟨w.heap.size, 1, none⟩ (.string (zh p))).setCell ⟨w.heap.size, 2, none⟩ (.bool (zs p))).setCell ⟨w.heap.size, 3, none⟩ (.int .u64 ((lo e : Nat) : Int))).setCell ⟨w.heap.size, 4, none⟩ (.string (hs e))) = x9 at hP
 have hB2 := hP.fc
 simp only [fcG, cellsF, neK, and_true, ne_eq, Nat.zero_add, Nat.reduceAdd] at hB2
 replace hL0 := hP
 go_wp2_with fail
 exact bodyPost_ret (v := .tuple #[frV p e, .int .i64 c]) (by simp [results, Tryd.results59, go_sem, hB2]) rfl ⟨rfl, hL0.bl⟩
set_option maxHeartbeats 4000000 in
set_option maxRecDepth 100000 in
theorem fof_false (x y s z p : Int) (a b : Int) (d e : Nat) (c : Int) (HO : RT 35 #[.int .i64 a] (intV x)) (HQ : RT 35 #[.int .i64 b] (intV y)) (HS : RT 82 #[intV y] (.int .i64 s)) (HA : RT 51 #[intV y] (natV d)) (HF : RT 49 #[intV x, natV d] (.tuple #[frV p e, .int .i64 c])) (hsg : decide (s < 0) = false) (w : World) :
  Calls Tryd.prog 59 #[.int .i64 a, .int .i64 b] w fun xe w' => xe = .returned (.tuple #[frV p e, .int .i64 c]) ∧ Below w.heap.size w w' := by
 have hL0 : GL w w [] := GL.start w
 replace HO := Lib.hid HO
 replace HQ := Lib.hid HQ
 replace HS := Lib.hid HS
 replace HA := Lib.hid HA
 replace HF := Lib.hid HF
 replace hL0 := (hL0.new rfl [.int .u64 0, .string ⟨#[]⟩, .bool false, .int .u64 0, .string ⟨#[]⟩] 53)
 generalize hweq : (w.alloc (.cells #[.int .u64 0, .string ⟨#[]⟩, .bool false, .int .u64 0, .string ⟨#[]⟩] 53)) = x1 at hL0
 go_enter Tryd.func59, Tryd.ntmps59
 go_wp2_with fail
 with_reducible refine Calls.mono (HO.out _) ?_
 rintro e x2 ⟨rfl, hb⟩
 replace hL0 := hL0.call hb
 clear hb hweq
 go_wp2_with fail
 with_reducible refine Calls.mono (HQ.out _) ?_
 rintro e x3 ⟨rfl, hb⟩
 replace hL0 := hL0.call hb
 clear hb
 replace hL0 := ((hL0.new rfl [.int .u64 ((zl x : Nat) : Int), .string (zh x), .bool (zs x)] 47).new (K := x3.heap.size + 1) (szA _ _) [.int .u64 ((zl y : Nat) : Int), .string (zh y), .bool (zs y)] 47)
 generalize hweq : ((x3.alloc (.cells #[.int .u64 ((zl x : Nat) : Int), .string (zh x), .bool (zs x)] 47)).alloc (.cells #[.int .u64 ((zl y : Nat) : Int), .string (zh y), .bool (zs y)] 47)) = x4 at hL0
 have hN0 := cells_of _ 0 [] rfl (hL0.get _ _ List.mem_cons_self)
 simp only [cellsF, and_true, Nat.zero_add, Nat.reduceAdd] at hN0
 go_wp2_with fail
 clear hN0
 with_reducible refine Calls.mono (HS.out _) ?_
 rintro e x5 ⟨rfl, hb⟩
 replace hL0 := hL0.call hb
 clear hb hweq
 go_upto_region 4 with fail
 obtain ⟨α, iα, F, hF1, hF2⟩ := cls x5
 have hq0 := cls_box hF1 hL0 _ _ List.mem_cons_self
 simp only [cellsC, and_true, Nat.zero_add, Nat.reduceAdd] at hq0
 have hq1 := cls_box hF1 hL0 _ _ (List.mem_cons_of_mem _ List.mem_cons_self)
 simp only [cellsC, and_true, Nat.zero_add, Nat.reduceAdd] at hq1
 refine region_qs 6 (C := fun w' => ∃ x, w' = F x) (by kernel_rfl) (by kernel_rfl) (cls_drew hF2) ?_
 simp only [List.take_succ_cons, List.take_zero, List.drop_succ_cons, List.drop_zero, List.take_nil, List.drop_nil]
 repeat (go_big_quiet_step (first | fail | (go_at_call 51; with_reducible exact cls_call hF1 hF2 HA.out _) | (go_at_call 49; with_reducible exact cls_call hF1 hF2 HF.out _)))
 refine wpQuiet_nil ?_
 rintro wq ⟨xq, rfl⟩
 replace hL0 := hL0.call (hF1 xq)
 clear  hq0 hq1 hF2
 generalize F xq = x6 at hL0 ⊢
 clear hF1 xq iα F α
 have hA := hL0.fc
 simp only [fcG, cellsF, neK, and_true, ne_eq, Nat.zero_add, Nat.reduceAdd] at hA
 have hP := hL0.put 2 (w.heap.size) _ rfl [.int .u64 ((zl p : Nat) : Int), .string (zh p), .bool (zs p), .int .u64 ((lo e : Nat) : Int), .string (hs e)] rfl
 simp only [setAll, List.set_cons_zero, List.set_cons_succ] at hP
 generalize hput1 : (((((x6.setCell ⟨w.heap.size, 0, none⟩ (.int .u64 ((zl p : Nat) : Int))).setCell ⟨w.heap.size, 1, none⟩ (.string (zh p))).setCell ⟨w.heap.size, 2, none⟩ (.bool (zs p))).setCell ⟨w.heap.size, 3, none⟩ (.int .u64 ((lo e : Nat) : Int))).setCell ⟨w.heap.size, 4, none⟩ (.string (hs e))) = x7 at hP
 have hB1 := hP.fc
 simp only [fcG, cellsF, neK, and_true, ne_eq, Nat.zero_add, Nat.reduceAdd] at hB1
 replace hL0 := hP
 go_wp2_with fail
 exact bodyPost_ret (v := .tuple #[frV p e, .int .i64 c]) (by simp [results, Tryd.results59, go_sem, hB1]) rfl ⟨rfl, hL0.bl⟩
end Go.Proofs.YtfmakoiiibacjaaDoor
namespace Go.Proofs.YtfmakoiiibacjaaDoor
open Go.RowKit
attribute [local irreducible] lo hs sm s64 c64 d64 b64 mh ml pd pc qd qc val hiB str cmpI srD lz nb zl zh zs
set_option maxHeartbeats 4000000 in
set_option maxRecDepth 100000 in
theorem ffrom_w (n u z : Int) (d v f : Nat) (HO : RT 53 #[.int .u64 0] (natV 0)) (HC : RT 57 #[intV n, natV d] (.tuple #[intV u, natV v])) (HL : RT 58 #[intV u, natV v] (frV z f)) (hd : d ≠ 0) (w : World) :
  Calls Tryd.prog 49 #[intV n, natV d] w fun xe w' => xe = .returned (.tuple #[frV z f, .int .i64 0]) ∧ Below w.heap.size w w' := by
 have hL0 : GL w w [] := GL.start w
 replace HO := Lib.hid HO
 replace HC := Lib.hid HC
 replace HL := Lib.hid HL
 have hz := ne_nat hd
 clear hd
 rcases hz with e0 | ⟨e0, e1⟩
 all_goals (
  replace hL0 := (((hL0.new rfl [.int .u64 ((zl n : Nat) : Int), .string (zh n), .bool (zs n)] 47).new (K := w.heap.size + 1) (szA _ _) [.int .u64 ((lo d : Nat) : Int), .string (hs d)] 45).new (K := w.heap.size + 1 + 1) (by simp only [World.size_alloc]) [.int .u64 0, .string ⟨#[]⟩, .bool false, .int .u64 0, .string ⟨#[]⟩] 53)
  generalize hweq : (((w.alloc (.cells #[.int .u64 ((zl n : Nat) : Int), .string (zh n), .bool (zs n)] 47)).alloc (.cells #[.int .u64 ((lo d : Nat) : Int), .string (hs d)] 45)).alloc (.cells #[.int .u64 0, .string ⟨#[]⟩, .bool false, .int .u64 0, .string ⟨#[]⟩] 53)) = x1 at hL0
  go_enter Tryd.func49, Tryd.ntmps49
  go_upto_region 1 with fail
  clear hweq
  obtain ⟨α, iα, F, hF1, hF2⟩ := cls x1
  have hq0 := cls_box hF1 hL0 _ _ (List.mem_cons_of_mem _ List.mem_cons_self)
  simp only [cellsC, and_true, Nat.zero_add, Nat.reduceAdd] at hq0
  refine region_qs 3 (C := fun w' => ∃ x, w' = F x) (by kernel_rfl) (by kernel_rfl) (cls_drew hF2) ?_
  simp only [List.take_succ_cons, List.take_zero, List.drop_succ_cons, List.drop_zero, List.take_nil, List.drop_nil]
  repeat (go_big_quiet_step (first | fail | (go_at_call 53; with_reducible exact cls_call hF1 hF2 HO.out _)))
  refine wpQuiet_nil ?_
  rintro wq ⟨xq, rfl⟩
  replace hL0 := hL0.call (hF1 xq)
  clear  hq0 hF2
  generalize F xq = x2 at hL0 ⊢
  clear hF1 xq iα F α
  have hN0 := cells_of _ 0 [] rfl (hL0.get _ _ (List.mem_cons_of_mem _ List.mem_cons_self))
  simp only [cellsF, and_true, Nat.zero_add, Nat.reduceAdd] at hN0
  have hN1 := cells_of _ 0 [] rfl (hL0.get _ _ (List.mem_cons_of_mem _ (List.mem_cons_of_mem _ List.mem_cons_self)))
  simp only [cellsF, and_true, Nat.zero_add, Nat.reduceAdd] at hN1
  go_wp2_with fail
  clear hN0 hN1
  with_reducible refine Calls.mono (HC.out _) ?_
  rintro e x3 ⟨rfl, hb⟩
  replace hL0 := hL0.call hb
  clear hb
  go_wp2_with fail
  with_reducible refine Calls.mono (HL.out _) ?_
  rintro e x4 ⟨rfl, hb⟩
  replace hL0 := hL0.call hb
  clear hb
  have hA := hL0.fc
  simp only [fcG, cellsF, neK, and_true, ne_eq, Nat.zero_add, Nat.reduceAdd] at hA
  have hP := hL0.put 0 (w.heap.size + 1 + 1) _ rfl [.int .u64 ((zl z : Nat) : Int), .string (zh z), .bool (zs z), .int .u64 ((lo f : Nat) : Int), .string (hs f)] rfl
  simp only [setAll, List.set_cons_zero, List.set_cons_succ] at hP
  generalize hput1 : (((((x4.setCell ⟨w.heap.size + 1 + 1, 0, none⟩ (.int .u64 ((zl z : Nat) : Int))).setCell ⟨w.heap.size + 1 + 1, 1, none⟩ (.string (zh z))).setCell ⟨w.heap.size + 1 + 1, 2, none⟩ (.bool (zs z))).setCell ⟨w.heap.size + 1 + 1, 3, none⟩ (.int .u64 ((lo f : Nat) : Int))).setCell ⟨w.heap.size + 1 + 1, 4, none⟩ (.string (hs f))) = x5 at hP
  have hB1 := hP.fc
  simp only [fcG, cellsF, neK, and_true, ne_eq, Nat.zero_add, Nat.reduceAdd] at hB1
  replace hL0 := hP
  go_wp2_with fail
  exact bodyPost_ret (v := .tuple #[frV z f, .int .i64 0]) (by simp [results, Tryd.results49, go_sem, hB1]) rfl ⟨rfl, hL0.bl⟩)
end Go.Proofs.YtfmakoiiibacjaaDoor
namespace Go.Proofs.YtfmakoiiibacjaaDoor
open Go.RowKit
attribute [local irreducible] lo hs sm s64 c64 d64 b64 mh ml pd pc qd qc val hiB str cmpI srD lz nb zl zh zs
theorem fe_den (q : Rat) : q.den = if fe q = 0 then 1 else fe q := by
 unfold fe
 have := q.den_nz
 split <;> simp_all
theorem frV_z (n : Int) : frV n 0 = .agg #[.int .u64 ((zl n : Nat) : Int), .string (zh n), .bool (zs n), .int .u64 0, .string ⟨#[]⟩] := by unfold frV; rw [lo_small Bs_pos, hs_small Bs_pos]; rfl
theorem fracV_of {q : Rat} {n : Int} {d : Nat} (hn : q.num = n) (hd : q.den = d) : fracV q = frV n (if d = 1 then 0 else d) := by subst hn hd; rfl
theorem one_o (w : World) : Calls Tryd.prog 53 #[.int .u64 1] w fun e w' => e = .returned (natV 1) ∧ Below w.heap.size w w' := of_val 1 1 rfl (by unfold Bs; omega) w
theorem zero_o (w : World) : Calls Tryd.prog 53 #[.int .u64 0] w fun e w' => e = .returned (natV 0) ∧ Below w.heap.size w w' := of_val 0 0 rfl (by unfold Bs; omega) w
theorem dec_sgn (z : Int) : decide (sgn z < 0) = decide (z < 0) := by
 have : sgn z < 0 ↔ z < 0 := by unfold sgn; split <;> (try split) <;> omega
 simp only [this]
theorem den_raw (n : Int) (e : Nat) (w : World) : Calls Tryd.prog 54 #[frV n e] w fun x w' => x = .returned (natV (if e = 0 then 1 else e)) ∧ Below w.heap.size w w' := by
 by_cases h : e = 0
 ·subst h; rw [if_pos rfl]; exact den_one_w n (whole_yes n) one_o w
 ·rw [if_neg h]; exact den_part_w n e (whole_no n e h) w
theorem denF (q : Rat) (w : World) : Calls Tryd.prog 54 #[fracV q] w fun x w' => x = .returned (natV q.den) ∧ Below w.heap.size w w' := by
 have h := den_raw q.num (fe q) w
 rw [← fe_den] at h
 exact h
theorem numF (q : Rat) (w : World) : Calls Tryd.prog 55 #[fracV q] w fun x w' => x = .returned (intV q.num) ∧ Below w.heap.size w w' := num_w q.num (fe q) w
theorem lowest_raw (n : Int) (d : Nat) (w : World) : Calls Tryd.prog 58 #[intV n, natV d] w fun x w' => x = .returned (frV n (if d = 1 then 0 else d)) ∧ Below w.heap.size w w' := by
 by_cases h : d = 1
 ·subst h; rw [if_pos rfl, frV_z]; exact lowest_one n one_o w
 ·rw [if_neg h]; exact lowest_part n d one_o h w
theorem lowestF {q : Rat} {n : Int} {d : Nat} (hn : q.num = n) (hd : q.den = d) (w : World) : Calls Tryd.prog 58 #[intV n, natV d] w fun x w' => x = .returned (fracV q) ∧ Below w.heap.size w w' := by
 rw [fracV_of hn hd]; exact lowest_raw n d w
theorem pon_raw (n g : Nat) (hg : g ≠ 0) (hn : (digs n).length ≤ 100000000) (w : World) : Calls Tryd.prog 79 #[natV n, natV g] w fun x w' => x = .returned (natV (n / g)) ∧ Below w.heap.size w w' := by
 by_cases h : g = 1
 ·subst h; rw [Nat.div_one]; exact pon_one n one_o w
 ·exact pon_div n g (n / g) (n % g) one_o (fun w => div_pos n g (by omega) (by omega) w) h w
theorem tdiv_sgn (z : Int) (g : Nat) : z.tdiv (g : Int) = if decide (z < 0) then -((z.natAbs / g : Nat) : Int) else ((z.natAbs / g : Nat) : Int) := by
 by_cases h : z < 0
 ·obtain ⟨n, rfl⟩ : ∃ n : Nat, z = -(n : Int) := ⟨z.natAbs, by omega⟩
  rw [decide_eq_true h, if_pos rfl, Int.natAbs_neg, Int.natAbs_natCast, Int.neg_tdiv, ← Int.ofNat_tdiv]
 ·obtain ⟨n, rfl⟩ : ∃ n : Nat, z = (n : Int) := ⟨z.natAbs, by omega⟩
  rw [decide_eq_false h, Int.natAbs_natCast, ← Int.ofNat_tdiv]; rfl
theorem part_raw (z : Int) (g : Nat) (hg : g ≠ 0) (hz : dI z ≤ 100000000) (w : World) : Calls Tryd.prog 81 #[intV z, natV g] w fun x w' => x = .returned (intV (z.tdiv g)) ∧ Below w.heap.size w w' := by
 have hF := fun w => fromI (decide (z < 0)) (z.natAbs / g) (z.tdiv g) (tdiv_sgn z g) w
 have hs := dec_sgn z
 by_cases h : z < 0
 ·rw [decide_eq_true h] at hF hs
  exact part_true z (sgn z) _ _ g _ (signI z) (absI z) (pon_raw _ g hg hz) hF hs w
 ·rw [decide_eq_false h] at hF hs
  exact part_false z (sgn z) _ _ g _ (signI z) (absI z) (pon_raw _ g hg hz) hF hs w
theorem cancel_raw (z : Int) (d : Nat) (hd : d ≠ 0) (hz : dI z ≤ 100000000) (hl : (digs d).length ≤ 100000000) (w : World) :
  Calls Tryd.prog 57 #[intV z, natV d] w fun x w' => x = .returned (.tuple #[intV (z.tdiv (Nat.gcd z.natAbs d : Nat)), natV (d / Nat.gcd z.natAbs d)]) ∧ Below w.heap.size w w' := by
 have hg : Nat.gcd z.natAbs d ≠ 0 := fun e => hd (Nat.gcd_eq_zero_iff.1 e).2
 exact cancel_w z _ _ d _ _ (absI z) (fun w => gcd_any z.natAbs d (Nat.le_trans hz (by omega)) (by omega) w) (part_raw z _ hg hz) (pon_raw d _ hg hl) w
theorem fromF (z : Int) (d : Nat) (hd : d ≠ 0) (hz : dI z ≤ 100000000) (hl : (digs d).length ≤ 100000000) (w : World) : Calls Tryd.prog 49 #[intV z, natV d] w fun x w' => x = .returned (.tuple #[fracV (mkRat z d), .int .i64 0]) ∧ Below w.heap.size w w' := by
 obtain ⟨h1, h2⟩ := canc (z := z) hd
 exact ffrom_w z _ _ d _ _ zero_o (cancel_raw z d hd hz hl) (fun w => lowestF h1 h2 w) hd w
end Go.Proofs.YtfmakoiiibacjaaDoor
namespace Go.Proofs.YtfmakoiiibacjaaDoor
open Go.RowKit
attribute [local irreducible] lo hs sm s64 c64 d64 b64 mh ml pd pc qd qc val hiB str cmpI srD lz nb zl zh zs
theorem of_val_q (n d : Int) (h0 : d ≠ 0) : mkRat (if d < 0 then -n else n) d.natAbs = (n : Rat) / (d : Rat) := by
 rw [Rat.mkRat_eq_div]
 by_cases h : d < 0
 ·rw [if_pos h]
  have e : ((d.natAbs : Nat) : Rat) = -(d : Rat) := by
   rw [show ((d.natAbs : Nat) : Rat) = (((d.natAbs : Nat) : Int) : Rat) from (Rat.intCast_natCast _).symm, show ((d.natAbs : Nat) : Int) = -d by omega, Rat.intCast_neg]
  rw [e, Rat.intCast_neg]
  have hd : (d : Rat) ≠ 0 := by simpa using h0
  grind
 ·rw [if_neg h, show ((d.natAbs : Nat) : Rat) = (((d.natAbs : Nat) : Int) : Rat) from (Rat.intCast_natCast _).symm, show ((d.natAbs : Nat) : Int) = d by omega]
theorem i64_dI {z : Int} (h1 : -9223372036854775808 ≤ z) (h2 : z < 9223372036854775808) : dI z ≤ 1 := digs_length_iff.2 (by unfold Bs; omega)
theorem ofF (n d : Int) (a1 : -9223372036854775808 ≤ n) (a2 : n < 9223372036854775808) (b1 : -9223372036854775808 ≤ d) (b2 : d < 9223372036854775808) (h0 : d ≠ 0) (w : World) :
  Calls Tryd.prog 59 #[.int .i64 n, .int .i64 d] w fun x w' => x = .returned (.tuple #[fracV ((n : Rat) / (d : Rat)), .int .i64 0]) ∧ Below w.heap.size w w' := by
 rw [← of_val_q n d h0]
 have hs := dec_sgn d
 have ln := i64_dI a1 a2
 have ld : (digs d.natAbs).length ≤ 1 := i64_dI b1 b2
 by_cases h : d < 0
 ·rw [decide_eq_true h] at hs
  rw [if_pos h]
  exact fof_true n d (sgn d) (-n) _ n d _ _ 0 (fun w => ofI n a1 a2 w) (fun w => ofI d b1 b2 w) (signI d) (fun w => negI n w) (absI d) (fromF (-n) d.natAbs (by omega) (by rw [dI_neg]; omega) (by omega)) hs w
 ·rw [decide_eq_false h] at hs
  rw [if_neg h]
  exact fof_false n d (sgn d) n _ n d _ _ 0 (fun w => ofI n a1 a2 w) (fun w => ofI d b1 b2 w) (signI d) (absI d) (fromF n d.natAbs (by omega) (by omega) (by omega)) hs w
end Go.Proofs.YtfmakoiiibacjaaDoor
namespace Go.Proofs.YtfmakoiiibacjaaDoor
open Go.RowKit
attribute [local irreducible] lo hs sm s64 c64 d64 b64 mh ml pd pc qd qc val hiB str cmpI srD lz nb zl zh zs rsd subN invV invB
set_option maxHeartbeats 4000000 in
set_option maxRecDepth 100000 in
theorem ofint_w (z y q r p k : Int) (b c : Bool) (HO : ∀ w, Calls Tryd.prog 35 #[.int .i64 p] w fun xe w' => xe = .returned (intV y) ∧ Below w.heap.size w w') (HD : ∀ w, Calls Tryd.prog 43 #[intV z, intV y] w fun xe w' => xe = .returned (.tuple #[intV q, intV r, .bool b]) ∧ Below w.heap.size w w') (HI : ∀ w, Calls Tryd.prog 44 #[intV r] w fun xe w' => xe = .returned (.tuple #[.int .i64 k, .bool c]) ∧ Below w.heap.size w w') (hw1 : IntKind.i64.wrap p = p) (hw2 : IntKind.u32.wrap k = k) (w : World) :
  Calls Tryd.prog 24 #[intV z, .int .u32 p] w fun xe w' => xe = .returned (.int .u32 k) ∧ Below w.heap.size w w' := by
 have hL0 : GL w w [] := GL.start w
 replace HO := Lib.hid HO
 replace HD := Lib.hid HD
 replace HI := Lib.hid HI
 replace hL0 := (hL0.new rfl [.int .u64 ((zl z : Nat) : Int), .string (zh z), .bool (zs z)] 47)
 generalize hweq : (w.alloc (.cells #[.int .u64 ((zl z : Nat) : Int), .string (zh z), .bool (zs z)] 47)) = x1 at hL0
 go_enter Tryd.func24, Tryd.ntmps24
 go_upto_region 1 with fail
 clear hweq
 refine region_gh (by kernel_rfl) (by kernel_rfl) ?_
 refine lex_seg (gl := []) 9 (by kernel_rfl) ?_
 intro α iα F hF1 hF2
 have hq := GL.seg hF1 hL0
 simp only [fcC, cellsC, and_true, Nat.zero_add, Nat.reduceAdd] at hq
 simp only [List.take_succ_cons, List.take_zero, List.drop_succ_cons, List.drop_zero, List.take_nil, List.drop_nil]
 repeat (go_big_quiet_step (first | fail | (go_at_call 35; with_reducible exact seg_call hF2 HO.out _) | (go_at_call 43; with_reducible exact seg_call hF2 HD.out _)))
 refine wpQuiet_nil ?_
 clear hq hF1 hF2 iα F α
 refine lex_new [.int .u64 0, .string ⟨#[]⟩, .bool false] 5 47 47 rfl rfl (of_decide_eq_true (by kernel_rfl)) (by kernel_rfl) rfl new_int ?_
 simp only [Act.put, List.setIfInBounds_toArray, List.set_cons_succ, List.set_cons_zero]
 refine lex_new [.int .u64 0, .string ⟨#[]⟩, .bool false] 6 47 47 rfl rfl (of_decide_eq_true (by kernel_rfl)) (by kernel_rfl) rfl new_int ?_
 simp only [Act.put, List.setIfInBounds_toArray, List.set_cons_succ, List.set_cons_zero]
 refine lex_put [.int .u64 ((zl q : Nat) : Int), .string (zh q), .bool (zs q)] [.int .u64 0, .string ⟨#[]⟩, .bool false] 5 47 (.tmp 16) rfl (by kernel_rfl) (by simp [toG, upd]) rfl (fun w k h => put_int _ _ _ _ _ _ w k h) ?_
 simp only [Act.put]
 refine lex_put [.int .u64 ((zl r : Nat) : Int), .string (zh r), .bool (zs r)] [.int .u64 0, .string ⟨#[]⟩, .bool false] 6 47 (.tmp 17) rfl (by kernel_rfl) (by simp [toG, upd]) rfl (fun w k h => put_int _ _ _ _ _ _ w k h) ?_
 simp only [Act.put]
 refine lex_seg (gl := [(6, [.int .u64 ((zl r : Nat) : Int), .string (zh r), .bool (zs r)], true), (5, [.int .u64 ((zl q : Nat) : Int), .string (zh q), .bool (zs q)], true), (6, [.int .u64 0, .string ⟨#[]⟩, .bool false], false), (5, [.int .u64 0, .string ⟨#[]⟩, .bool false], false)]) 1 (by kernel_rfl) ?_
 intro α iα F hF1 hF2
 have hq := GL.seg hF1 hL0
 simp only [fcC, cellsC, and_true, Nat.zero_add, Nat.reduceAdd] at hq
 simp only [List.take_succ_cons, List.take_zero, List.drop_succ_cons, List.drop_zero, List.take_nil, List.drop_nil]
 repeat (go_big_quiet_step (first | fail | (go_at_call 35; with_reducible exact seg_call hF2 HO.out _) | (go_at_call 43; with_reducible exact seg_call hF2 HD.out _)))
 refine wpQuiet_nil ?_
 clear hq hF1 hF2 iα F α
 refine lexG_nil ?_
 intro κ x2 hS
 replace hL0 := hL0.ghs hS [(6, [.int .u64 ((zl r : Nat) : Int), .string (zh r), .bool (zs r)]), (5, [.int .u64 ((zl q : Nat) : Int), .string (zh q), .bool (zs q)])] (by simp) (by intro p hp; simp only [List.mem_cons, List.not_mem_nil, or_false] at hp; rcases hp with rfl | rfl <;> exact ⟨_, by simp only [toG, upd]; rfl⟩)
 simp only [List.map_cons, List.map_nil, List.cons_append, List.nil_append] at hL0
 simp only [over_toG, over_nil, Act.put, List.setIfInBounds_toArray, List.set_cons_succ, List.set_cons_zero]
 clear hS
 generalize κ 6 = k2_6 at *
 generalize κ 5 = k2_5 at *
 have hN0 := cells_of _ 0 [] rfl (hL0.get _ _ List.mem_cons_self)
 simp only [cellsF, and_true, Nat.zero_add, Nat.reduceAdd] at hN0
 go_wp2_with fail
 clear hN0
 with_reducible refine Calls.mono (HI.out _) ?_
 rintro e x3 ⟨rfl, hb⟩
 replace hL0 := hL0.call hb
 clear hb
 go_wp2_with fail
 exact bodyPost_ret (v := .int .u32 k) (by simp [results, Tryd.results24, go_sem]) rfl ⟨rfl, hL0.bl⟩
set_option maxHeartbeats 4000000 in
set_option maxRecDepth 100000 in
theorem offrac_no (n y p r v : Int) (e d : Nat) (HD : ∀ w, Calls Tryd.prog 54 #[frV n e] w fun xe w' => xe = .returned (natV d) ∧ Below w.heap.size w w') (HF : ∀ w, Calls Tryd.prog 41 #[.bool false, natV d] w fun xe w' => xe = .returned (intV y) ∧ Below w.heap.size w w') (HO : ∀ w, Calls Tryd.prog 24 #[intV y, .int .u32 p] w fun xe w' => xe = .returned (.int .u32 r) ∧ Below w.heap.size w w') (HI : ∀ w, Calls Tryd.prog 13 #[.int .u32 r, .int .u32 p] w fun xe w' => xe = .returned (.tuple #[.int .u32 v, .bool false]) ∧ Below w.heap.size w w') (w : World) :
  Calls Tryd.prog 29 #[frV n e, .int .u32 p] w fun xe w' => xe = .returned (.tuple #[.int .u32 0, .bool false]) ∧ Below w.heap.size w w' := by
 have hL0 : GL w w [] := GL.start w
 replace HD := Lib.hid HD
 replace HF := Lib.hid HF
 replace HO := Lib.hid HO
 replace HI := Lib.hid HI
 replace hL0 := (hL0.new rfl [.int .u64 ((zl n : Nat) : Int), .string (zh n), .bool (zs n), .int .u64 ((lo e : Nat) : Int), .string (hs e)] 53)
 generalize hweq : (w.alloc (.cells #[.int .u64 ((zl n : Nat) : Int), .string (zh n), .bool (zs n), .int .u64 ((lo e : Nat) : Int), .string (hs e)] 53)) = x1 at hL0
 go_enter Tryd.func29, Tryd.ntmps29
 have hN0 := cells_of _ 0 [] rfl (hL0.get _ _ List.mem_cons_self)
 simp only [cellsF, and_true, Nat.zero_add, Nat.reduceAdd] at hN0
 go_wp2_with fail
 clear hN0
 with_reducible refine Calls.mono (HD.out _) ?_
 rintro e x2 ⟨rfl, hb⟩
 replace hL0 := hL0.call hb
 clear hb hweq
 go_wp2_with fail
 with_reducible refine Calls.mono (HF.out _) ?_
 rintro e x3 ⟨rfl, hb⟩
 replace hL0 := hL0.call hb
 clear hb
 go_wp2_with fail
 with_reducible refine Calls.mono (HO.out _) ?_
 rintro e x4 ⟨rfl, hb⟩
 replace hL0 := hL0.call hb
 clear hb
 go_wp2_with fail
 with_reducible refine Calls.mono (HI.out _) ?_
 rintro e x5 ⟨rfl, hb⟩
 replace hL0 := hL0.call hb
 clear hb
 go_wp2_with fail
 exact bodyPost_ret (v := .tuple #[.int .u32 0, .bool false]) (by simp [results, Tryd.results29, go_sem]) rfl ⟨rfl, hL0.bl⟩
set_option maxHeartbeats 4000000 in
set_option maxRecDepth 100000 in
theorem offrac_yes (n y p r v s t : Int) (e d : Nat) (HD : ∀ w, Calls Tryd.prog 54 #[frV n e] w fun xe w' => xe = .returned (natV d) ∧ Below w.heap.size w w') (HF : ∀ w, Calls Tryd.prog 41 #[.bool false, natV d] w fun xe w' => xe = .returned (intV y) ∧ Below w.heap.size w w') (HO : ∀ w, Calls Tryd.prog 24 #[intV y, .int .u32 p] w fun xe w' => xe = .returned (.int .u32 r) ∧ Below w.heap.size w w') (HI : ∀ w, Calls Tryd.prog 13 #[.int .u32 r, .int .u32 p] w fun xe w' => xe = .returned (.tuple #[.int .u32 v, .bool true]) ∧ Below w.heap.size w w') (HN : ∀ w, Calls Tryd.prog 55 #[frV n e] w fun xe w' => xe = .returned (intV n) ∧ Below w.heap.size w w') (HP : ∀ w, Calls Tryd.prog 24 #[intV n, .int .u32 p] w fun xe w' => xe = .returned (.int .u32 s) ∧ Below w.heap.size w w') (HM : ∀ w, Calls Tryd.prog 19 #[.int .u32 s, .int .u32 v, .int .u32 p] w fun xe w' => xe = .returned (.int .u32 t) ∧ Below w.heap.size w w') (w : World) :
  Calls Tryd.prog 29 #[frV n e, .int .u32 p] w fun xe w' => xe = .returned (.tuple #[.int .u32 t, .bool true]) ∧ Below w.heap.size w w' := by
 have hL0 : GL w w [] := GL.start w
 replace HD := Lib.hid HD
 replace HF := Lib.hid HF
 replace HO := Lib.hid HO
 replace HI := Lib.hid HI
 replace HN := Lib.hid HN
 replace HP := Lib.hid HP
 replace HM := Lib.hid HM
 replace hL0 := (hL0.new rfl [.int .u64 ((zl n : Nat) : Int), .string (zh n), .bool (zs n), .int .u64 ((lo e : Nat) : Int), .string (hs e)] 53)
 generalize hweq : (w.alloc (.cells #[.int .u64 ((zl n : Nat) : Int), .string (zh n), .bool (zs n), .int .u64 ((lo e : Nat) : Int), .string (hs e)] 53)) = x1 at hL0
 go_enter Tryd.func29, Tryd.ntmps29
 have hN0 := cells_of _ 0 [] rfl (hL0.get _ _ List.mem_cons_self)
 simp only [cellsF, and_true, Nat.zero_add, Nat.reduceAdd] at hN0
 go_wp2_with fail
 clear hN0
 with_reducible refine Calls.mono (HD.out _) ?_
 rintro e x2 ⟨rfl, hb⟩
 replace hL0 := hL0.call hb
 clear hb hweq
 go_wp2_with fail
 with_reducible refine Calls.mono (HF.out _) ?_
 rintro e x3 ⟨rfl, hb⟩
 replace hL0 := hL0.call hb
 clear hb
 go_wp2_with fail
 with_reducible refine Calls.mono (HO.out _) ?_
 rintro e x4 ⟨rfl, hb⟩
 replace hL0 := hL0.call hb
 clear hb
 go_wp2_with fail
 with_reducible refine Calls.mono (HI.out _) ?_
 rintro e x5 ⟨rfl, hb⟩
 replace hL0 := hL0.call hb
 clear hb
 have hN0 := cells_of _ 0 [] rfl (hL0.get _ _ List.mem_cons_self)
 simp only [cellsF, and_true, Nat.zero_add, Nat.reduceAdd] at hN0
 go_wp2_with fail
 clear hN0
 with_reducible refine Calls.mono (HN.out _) ?_
 rintro e x6 ⟨rfl, hb⟩
 replace hL0 := hL0.call hb
 clear hb
 go_wp2_with fail
 with_reducible refine Calls.mono (HP.out _) ?_
 rintro e x7 ⟨rfl, hb⟩
 replace hL0 := hL0.call hb
 clear hb
 go_wp2_with fail
 with_reducible refine Calls.mono (HM.out _) ?_
 rintro e x8 ⟨rfl, hb⟩
 replace hL0 := hL0.call hb
 clear hb
 go_wp2_with fail
 exact bodyPost_ret (v := .tuple #[.int .u32 t, .bool true]) (by simp [results, Tryd.results29, go_sem]) rfl ⟨rfl, hL0.bl⟩
set_option maxHeartbeats 4000000 in
set_option maxRecDepth 100000 in
theorem mof_w (i j c x : Int) (e : Nat) (HF : ∀ w, Calls Tryd.prog 59 #[.int .i64 i, .int .i64 j] w fun xe w' => xe = .returned (.tuple #[frV x e, .int .i64 c]) ∧ Below w.heap.size w w') (w : World) :
  Calls Tryd.prog 34 #[.int .i64 i, .int .i64 j] w fun xe w' => xe = .returned (frV x e) ∧ Below w.heap.size w w' := by
 have hL0 : GL w w [] := GL.start w
 replace HF := Lib.hid HF
 replace hL0 := (hL0.new rfl [.int .u64 0, .string ⟨#[]⟩, .bool false, .int .u64 0, .string ⟨#[]⟩] 53)
 generalize hweq : (w.alloc (.cells #[.int .u64 0, .string ⟨#[]⟩, .bool false, .int .u64 0, .string ⟨#[]⟩] 53)) = x1 at hL0
 go_enter Tryd.func34, Tryd.ntmps34
 go_wp2_with fail
 with_reducible refine Calls.mono (HF.out _) ?_
 rintro e x2 ⟨rfl, hb⟩
 replace hL0 := hL0.call hb
 clear hb hweq
 replace hL0 := (hL0.new rfl [.int .u64 ((zl x : Nat) : Int), .string (zh x), .bool (zs x), .int .u64 ((lo e : Nat) : Int), .string (hs e)] 53)
 generalize hweq : (x2.alloc (.cells #[.int .u64 ((zl x : Nat) : Int), .string (zh x), .bool (zs x), .int .u64 ((lo e : Nat) : Int), .string (hs e)] 53)) = x3 at hL0
 have hA := hL0.fc
 simp only [fcG, cellsF, neK, and_true, ne_eq, Nat.zero_add, Nat.reduceAdd] at hA
 have hP := hL0.put 1 (w.heap.size) _ rfl [.int .u64 ((zl x : Nat) : Int), .string (zh x), .bool (zs x), .int .u64 ((lo e : Nat) : Int), .string (hs e)] rfl
 simp only [setAll, List.set_cons_zero, List.set_cons_succ] at hP
 generalize hput1 : (((((x3.setCell ⟨w.heap.size, 0, none⟩ (.int .u64 ((zl x : Nat) : Int))).setCell ⟨w.heap.size, 1, none⟩ (.string (zh x))).setCell ⟨w.heap.size, 2, none⟩ (.bool (zs x))).setCell ⟨w.heap.size, 3, none⟩ (.int .u64 ((lo e : Nat) : Int))).setCell ⟨w.heap.size, 4, none⟩ (.string (hs e))) = x4 at hP
 have hB1 := hP.fc
 simp only [fcG, cellsF, neK, and_true, ne_eq, Nat.zero_add, Nat.reduceAdd] at hB1
 replace hL0 := hP
 go_wp2_with fail
 exact bodyPost_ret (v := .agg #[.int .u64 ((zl x : Nat) : Int), .string (zh x), .bool (zs x), .int .u64 ((lo e : Nat) : Int), .string (hs e)]) (by simp [results, Tryd.results34, go_sem, hB1]) rfl ⟨rfl, hL0.bl⟩
set_option maxHeartbeats 4000000 in
set_option maxRecDepth 100000 in
theorem mworks_w (a b c z : Int) (i j k : Nat) (KT : World → Prop) (hKT : Keeps KT) (N0 : ∀ w, KT w → Calls Tryd.prog 8 #[.int .u32 0] w fun xe w' => xe = .returned (.tuple #[.int .u32 2, .int .i64 0]) ∧ Below w.heap.size w w') (N2 : ∀ w, KT w → Calls Tryd.prog 8 #[.int .u32 2] w fun xe w' => xe = .returned (.tuple #[.int .u32 3, .int .i64 0]) ∧ Below w.heap.size w w') (N6 : ∀ w, KT w → Calls Tryd.prog 8 #[.int .u32 2147483646] w fun xe w' => xe = .returned (.tuple #[.int .u32 2147483647, .int .i64 0]) ∧ Below w.heap.size w w') (N7 : ∀ w, KT w → Calls Tryd.prog 8 #[.int .u32 2147483647] w fun xe w' => xe = .returned (.tuple #[.int .u32 0, .int .i64 3]) ∧ Below w.heap.size w w') (P2 : ∀ w, KT w → Calls Tryd.prog 10 #[.int .u32 2] w fun xe w' => xe = .returned (.bool true) ∧ Below w.heap.size w w') (P1 : ∀ w, KT w → Calls Tryd.prog 10 #[.int .u32 1] w fun xe w' => xe = .returned (.bool false) ∧ Below w.heap.size w w') (P5 : ∀ w, KT w → Calls Tryd.prog 10 #[.int .u32 561] w fun xe w' => xe = .returned (.bool false) ∧ Below w.heap.size w w') (P7 : ∀ w, KT w → Calls Tryd.prog 10 #[.int .u32 2147483647] w fun xe w' => xe = .returned (.bool true) ∧ Below w.heap.size w w') (P9 : ∀ w, KT w → Calls Tryd.prog 10 #[.int .u32 4294967291] w fun xe w' => xe = .returned (.bool true) ∧ Below w.heap.size w w') (I3 : ∀ w, Calls Tryd.prog 13 #[.int .u32 3, .int .u32 7] w fun xe w' => xe = .returned (.tuple #[.int .u32 5, .bool true]) ∧ Below w.heap.size w w') (I2 : ∀ w, Calls Tryd.prog 13 #[.int .u32 2, .int .u32 4] w fun xe w' => xe = .returned (.tuple #[.int .u32 0, .bool false]) ∧ Below w.heap.size w w') (I0 : ∀ w, Calls Tryd.prog 13 #[.int .u32 0, .int .u32 1] w fun xe w' => xe = .returned (.tuple #[.int .u32 0, .bool true]) ∧ Below w.heap.size w w') (I5 : ∀ w, Calls Tryd.prog 13 #[.int .u32 5, .int .u32 0] w fun xe w' => xe = .returned (.tuple #[.int .u32 0, .bool false]) ∧ Below w.heap.size w w') (HS : ∀ w, Calls Tryd.prog 17 #[.int .u32 3, .int .u32 5, .int .u32 7] w fun xe w' => xe = .returned (.int .u32 5) ∧ Below w.heap.size w w') (HM : ∀ w, Calls Tryd.prog 19 #[.int .u32 4294967295, .int .u32 4294967295, .int .u32 4294967291] w fun xe w' => xe = .returned (.int .u32 16) ∧ Below w.heap.size w w') (HP : ∀ w, Calls Tryd.prog 20 #[.int .u32 2, .int .u64 10, .int .u32 1000] w fun xe w' => xe = .returned (.int .u32 24) ∧ Below w.heap.size w w') (HQ : ∀ w, Calls Tryd.prog 20 #[.int .u32 0, .int .u64 0, .int .u32 5] w fun xe w' => xe = .returned (.int .u32 1) ∧ Below w.heap.size w w') (HA : ∀ w, Calls Tryd.prog 15 #[.int .u32 3, .int .u32 4, .int .u32 0] w fun xe w' => xe = .returned (.int .u32 0) ∧ Below w.heap.size w w') (F1 : ∀ w, Calls Tryd.prog 34 #[.int .i64 1, .int .i64 2] w fun xe w' => xe = .returned (frV a i) ∧ Below w.heap.size w w') (F2 : ∀ w, Calls Tryd.prog 34 #[.int .i64 1, .int .i64 7] w fun xe w' => xe = .returned (frV b j) ∧ Below w.heap.size w w') (F3 : ∀ w, Calls Tryd.prog 34 #[.int .i64 7, .int .i64 2] w fun xe w' => xe = .returned (frV c k) ∧ Below w.heap.size w w') (G1 : ∀ w, Calls Tryd.prog 29 #[frV a i, .int .u32 7] w fun xe w' => xe = .returned (.tuple #[.int .u32 4, .bool true]) ∧ Below w.heap.size w w') (G2 : ∀ w, Calls Tryd.prog 29 #[frV b j, .int .u32 7] w fun xe w' => xe = .returned (.tuple #[.int .u32 0, .bool false]) ∧ Below w.heap.size w w') (G3 : ∀ w, Calls Tryd.prog 29 #[frV c k, .int .u32 7] w fun xe w' => xe = .returned (.tuple #[.int .u32 0, .bool true]) ∧ Below w.heap.size w w') (HO : ∀ w, Calls Tryd.prog 35 #[.int .i64 (-1)] w fun xe w' => xe = .returned (intV z) ∧ Below w.heap.size w w') (HI : ∀ w, Calls Tryd.prog 24 #[intV z, .int .u32 7] w fun xe w' => xe = .returned (.int .u32 6) ∧ Below w.heap.size w w') (w : World) (kKT : KT w) :
  Calls Tryd.prog 12 #[] w fun xe w' => xe = .returned (.bool true) ∧ Below w.heap.size w w' := by
 have hL0 : GL w w [] := GL.start w
 replace hKT := Lib.hid hKT
 replace N0 := Lib.hid N0
 replace N2 := Lib.hid N2
 replace N6 := Lib.hid N6
 replace N7 := Lib.hid N7
 replace P2 := Lib.hid P2
 replace P1 := Lib.hid P1
 replace P5 := Lib.hid P5
 replace P7 := Lib.hid P7
 replace P9 := Lib.hid P9
 replace I3 := Lib.hid I3
 replace I2 := Lib.hid I2
 replace I0 := Lib.hid I0
 replace I5 := Lib.hid I5
 replace HS := Lib.hid HS
 replace HM := Lib.hid HM
 replace HP := Lib.hid HP
 replace HQ := Lib.hid HQ
 replace HA := Lib.hid HA
 replace F1 := Lib.hid F1
 replace F2 := Lib.hid F2
 replace F3 := Lib.hid F3
 replace G1 := Lib.hid G1
 replace G2 := Lib.hid G2
 replace G3 := Lib.hid G3
 replace HO := Lib.hid HO
 replace HI := Lib.hid HI
 go_enter Tryd.func12, Tryd.ntmps12
 go_wp2_with fail
 with_reducible refine Calls.mono (N0.out _ (hKT.out.at hL0.bl kKT)) ?_
 rintro e x1 ⟨rfl, hb⟩
 replace hL0 := hL0.call hb
 clear hb
 go_wp2_with fail
 with_reducible refine Calls.mono (N2.out _ (hKT.out.at hL0.bl kKT)) ?_
 rintro e x2 ⟨rfl, hb⟩
 replace hL0 := hL0.call hb
 clear hb
 go_wp2_with fail
 with_reducible refine Calls.mono (N6.out _ (hKT.out.at hL0.bl kKT)) ?_
 rintro e x3 ⟨rfl, hb⟩
 replace hL0 := hL0.call hb
 clear hb
 go_wp2_with fail
 with_reducible refine Calls.mono (N7.out _ (hKT.out.at hL0.bl kKT)) ?_
 rintro e x4 ⟨rfl, hb⟩
 replace hL0 := hL0.call hb
 clear hb
 go_wp2_with fail
 with_reducible refine Calls.mono (P2.out _ (hKT.out.at hL0.bl kKT)) ?_
 rintro e x5 ⟨rfl, hb⟩
 replace hL0 := hL0.call hb
 clear hb
 go_wp2_with fail
 with_reducible refine Calls.mono (P1.out _ (hKT.out.at hL0.bl kKT)) ?_
 rintro e x6 ⟨rfl, hb⟩
 replace hL0 := hL0.call hb
 clear hb
 go_wp2_with fail
 with_reducible refine Calls.mono (P5.out _ (hKT.out.at hL0.bl kKT)) ?_
 rintro e x7 ⟨rfl, hb⟩
 replace hL0 := hL0.call hb
 clear hb
 go_wp2_with fail
 with_reducible refine Calls.mono (P7.out _ (hKT.out.at hL0.bl kKT)) ?_
 rintro e x8 ⟨rfl, hb⟩
 replace hL0 := hL0.call hb
 clear hb
 go_wp2_with fail
 with_reducible refine Calls.mono (P9.out _ (hKT.out.at hL0.bl kKT)) ?_
 rintro e x9 ⟨rfl, hb⟩
 replace hL0 := hL0.call hb
 clear hb
 go_wp2_with fail
 with_reducible refine Calls.mono (I3.out _) ?_
 rintro e x10 ⟨rfl, hb⟩
 replace hL0 := hL0.call hb
 clear hb
 go_wp2_with fail
 with_reducible refine Calls.mono (I2.out _) ?_
 rintro e x11 ⟨rfl, hb⟩
 replace hL0 := hL0.call hb
 clear hb
 go_wp2_with fail
 with_reducible refine Calls.mono (I0.out _) ?_
 rintro e x12 ⟨rfl, hb⟩
 replace hL0 := hL0.call hb
 clear hb
 go_wp2_with fail
 with_reducible refine Calls.mono (I5.out _) ?_
 rintro e x13 ⟨rfl, hb⟩
 replace hL0 := hL0.call hb
 clear hb
 go_wp2_with fail
 with_reducible refine Calls.mono (HS.out _) ?_
 rintro e x14 ⟨rfl, hb⟩
 replace hL0 := hL0.call hb
 clear hb
 go_wp2_with fail
 with_reducible refine Calls.mono (HM.out _) ?_
 rintro e x15 ⟨rfl, hb⟩
 replace hL0 := hL0.call hb
 clear hb
 go_wp2_with fail
 with_reducible refine Calls.mono (HP.out _) ?_
 rintro e x16 ⟨rfl, hb⟩
 replace hL0 := hL0.call hb
 clear hb
 go_wp2_with fail
 with_reducible refine Calls.mono (HQ.out _) ?_
 rintro e x17 ⟨rfl, hb⟩
 replace hL0 := hL0.call hb
 clear hb
 go_wp2_with fail
 with_reducible refine Calls.mono (HA.out _) ?_
 rintro e x18 ⟨rfl, hb⟩
 replace hL0 := hL0.call hb
 clear hb
 go_wp2_with fail
 with_reducible refine Calls.mono (F1.out _) ?_
 rintro e x19 ⟨rfl, hb⟩
 replace hL0 := hL0.call hb
 clear hb
 go_wp2_with fail
 with_reducible refine Calls.mono (G1.out _) ?_
 rintro e x20 ⟨rfl, hb⟩
 replace hL0 := hL0.call hb
 clear hb
 go_wp2_with fail
 with_reducible refine Calls.mono (F2.out _) ?_
 rintro e x21 ⟨rfl, hb⟩
 replace hL0 := hL0.call hb
 clear hb
 go_wp2_with fail
 with_reducible refine Calls.mono (G2.out _) ?_
 rintro e x22 ⟨rfl, hb⟩
 replace hL0 := hL0.call hb
 clear hb
 go_wp2_with fail
 with_reducible refine Calls.mono (F3.out _) ?_
 rintro e x23 ⟨rfl, hb⟩
 replace hL0 := hL0.call hb
 clear hb
 go_wp2_with fail
 with_reducible refine Calls.mono (G3.out _) ?_
 rintro e x24 ⟨rfl, hb⟩
 replace hL0 := hL0.call hb
 clear hb
 go_wp2_with fail
 with_reducible refine Calls.mono (HO.out _) ?_
 rintro e x25 ⟨rfl, hb⟩
 replace hL0 := hL0.call hb
 clear hb
 go_wp2_with fail
 with_reducible refine Calls.mono (HI.out _) ?_
 rintro e x26 ⟨rfl, hb⟩
 replace hL0 := hL0.call hb
 clear hb
 go_wp2_with fail
 exact bodyPost_ret (v := .bool true) (by simp [results, Tryd.results12, go_sem]) rfl ⟨rfl, hL0.bl⟩
end Go.Proofs.YtfmakoiiibacjaaDoor
namespace Go.Proofs.YtfmakoiiibacjaaDoor
theorem pr_2 : isPr 2 := isPr_of (n := 0) (by decide) (by decide) (by decide +kernel)
theorem pr_3 : isPr 3 := isPr_of (n := 0) (by decide) (by decide) (by decide +kernel)
theorem pr_2147483647 : isPr 2147483647 := isPr_of (n := 46340) (by decide) (by decide) (by decide +kernel)
end Go.Proofs.YtfmakoiiibacjaaDoor
namespace Go.Proofs.YtfmakoiiibacjaaDoor
open Go.RowKit
/-- The residue of an integer modulo p; it is 0 modulo 0. -/
def rsz (z : Int) (p : Nat) : Nat := if p = 0 then 0 else (z % (p : Int)).toNat
theorem rsz_lt32 (z : Int) {p : Nat} (hp : p < 4294967296) : rsz z p < 4294967296 := by
 unfold rsz; split
 ·omega
 ·have := Int.emod_lt_of_pos z (show (0 : Int) < (p : Int) by omega); omega
theorem rsz_nat (n p : Nat) : rsz (n : Int) p = rsd n p := by
 unfold rsz rsd; split
 ·rfl
 ·rw [show (n : Int) % (p : Int) = ((n % p : Nat) : Int) by push_cast; rfl, Int.toNat_natCast]
theorem rsz_cast {z : Int} {p : Nat} (h : p ≠ 0) : ((rsz z p : Nat) : Int) = z % (p : Int) := by
 unfold rsz; rw [if_neg h]; exact Int.toNat_of_nonneg (Int.emod_nonneg z (by omega))
/-- Whether a fraction has a residue modulo p. -/
noncomputable def frB (q : Rat) (p : Nat) : Bool := invB q.den p
/-- The residue of a fraction modulo p; it is 0 if there is none. -/
noncomputable def frR (q : Rat) (p : Nat) : Nat := if frB q p = true then rsd (rsz q.num p * invV q.den p) p else 0
theorem inv_rsd (a p : Nat) : invV (rsd a p) p = invV a p ∧ invB (rsd a p) p = invB a p := by
 by_cases h0 : p = 0
 ·subst h0
  have h1 : IsInv (rsd a 0) 0 0 false := .inr ⟨rfl, rfl, .inl rfl⟩
  have h2 : IsInv a 0 0 false := .inr ⟨rfl, rfl, .inl rfl⟩
  rw [(inv_eq h1).1, (inv_eq h1).2, (inv_eq h2).1, (inv_eq h2).2]; exact ⟨rfl, rfl⟩
 ·refine inv_eq ?_
  have hm : ∀ v, rsd a p * v % p = a * v % p := fun v => by rw [rsd_pos h0, Nat.mod_mul_mod]
  have hg : Nat.gcd (rsd a p) p = Nat.gcd a p := by rw [rsd_pos h0, ← Nat.gcd_rec p a, Nat.gcd_comm]
  rcases inv_is a p with ⟨h, h1, h2⟩ | ⟨h, h1, h2⟩
  ·exact .inl ⟨h, h1, by rw [hm]; exact h2⟩
  ·exact .inr ⟨h, h1, by rw [hg]; exact h2⟩
theorem ofintM (z : Int) (p : Nat) (hz : dI z ≤ 1000000000) (hp : p < 4294967296) (w : World) :
  Calls Tryd.prog 24 #[intV z, .int .u32 (p : Int)] w fun x w' => x = .returned (.int .u32 ((rsz z p : Nat) : Int)) ∧ Below w.heap.size w w' := by
 have hO := fun w => ofI (p : Int) (by omega) (by omega) w
 have hw1 : IntKind.i64.wrap (p : Int) = (p : Int) := by simp [IntKind.wrap, IntKind.signed, IntKind.bits]; omega
 have hl := rsz_lt32 z hp
 have hw2 : IntKind.u32.wrap ((rsz z p : Nat) : Int) = ((rsz z p : Nat) : Int) := by simp [IntKind.wrap, IntKind.signed, IntKind.bits]; omega
 by_cases h0 : p = 0
 ·subst h0
  have e : rsz z 0 = 0 := rfl
  rw [e] at hw2 ⊢
  exact ofint_w z 0 0 0 0 0 false true hO (div0I z) (fun w => i64I 0 w) hw1 hw2 w
 ·have hn : 0 ≤ z % (p : Int) := Int.emod_nonneg z (by omega)
  have hl2 : z % (p : Int) < (p : Int) := Int.emod_lt_of_pos z (by omega)
  have hi : in64 (z % (p : Int)) = true := by unfold in64; rw [decide_eq_true_iff]; omega
  have hI := fun w => i64I (z % (p : Int)) w
  rw [hi, if_pos rfl, ← rsz_cast h0] at hI
  refine ofint_w z (p : Int) (z / (p : Int)) ((rsz z p : Nat) : Int) (p : Int) ((rsz z p : Nat) : Int) true true hO (fun w => ?_) hI hw1 hw2 w
  have := divI z (p : Int) (by omega) hz (Nat.le_trans (i64_dI (by omega) (by omega)) (by omega)) w
  rw [← rsz_cast h0] at this
  exact this
theorem offracM (q : Rat) (p k : Nat) (hq : Sz q k) (hk : k ≤ 1000000000) (hp : p < 4294967296) (w : World) :
  Calls Tryd.prog 29 #[fracV q, .int .u32 (p : Int)] w fun x w' => x = .returned (.tuple #[.int .u32 ((frR q p : Nat) : Int), .bool (frB q p)]) ∧ Below w.heap.size w w' := by
 have hD := fun w => denF q w
 have hF := fun w => fromI false q.den (q.den : Int) rfl w
 have hO := fun w => ofintM (q.den : Int) p (by rw [dI_nat]; exact Nat.le_trans hq.d hk) hp w
 rw [rsz_nat] at hO
 have hI := fun w => minv_any (rsd q.den p) p (rsd_lt32 _ hp) hp w
 rw [(inv_rsd q.den p).1, (inv_rsd q.den p).2] at hI
 by_cases hb : frB q p = true
 ·have hb2 : invB q.den p = true := hb
  rw [hb2] at hI
  have hR : frR q p = rsd (rsz q.num p * invV q.den p) p := by unfold frR; rw [if_pos hb]
  rw [hb, hR]
  exact offrac_yes q.num (q.den : Int) p ((rsd q.den p : Nat) : Int) ((invV q.den p : Nat) : Int) ((rsz q.num p : Nat) : Int) ((rsd (rsz q.num p * invV q.den p) p : Nat) : Int) (fe q) q.den hD hF hO hI (numF q) (fun w => ofintM q.num p (Nat.le_trans hq.n hk) hp w)
   (fun w => (mmul_any (rsz q.num p) (invV q.den p) p (rsz_lt32 _ hp) (inv_lt _ _ hp) hp w).mono fun e w' h => ⟨h.1, by rw [h.2]; exact Below.refl _ _⟩) w
 ·have hb2 : invB q.den p = false := by
   rcases hc : invB q.den p with _ | _
   ·rfl
   ·exact absurd hc hb
  rw [hb2] at hI
  have hR : frR q p = 0 := by unfold frR; rw [if_neg hb]
  have hb3 : frB q p = false := hb2
  rw [hb3, hR]
  exact offrac_no q.num (q.den : Int) p ((rsd q.den p : Nat) : Int) ((invV q.den p : Nat) : Int) (fe q) q.den hD hF hO hI w
theorem mofF (n d : Int) (a1 : -9223372036854775808 ≤ n) (a2 : n < 9223372036854775808) (b1 : -9223372036854775808 ≤ d) (b2 : d < 9223372036854775808) (h0 : d ≠ 0) (w : World) :
  Calls Tryd.prog 34 #[.int .i64 n, .int .i64 d] w fun x w' => x = .returned (fracV ((n : Rat) / (d : Rat))) ∧ Below w.heap.size w w' :=
 mof_w n d 0 _ _ (ofF n d a1 a2 b1 b2 h0) w
end Go.Proofs.YtfmakoiiibacjaaDoor
namespace Go.Proofs.YtfmakoiiibacjaaDoor
open Go.RowKit
theorem pr_4294967291 : isPr 4294967291 := pc_prime (by decide) (by decide) (by decide) (by decide +kernel)
theorem Keeps.t32 : Keeps T32 := fun _ _ hb h => h.below hb
/-- A call that leaves the world alone. -/
theorem toBelow {P : Program} {f : FuncId} {args : Array Value} {v : Value} {w : World} (h : Calls P f args w fun e w' => e = .returned v ∧ w' = w) :
  Calls P f args w fun e w' => e = .returned v ∧ Below w.heap.size w w' := h.mono fun e w' k => ⟨k.1, by rw [k.2]; exact Below.refl _ _⟩
theorem next_ex (n q : Nat) (c : Int) (hn : n < 4294967296) (hi : IsNext n q c) : ∀ w, T32 w → Calls Tryd.prog 8 #[.int .u32 (n : Int)] w fun e w' => e = .returned (.tuple #[.int .u32 (q : Int), .int .i64 c]) ∧ Below w.heap.size w w' :=
 fun w hT => next_is_any n q c hn hi w hT
theorem prime_ex (n : Nat) (b : Bool) (hn : n < 4294967296) (hb : prB n = b) : ∀ w, T32 w → Calls Tryd.prog 10 #[.int .u32 (n : Int)] w fun e w' => e = .returned (.bool b) ∧ Below w.heap.size w w' :=
 fun w hT => by have := prime_any n hn w hT; rwa [hb] at this
theorem frac_ex {q : Rat} {p d r : Nat} {n : Int} {v : Nat} {b : Bool} (hd : q.den = d) (hn : q.num = n) (hi : IsInv d p v b) (hr : (if b = true then rsd (rsz n p * v) p else 0) = r) : frR q p = r ∧ frB q p = b := by
 subst hd hn
 have h := inv_eq hi
 refine ⟨?_, h.2⟩
 unfold frR frB
 rw [h.1, h.2]; exact hr
theorem sz_half (n d : Int) (a1 : -9223372036854775808 ≤ n) (a2 : n < 9223372036854775808) (b1 : -9223372036854775808 ≤ d) (b2 : d < 9223372036854775808) (h0 : d ≠ 0) : Sz ((n : Rat) / (d : Rat)) 2 := by
 have h := (Sz.int (i64_dI a1 a2) (by omega)).div (Sz.int (i64_dI b1 b2) (by omega)) (by simpa using h0)
 exact h
theorem mworks_any (w : World) (hT : T32 w) : Calls Tryd.prog 12 #[] w fun e w' => e = .returned (.bool true) ∧ Below w.heap.size w w' := by
 have e1 : ((1 : Int) : Rat) / ((2 : Int) : Rat) = mkRat 1 2 := by rw [← of_val_q 1 2 (by decide)]; rfl
 have e2 : ((1 : Int) : Rat) / ((7 : Int) : Rat) = mkRat 1 7 := by rw [← of_val_q 1 7 (by decide)]; rfl
 have e3 : ((7 : Int) : Rat) / ((2 : Int) : Rat) = mkRat 7 2 := by rw [← of_val_q 7 2 (by decide)]; rfl
 have g1 := frac_ex (q := mkRat 1 2) (p := 7) (d := 2) (n := 1) (v := 4) (b := true) (r := 4) (by decide +kernel) (by decide +kernel) (.inl ⟨rfl, by decide, by decide⟩) (by decide)
 have g2 := frac_ex (q := mkRat 1 7) (p := 7) (d := 7) (n := 1) (v := 0) (b := false) (r := 0) (by decide +kernel) (by decide +kernel) (.inr ⟨rfl, rfl, .inr (by decide)⟩) (by decide)
 have g3 := frac_ex (q := mkRat 7 2) (p := 7) (d := 2) (n := 7) (v := 4) (b := true) (r := 0) (by decide +kernel) (by decide +kernel) (.inl ⟨rfl, by decide, by decide⟩) (by decide)
 have F1 := fun w => mofF 1 2 (by decide) (by decide) (by decide) (by decide) (by decide) w
 have F2 := fun w => mofF 1 7 (by decide) (by decide) (by decide) (by decide) (by decide) w
 have F3 := fun w => mofF 7 2 (by decide) (by decide) (by decide) (by decide) (by decide) w
 have G1 := fun w => offracM _ 7 2 (sz_half 1 2 (by decide) (by decide) (by decide) (by decide) (by decide)) (by decide) (by decide) w
 have G2 := fun w => offracM _ 7 2 (sz_half 1 7 (by decide) (by decide) (by decide) (by decide) (by decide)) (by decide) (by decide) w
 have G3 := fun w => offracM _ 7 2 (sz_half 7 2 (by decide) (by decide) (by decide) (by decide) (by decide)) (by decide) (by decide) w
 rw [e1] at F1 G1
 rw [e2] at F2 G2
 rw [e3] at F3 G3
 rw [g1.1, g1.2] at G1
 rw [g2.1, g2.2] at G2
 rw [g3.1, g3.2] at G3
 have HI := fun w => ofintM (-1) 7 (by decide +kernel) (by decide) w
 rw [show rsz (-1) 7 = 6 by decide] at HI
 refine mworks_w (mkRat 1 2).num (mkRat 1 7).num (mkRat 7 2).num (-1) (fe (mkRat 1 2)) (fe (mkRat 1 7)) (fe (mkRat 7 2)) T32 Keeps.t32
  (next_ex 0 2 0 (by decide) (.inl ⟨rfl, by decide, by decide, pr_2, fun i h1 h2 h => by have := h.1; omega⟩))
  (next_ex 2 3 0 (by decide) (.inl ⟨rfl, by decide, by decide, pr_3, fun i h1 h2 h => by omega⟩))
  (next_ex 2147483646 2147483647 0 (by decide) (.inl ⟨rfl, by decide, by decide, pr_2147483647, fun i h1 h2 h => by omega⟩))
  (next_ex 2147483647 0 3 (by decide) (.inr ⟨rfl, rfl, fun i h1 h2 h => by omega⟩))
  (prime_ex 2 true (by decide) (prB_of pr_2)) (prime_ex 1 false (by decide) (prB_no not_pr_small.2)) (prime_ex 561 false (by decide) (prB_no (not_pr_dvd (d := 3) (by decide) (by decide) (by decide))))
  (prime_ex 2147483647 true (by decide) (prB_of pr_2147483647)) (prime_ex 4294967291 true (by decide) (prB_of pr_4294967291))
  (fun w => minv_is 3 7 5 true (by decide) (by decide) (.inl ⟨rfl, by decide, by decide⟩) w) (fun w => minv_is 2 4 0 false (by decide) (by decide) (.inr ⟨rfl, rfl, .inr (by decide)⟩) w)
  (fun w => minv_is 0 1 0 true (by decide) (by decide) (.inl ⟨rfl, by decide, by decide⟩) w) (fun w => minv_is 5 0 0 false (by decide) (by decide) (.inr ⟨rfl, rfl, .inl rfl⟩) w)
  (fun w => toBelow (by have := msub_any 3 5 7 (by decide) (by decide) (by decide) w; rwa [show subN 3 5 7 = 5 by decide] at this))
  (fun w => toBelow (by have := mmul_any 4294967295 4294967295 4294967291 (by decide) (by decide) (by decide) w; rwa [show rsd (4294967295 * 4294967295) 4294967291 = 16 by decide] at this))
  (fun w => toBelow (by have := mpow_any 2 10 1000 (by decide) (by decide) (by decide) w; rwa [show rsd (2 ^ 10) 1000 = 24 by decide] at this))
  (fun w => toBelow (by have := mpow_any 0 0 5 (by decide) (by decide) (by decide) w; rwa [show rsd (0 ^ 0) 5 = 1 by decide] at this))
  (fun w => toBelow (by have := madd_any 3 4 0 (by decide) (by decide) (by decide) w; rwa [show rsd (3 + 4) 0 = 0 by decide] at this))
  F1 F2 F3 G1 G2 G3 (fun w => ofI (-1) (by decide) (by decide) w) HI w hT
end Go.Proofs.YtfmakoiiibacjaaDoor
namespace Go.Proofs.YtfmakoiiibacjaaDoor
open Go.RowKit
theorem muM {p x y r : Nat} (hp : p < 4294967296) (hx : x < 4294967296) (hy : y < 4294967296) (h : rsd (x * y) p = r) (w : World) :
  Calls Tryd.prog 19 #[.int .u32 (x : Int), .int .u32 (y : Int), .int .u32 (p : Int)] w fun e w' => e = .returned (.int .u32 (r : Int)) ∧ Below w.heap.size w w' := toBelow (by have := mmul_any x y p hx hy hp w; rwa [h] at this)
theorem poM {p x n r : Nat} (hp : p < 4294967296) (hx : x < 4294967296) (hn : n < 18446744073709551616) (h : rsd (x ^ n) p = r) (w : World) :
  Calls Tryd.prog 20 #[.int .u32 (x : Int), .int .u64 (n : Int), .int .u32 (p : Int)] w fun e w' => e = .returned (.int .u32 (r : Int)) ∧ Below w.heap.size w w' := toBelow (by have := mpow_any x n p hx hn hp w; rwa [h] at this)
end Go.Proofs.YtfmakoiiibacjaaDoor
namespace Go.Proofs.YtfmakoiiibacjaaDoor
open Go.ChangeShapes Go.WideShapes Go.ChangeAt Go.RowKit
theorem own : ownKnob Tryd.prog.godebug = none := by kernel_rfl
theorem gBrType : (Tryd.prog.globals[0]?).map (·.type) = some 92 := by kernel_rfl
theorem cells32 : Tryd.prog.cellsOf 92 = 32 := by kernel_rfl
theorem cells8 : Tryd.prog.cellsOf 5 = 1 := by kernel_rfl
theorem t32_of {W : World} (h : laidMetH Tryd.prog [("math/bits.deBruijn32tab", Rows.laid_math_bits_deBruijn32tab)] W) : T32 W := by
 rw [MakeChecks.laidMetH_plain _ _ _ (by kernel_rfl)] at h
 exact Lib.tabIs_of_head (rest := []) gBr gBrType Tryd.underlying92 Tryd.underlying5 cells8 cells32 (show laidMet Tryd.prog (("math/bits.deBruijn32tab", Lib.tabData .u8 (Lib.deBruijn32tab.map (fun n : Nat => (n : Int)))) :: []) W from h)
section
variable {H : Type} {enc : TypeId × Value → H} {P : Program} {w : World} {base : Nat} {spare : Nat → Bool} {held : Bool}
end
end Go.Proofs.YtfmakoiiibacjaaDoor
