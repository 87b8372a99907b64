/-
  Boxes of any cells: what a call has made, with what they hold (layers 2 and on).
-/
import Derived.Test.YthehcjfmokabfaaGreatDoorYn
import Derived.Test.YthehcjfmokabfaaGreatDoorYo
import Derived.Test.YthehcjfmokabfaaGreatDoorYk
import Derived.Deep.RegionHeld3
import Derived.Test.YthehcjfmokabfaaGreatDoorYm
set_option linter.unusedVariables false
set_option linter.unusedSimpArgs false
namespace Go.Proofs.YthehcjfmokabfaaGreatDoor
open Go.RowKit

/-- Cells stored one behind the other. -/
def setAll (W : World) (k : Nat) : Nat → List Value → World
  | _, [] => W
  | i, v :: vs => setAll (W.setCell ⟨k, i, none⟩ v) k (i + 1) vs
theorem setAll_upd (k : Nat) : ∀ (c : List Value) (i : Nat) (W : World), Upd k W (setAll W k i c)
  | [], _, W => Upd.refl k W
  | v :: vs, i, W => by
    have h1 := (Upd.refl k W).setCell i v
    have h2 := setAll_upd k vs (i + 1) (W.setCell ⟨k, i, none⟩ v)
    exact ⟨h2.os.trans h1.os, h2.tape.trans h1.tape, h2.output.trans h1.output, h2.size.trans h1.size, fun j hj => (h2.block j hj).trans (h1.block j hj)⟩
theorem hd_set {W : World} {k : Nat} {c : List Value} (h : Hd W k c) (i : Nat) (v : Value) (hi : i < c.length) : Hd (W.setCell ⟨k, i, none⟩ v) k (c.set i v) := by
  refine ⟨fun j hj => ?_, fun j => by simp [go_sem, h.frz j], by simp [World.setCell]; exact h.lt⟩
  rw [List.length_set] at hj
  by_cases e : i = j
  · subst e
    rw [World.cell?_setCell_same _ _ _ (h.cell i hi)]
    simp
  · rw [World.cell?_setCell_other _ _ _ _ (by intro h; simp only [Addr.mk.injEq] at h; omega), h.cell j hj]
    simp [e]
theorem setAll_hd : ∀ (c : List Value) (i : Nat) (W : World) (k : Nat) (p s : List Value), p.length = i → s.length = c.length → Hd W k (p ++ s) → Hd (setAll W k i c) k (p ++ c)
  | [], i, W, k, p, s, hp, hs, h => by
    rw [List.length_nil, List.length_eq_zero_iff] at hs
    subst hs; exact h
  | v :: vs, i, W, k, p, s, hp, hs, h => by
    cases s with
    | nil => simp at hs
    | cons s0 s =>
      have h1 := hd_set h i v (by rw [List.length_append, List.length_cons]; omega)
      rw [show (p ++ s0 :: s).set i v = (p ++ [v]) ++ s by subst hp; simp] at h1
      have h2 := setAll_hd vs (i + 1) (W.setCell ⟨k, i, none⟩ v) k (p ++ [v]) s (by simp [hp]) (by simpa using hs) h1
      rw [List.append_assoc] at h2
      exact h2

/-- The boxes that a call has made, with what they hold. -/
structure GL (w0 W : World) (L : List (Nat × List Value)) : Prop where
  bl : Below w0.heap.size w0 W
  all : ∀ p ∈ L, w0.heap.size ≤ p.1 ∧ Hd W p.1 p.2
  nd : (L.map (·.1)).Nodup

theorem GL.start (w : World) : GL w w [] := ⟨Below.refl _ _, (fun p hp => by cases hp), List.nodup_nil⟩
theorem GL.call {w0 W W' : World} {L : List (Nat × List Value)} (h : GL w0 W L) (hb : Below W.heap.size W W') : GL w0 W' L :=
  ⟨h.bl.trans (hb.mono h.bl.size), fun p hp => ⟨(h.all p hp).1, (h.all p hp).2.below hb⟩, h.nd⟩
theorem GL.drew {w0 W : World} {L : List (Nat × List Value)} (h : GL w0 W L) : GL w0 W.drew L :=
  ⟨h.bl.drew, fun p hp => ⟨(h.all p hp).1, (h.all p hp).2.cell, (h.all p hp).2.frz, (h.all p hp).2.lt⟩, h.nd⟩
theorem hd_new (W : World) (c : List Value) (t : TypeId) : Hd (W.alloc (.cells c.toArray t)) W.heap.size c := by
  have hrow := heap_alloc_new W (.cells c.toArray t)
  exact ⟨fun i hi => by rw [cell_of_row _ _ i _ _ _ hrow]; simp [hi], fun j => frozen_of_row _ _ j _ _ hrow, by rw [World.size_alloc]; omega⟩
theorem GL.new {w0 W : World} {L : List (Nat × List Value)} {K : Nat} (h : GL w0 W L) (hK : W.heap.size = K) (c : List Value) (t : TypeId) : GL w0 (W.alloc (.cells c.toArray t)) ((K, c) :: L) := by
  subst hK
  have hb : Below W.heap.size W (W.alloc (.cells c.toArray t)) := (Below.refl _ _).alloc (Nat.le_refl _) _
  refine ⟨h.bl.trans (hb.mono h.bl.size), fun p hp => ?_, ?_⟩
  · rcases List.mem_cons.1 hp with rfl | hp
    · exact ⟨h.bl.size, hd_new W c t⟩
    · exact ⟨(h.all p hp).1, (h.all p hp).2.below hb⟩
  · rw [List.map_cons, List.nodup_cons]
    refine ⟨fun hm => ?_, h.nd⟩
    obtain ⟨p, hp, he⟩ := List.mem_map.1 hm
    have := (h.all p hp).2.lt
    simp only at he
    omega
theorem GL.put {w0 W : World} {L : List (Nat × List Value)} (h : GL w0 W L) (i k : Nat) (c0 : List Value) (hi : L[i]? = some (k, c0)) (c : List Value) (hc : c.length = c0.length) :
    GL w0 (setAll W k 0 c) (L.set i (k, c)) := by
  have hu := setAll_upd k c 0 W
  obtain ⟨hil, he⟩ := List.getElem?_eq_some_iff.1 hi
  have hm : (k, c0) ∈ L := he ▸ List.getElem_mem hil
  have hk := h.all _ hm
  have hd := setAll_hd c 0 W k [] c0 rfl hc.symm hk.2
  have hmap : (L.set i (k, c)).map (·.1) = L.map (·.1) := by
    rw [List.map_set]
    apply List.ext_getElem?
    intro j
    by_cases e : i = j
    · subst e
      rw [List.getElem?_set_self (by simpa using hil), List.getElem?_map, hi]; rfl
    · rw [List.getElem?_set_ne e]
  refine ⟨h.bl.trans (hu.below hk.1), fun p hp => ?_, by rw [hmap]; exact h.nd⟩
  obtain ⟨j, hj, hpj⟩ := List.getElem_of_mem hp
  by_cases e : i = j
  · subst e
    rw [List.getElem_set_self] at hpj
    subst hpj
    exact ⟨hk.1, hd⟩
  · rw [List.getElem_set_ne e] at hpj
    rw [List.length_set] at hj
    have hp' : p ∈ L := hpj ▸ List.getElem_mem hj
    have hne : p.1 ≠ k := fun e2 => by
      have h1 : (L.map (·.1))[i]? = some k := by rw [List.getElem?_map, hi]; rfl
      have h2 : (L.map (·.1))[j]? = some k := by rw [List.getElem?_map, List.getElem?_eq_getElem hj, hpj]; simp [e2]
      exact e ((List.getElem?_inj (by simpa using hil) h.nd).1 (h1.trans h2.symm))
    exact ⟨(h.all p hp').1, hu.hd hne (h.all p hp').2⟩
theorem GL.get {w0 W : World} {L : List (Nat × List Value)} (h : GL w0 W L) (k : Nat) (c : List Value) (hm : (k, c) ∈ L) : Hd W k c := (h.all _ hm).2
theorem GL.weak {w0 W : World} {L L' : List (Nat × List Value)} (h : GL w0 W L) (hs : L'.Sublist L) : GL w0 W L' :=
  ⟨h.bl, fun p hp => h.all p (hs.subset hp), h.nd.sublist (hs.map _)⟩

/-- What cells hold, one fact each. -/
def cellsF (W : World) (k : Nat) : Nat → List Value → Prop
  | _, [] => True
  | i, v :: vs => W.cell? ⟨k, i, none⟩ = some v ∧ cellsF W k (i + 1) vs
theorem cells_of {W : World} {k : Nat} : ∀ (c : List Value) (i : Nat) (p : List Value), p.length = i → Hd W k (p ++ c) → cellsF W k i c
  | [], _, _, _, _ => trivial
  | v :: vs, i, p, hp, h => ⟨by have := h.cell i (by rw [List.length_append, List.length_cons]; omega); rw [this]; subst hp; simp,
      cells_of vs (i + 1) (p ++ [v]) (by simp [hp]) (by rw [List.append_assoc]; exact h)⟩
def neK (k : Nat) : List (Nat × List Value) → Prop
  | [] => True
  | p :: L => k ≠ p.1 ∧ p.1 ≠ k ∧ neK k L
theorem neK_of {k : Nat} : ∀ {L : List (Nat × List Value)}, k ∉ L.map (·.1) → neK k L
  | [], _ => trivial
  | p :: L, h => by
    simp only [List.map_cons, List.mem_cons, not_or] at h
    exact ⟨h.1, fun e => h.1 e.symm, neK_of h.2⟩
def fcG (W : World) : List (Nat × List Value) → Prop
  | [] => True
  | p :: L => cellsF W p.1 0 p.2 ∧ (∀ j, W.frozen? ⟨p.1, j, none⟩ = false) ∧ neK p.1 L ∧ fcG W L
theorem GL.fc {w0 W : World} : ∀ {L : List (Nat × List Value)}, GL w0 W L → fcG W L
  | [], _ => trivial
  | p :: L, h => ⟨cells_of p.2 0 [] rfl (h.all p List.mem_cons_self).2, (h.all p List.mem_cons_self).2.frz, neK_of (List.nodup_cons.1 h.nd).1,
      GL.fc (L := L) ⟨h.bl, fun q hq => h.all q (List.mem_cons_of_mem _ hq), (List.nodup_cons.1 h.nd).2⟩⟩

/-! In a class of worlds that keep what z holds. -/
def cellsC {α : Type} (F : α → World) (k : Nat) : Nat → List Value → Prop
  | _, [] => True
  | i, v :: vs => (∀ x, (F x).cell? ⟨k, i, none⟩ = some v) ∧ cellsC F k (i + 1) vs
theorem cellsC_of {α : Type} {F : α → World} {k : Nat} : ∀ (c : List Value) (i : Nat), (∀ x, cellsF (F x) k i c) → cellsC F k i c
  | [], _, _ => trivial
  | v :: vs, i, h => ⟨fun x => (h x).1, cellsC_of vs (i + 1) fun x => (h x).2⟩
def fcC {α : Type} (F : α → World) : List (Nat × List Value) → Prop
  | [] => True
  | p :: L => cellsC F p.1 0 p.2 ∧ fcC F L
theorem GL.fcC {α : Type} {F : α → World} {z : World} (h1 : ∀ x, Below z.heap.size z (F x)) {w : World} : ∀ {L : List (Nat × List Value)}, GL w z L → fcC F L
  | [], _ => trivial
  | p :: L, h => ⟨cellsC_of p.2 0 fun x => cells_of p.2 0 [] rfl ((h.all p List.mem_cons_self).2.below (h1 x)), GL.fcC h1 (L := L) ⟨h.bl, fun q hq => h.all q (List.mem_cons_of_mem _ hq), (List.nodup_cons.1 h.nd).2⟩⟩

/-- The boxes that a region has made. -/
theorem GL.ghs {w x W : World} {L : List (Nat × List Value)} {g : Gh} {κ : Nat → Nat} (h : GL w x L) (hS : Sim x.drew g κ W) : ∀ (ds : List (Nat × List Value)), (ds.map (·.1)).Nodup → (∀ p ∈ ds, ∃ b, g p.1 = some (p.2, b)) →
    GL w W (ds.map (fun p => (κ p.1, p.2)) ++ L)
  | [], _, _ => h.call (below_drew hS.base)
  | p :: ds, hn, hg => by
    rw [List.map_cons, List.nodup_cons] at hn
    have ih := GL.ghs h hS ds hn.2 fun q hq => hg q (List.mem_cons_of_mem _ hq)
    obtain ⟨b, hb⟩ := hg p List.mem_cons_self
    obtain ⟨h1, h2⟩ := hS.hd _ _ _ hb
    refine ⟨ih.bl, fun q hq => ?_, ?_⟩
    · rw [List.map_cons, List.cons_append] at hq
      rcases List.mem_cons.1 hq with rfl | hq
      · exact ⟨Nat.le_trans h.bl.size h1, h2⟩
      · exact ih.all q hq
    · rw [List.map_cons, List.cons_append, List.map_cons, List.nodup_cons]
      refine ⟨fun hm => ?_, ih.nd⟩
      obtain ⟨q, hq, he⟩ := List.mem_map.1 hm
      rcases List.mem_append.1 hq with hq | hq
      · obtain ⟨r, hr, rfl⟩ := List.mem_map.1 hq
        obtain ⟨b', hb'⟩ := hg r (List.mem_cons_of_mem _ hr)
        exact hS.inj _ _ (by rw [hb']; rfl) (by rw [hb]; rfl) (fun e => hn.1 (List.mem_map.2 ⟨r, hr, e⟩)) he
      · have := (h.all q hq).2.lt
        have h1' : x.heap.size ≤ κ p.1 := h1
        simp only at he
        omega
theorem GL.seg {α : Type} {F : α → World} {x : World} (h1 : ∀ y, Below x.drew.heap.size x.drew (F y)) {w : World} {L : List (Nat × List Value)} (hL : GL w x L) : Go.Proofs.YthehcjfmokabfaaGreatDoor.fcC F L := GL.fcC (fun y => below_drew (h1 y)) hL
end Go.Proofs.YthehcjfmokabfaaGreatDoor

/-
  Layer 1, law K: NatsKnown, from the other laws' answers.
-/
namespace Go.Proofs.YthehcjfmokabfaaGreatDoor
open Go.RowKit
attribute [local irreducible] lo hs val hiB str isq decB dval

set_option maxHeartbeats 2000000 in
theorem number_ok (l : List UInt8) (h : l.length ≤ 4096) (hd : isDec l) (w : World) :
    Calls Tryz.prog 15 #[.string (st l)] w fun e w' => e = .returned (natV (dval l)) ∧ Below w.heap.size w w' := by
  have hL0 : GL w w [] := GL.start w
  have C := Lib.hid (fun w => parse_ok l h hd w)
  clear h hd
  generalize dval l = d at *
  generalize st l = s at *
  replace hL0 := (hL0.new rfl [.int .u64 0, .string ⟨#[]⟩] 32)
  generalize hweq : (w.alloc (.cells #[.int .u64 0, .string ⟨#[]⟩] 32)) = x1 at hL0
  go_enter Tryz.func15, Tryz.ntmps15
  have hA := hL0.fc
  simp only [fcG, cellsF, neK, and_true, ne_eq, Nat.zero_add, Nat.reduceAdd] at hA
  go_wp2_with fail
  clear hA
  with_reducible refine Calls.mono (C.out _) ?_
  rintro e x2 ⟨rfl, hb⟩
  replace hL0 := hL0.call hb
  clear hb hweq
  replace hL0 := (hL0.new rfl [.int .u64 ((lo d : Nat) : Int), .string (hs d)] 32)
  generalize hweq : (x2.alloc (.cells #[.int .u64 ((lo d : Nat) : Int), .string (hs d)] 32)) = x3 at hL0
  have hA := hL0.fc
  simp only [fcG, cellsF, neK, and_true, ne_eq, Nat.zero_add, Nat.reduceAdd] at hA
  have hP := hL0.put 1 (w.heap.size) _ rfl [.int .u64 ((lo d : Nat) : Int), .string (hs d)] rfl
  simp only [setAll, List.set_cons_zero, List.set_cons_succ] at hP
  generalize hput1 : ((x3.setCell ⟨w.heap.size, 0, none⟩ (.int .u64 ((lo d : Nat) : Int))).setCell ⟨w.heap.size, 1, none⟩ (.string (hs d))) = x4 at hP
  have hB1 := hP.fc
  simp only [fcG, cellsF, neK, and_true, ne_eq, Nat.zero_add, Nat.reduceAdd] at hB1
  replace hL0 := hP
  go_wp2_with fail
  exact bodyPost_ret (v := natV d) (by simp [results, Tryz.results15, go_sem, hB1]) rfl ⟨rfl, hL0.bl⟩

/-- What a law says of its words. -/
abbrev Says2 (f : FuncId) : Prop := ∀ (vx vy : Value) (lx ly : List Nat) (w : World), Tab w → Ws w vx lx → Ws w vy ly → Calls Tryz.prog f #[vx, vy] w fun e w' => e = .returned (.bool true) ∧ Below w.heap.size w w'
abbrev Says3 (f : FuncId) : Prop := ∀ (vx vy vz : Value) (lx ly lz : List Nat) (w : World), Tab w → Ws w vx lx → Ws w vy ly → Ws w vz lz → Calls Tryz.prog f #[vx, vy, vz] w fun e w' => e = .returned (.bool true) ∧ Below w.heap.size w w'

set_option maxHeartbeats 8000000 in
set_option maxRecDepth 100000 in
theorem known_of (HS : Says2 7) (HP : Says2 8) (HD : Says3 9) (HT : Says2 10) (HR : Says3 11) (HV : Says3 12)
    (HO : ∀ (vx : Value) (lx : List Nat) (n : Int), n < 9223372036854775808 → ∀ w, Tab w → Ws w vx lx → Calls Tryz.prog 13 #[vx, .int .i64 n] w fun e w' => e = .returned (.bool true) ∧ Below w.heap.size w w')
    (HE : ∀ (s : ByteArray) w, Tab w → Calls Tryz.prog 14 #[.string s] w fun e w' => e = .returned (.bool true) ∧ Below w.heap.size w w')
    (HN : ∀ l : List UInt8, l.length ≤ 4096 → isDec l → ∀ w, Calls Tryz.prog 15 #[.string (st l)] w fun e w' => e = .returned (natV (dval l)) ∧ Below w.heap.size w w')
    (HW : ∀ w, Tab w → Calls Tryz.prog 16 #[] w fun e w' => e = .returned (.bool true) ∧ Below w.heap.size w w')
    (w : World) (htab : Tab w) :
    Calls Tryz.prog 3 #[] w fun e w' => e = .returned (.bool true) ∧ Below w.heap.size w w' := by
  replace HS := Lib.hid HS
  replace HP := Lib.hid HP
  replace HD := Lib.hid HD
  replace HT := Lib.hid HT
  replace HR := Lib.hid HR
  replace HV := Lib.hid HV
  replace HO := Lib.hid HO
  replace HE := Lib.hid HE
  replace HW := Lib.hid HW
  replace HN := Lib.hid HN
  obtain ⟨vf, lf, hE⟩ := ends_ok w
  obtain ⟨W1, hW1⟩ : ∃ W1, W1 = endsW w := ⟨_, rfl⟩
  have hb1 : Below w.heap.size w W1 := by rw [hW1]; exact ends_below w
  rw [← hW1] at hE
  replace hE := Lib.hid hE
  replace hW1 := Lib.hid hW1
  go_enter Tryz.func3, Tryz.ntmps3
  go_wp2_with fail
  obtain ⟨g, hg⟩ : ∃ g, g = w.heap.size + 1 + 1 + 1 + 1 + 1 + 1 + 1 + 1 + 1 + 1 + 1 + 1 + 1 + 1 + 1 := ⟨_, rfl⟩
  rw [← hg]
  rw [show w.heap.size + 15 = g from hg.symm] at hE
  go_loopw [2] (fun iv wr => ∃ i : Nat, iv = .int .i64 (i : Int) ∧ i ≤ 16 ∧ Below W1.heap.size W1 wr) (fun iv _ => 16 - (intOf iv).toNat)
  case atStart => exact ⟨0, rfl, by omega, by rw [hW1.out]; exact Below.refl _ (endsW w)⟩
  case round =>
    obtain ⟨i, rfl, hi, hb⟩ := hrel
    clear hW1 hg
    rcases Nat.lt_or_ge i 16 with h16 | h16
    · have k1 : (i : Int) < 16 := by omega
      go_wp2_with fail
      go_loopw [3] (fun kv wr => ∃ k : Nat, kv = .int .i64 (k : Int) ∧ k ≤ 16 ∧ Below W1.heap.size W1 wr) (fun kv _ => 16 - (intOf kv).toNat)
      case atStart => exact ⟨0, rfl, by omega, hb⟩
      case round =>
        obtain ⟨k, rfl, hk, hb⟩ := hrel
        rcases Nat.lt_or_ge k 16 with k16 | k16
        · have k2 : (k : Int) < 16 := by omega
          obtain ⟨α, iα, F, hF1, hF2⟩ := cls wr
          have hX := fun x => hb.trans ((hF1 x).mono hb.size)
          have hT := fun x => htab.below (hb1.trans ((hX x).mono hb1.size))
          have hQ := fun x => hE.out.below (hX x)
          obtain ⟨j1, e1⟩ : ∃ j, j = (i + k) % 16 := ⟨_, rfl⟩
          obtain ⟨j2, e2⟩ : ∃ j, j = (i * k) % 16 := ⟨_, rfl⟩
          obtain ⟨j3, e3⟩ : ∃ j, j = (i + 2 * k) % 16 := ⟨_, rfl⟩
          have hik : i * k ≤ 225 := Nat.mul_le_mul (show i ≤ 15 by omega) (show k ≤ 15 by omega)
          have hikI : (i : Int) * (k : Int) ≤ 225 := by rw [← Int.natCast_mul]; omega
          have hik0 : (0 : Int) ≤ (i : Int) * (k : Int) := by rw [← Int.natCast_mul]; omega
          have f1 : ((i : Int) + (k : Int)) % 16 = (j1 : Int) := by omega
          have f2 : ((i : Int) * (k : Int)) % 16 = (j2 : Int) := by rw [← Int.natCast_mul]; omega
          have f3 : ((i : Int) + 2 * (k : Int)) % 16 = (j3 : Int) := by omega
          have g1 : j1 < 16 := by omega
          have g2 : j2 < 16 := by omega
          have g3 : j3 < 16 := by omega
          have q0 : ∀ x, (F x).cell? ⟨g, i, none⟩ = some (vf i) := fun x => (hQ x).cell i h16
          have q4 : ∀ x, (F x).cell? ⟨g, k, none⟩ = some (vf k) := fun x => (hQ x).cell k k16
          have q1 : ∀ x, (F x).cell? ⟨g, j1, none⟩ = some (vf j1) := fun x => (hQ x).cell j1 g1
          have q2 : ∀ x, (F x).cell? ⟨g, j2, none⟩ = some (vf j2) := fun x => (hQ x).cell j2 g2
          have q3 : ∀ x, (F x).cell? ⟨g, j3, none⟩ = some (vf j3) := fun x => (hQ x).cell j3 g3
          have cS := Lib.hid (fun x => cls_ret hF1 hF2 (HS.out _ _ _ _ (F x) (hT x) ((hQ x).ws i h16) ((hQ x).ws k k16)))
          have cP := Lib.hid (fun x => cls_ret hF1 hF2 (HP.out _ _ _ _ (F x) (hT x) ((hQ x).ws i h16) ((hQ x).ws k k16)))
          have cD := Lib.hid (fun x => cls_ret hF1 hF2 (HD.out _ _ _ _ _ _ (F x) (hT x) ((hQ x).ws i h16) ((hQ x).ws k k16) ((hQ x).ws j1 g1)))
          have cT := Lib.hid (fun x => cls_ret hF1 hF2 (HT.out _ _ _ _ (F x) (hT x) ((hQ x).ws i h16) ((hQ x).ws k k16)))
          have cR := Lib.hid (fun x => cls_ret hF1 hF2 (HR.out _ _ _ _ _ _ (F x) (hT x) ((hQ x).ws i h16) ((hQ x).ws k k16) ((hQ x).ws j2 g2)))
          have cV := Lib.hid (fun x => cls_ret hF1 hF2 (HV.out _ _ _ _ _ _ (F x) (hT x) ((hQ x).ws i h16) ((hQ x).ws k k16) ((hQ x).ws j3 g3)))
          have hX' := Lib.hid hX
          clear hX hT hQ e1 e2 e3
          have b1 : (j1 : Int) < 16 := by omega
          have b2 : (j2 : Int) < 16 := by omega
          have b3 : (j3 : Int) < 16 := by omega
          clear g1 g2 g3 hik
          go_wp2_with fail
          refine region_cls (F := F) (by kernel_rfl) (lexB_of_fast (by kernel_rfl)) (cls_drew hF2) ?_
          simp only [List.append]
          repeat (go_big_quiet_step (first
            | (go_at_call 7; with_reducible exact cS.out _)
            | (go_at_call 8; with_reducible exact cP.out _)
            | (go_at_call 9; with_reducible exact cD.out _)
            | (go_at_call 10; with_reducible exact cT.out _)
            | (go_at_call 11; with_reducible exact cR.out _)
            | (go_at_call 12; with_reducible exact cV.out _)))
          refine wpQuiet_nil ?_
          intro wq hwq
          obtain ⟨xq, rfl⟩ := hwq
          have hb8 := hX'.out xq
          generalize F xq = w8 at hb8 ⊢
          clear cS cP cD cT cR cV hX' hF1 hF2 q0 q1 q2 q3 q4
          go_wp2_with fail
          go_roundw
          case rel => exact ⟨k + 1, by first | rfl | go_num, by omega, hb8⟩
          case measure => simp [intOf]; omega
        · obtain rfl : k = 16 := by omega
          have k2 : ¬ ((16 : Nat) : Int) < 16 := by omega
          have hE1 := Lib.hid (hE.out.below hb)
          have c0 := hE1.out.cell i h16
          have D1 := hb1.trans (hb.mono hb1.size)
          go_wp2_with fail
          with_reducible refine Calls.mono (HO.out _ _ _ (by omega) _ (htab.below D1) (hE1.out.ws i h16)) ?_
          rintro e x1 ⟨rfl, hc⟩
          have D2 := D1.trans (hc.mono D1.size)
          have h2 := hb.trans (hc.mono hb.size)
          have E2 := Lib.hid (hE1.out.below hc)
          have c2 := E2.out.cell i h16
          clear hc c0 hE1
          go_wp2_with fail
          with_reducible refine Calls.mono (HO.out _ _ _ (by omega) _ (htab.below D2) (E2.out.ws i h16)) ?_
          rintro e x2 ⟨rfl, hc⟩
          have D3 := D2.trans (hc.mono D2.size)
          have h3 := h2.trans (hc.mono h2.size)
          have E3 := Lib.hid (E2.out.below hc)
          have c3 := E3.out.cell i h16
          clear hc c2 E2
          go_wp2_with fail
          with_reducible refine Calls.mono (HO.out _ _ _ (by omega) _ (htab.below D3) (E3.out.ws i h16)) ?_
          rintro e x3 ⟨rfl, hc⟩
          have h4 := h3.trans (hc.mono h3.size)
          clear hc c3 E3
          go_wp2_with fail
          go_roundw
          case rel => exact ⟨i + 1, by first | rfl | go_num, by omega, h4⟩
          case measure => simp [intOf]; omega
    · obtain rfl : i = 16 := by omega
      have k1 : ¬ ((16 : Nat) : Int) < 16 := by omega
      clear HS HP HD HT HR HV HO hE
      go_wp2_with fail
      go_loopw [4] (fun sv wr => ∃ l : List UInt8, sv = .string (st l) ∧ l.length ≤ 4105 ∧ (∀ c ∈ l, isDig c) ∧ (l = [] ∨ l.head? = some 57) ∧ Below W1.heap.size W1 wr) (fun sv _ => match sv with | .string s => 4096 - s.size | _ => 0)
      case atStart => exact ⟨[], rfl, by simp, by simp, .inl rfl, hb⟩
      case round =>
        obtain ⟨l, rfl, hl, hd, h57, hb⟩ := hrel
        rcases Nat.lt_or_ge l.length 4096 with hlt | hge
        · have s1 : (((st l).size : Nat) : Int) < 4096 := by rw [st_size]; omega
          have s2 : (((st l).size : Nat) : Int) ≤ 4105 := by rw [st_size]; omega
          have s3 : (st l).size < 4096 := by rw [st_size]; omega
          obtain ⟨m, hm⟩ : ∃ m, m = l.length % 7 := ⟨_, rfl⟩
          have hm7 : (((st l).size : Nat) : Int) % 7 = (m : Int) := by rw [st_size]; omega
          have hm6 : (m : Int) ≤ 10 := by omega
          replace hm := Lib.hid hm
          replace hd := Lib.hid hd
          replace h57 := Lib.hid h57
          have nx := nine_next hlt hm.out hd.out h57.out
          have hm9 : m ≤ 10 := by have := hm.out; omega
          go_wp2_with fail
          rw [nine_ext m hm9, st_join]
          exact ⟨⟨_, rfl, nx.1, nx.2.1, .inr nx.2.2.1, hb⟩, by simp only [st_size]; have := nx.2.2.2; omega⟩
        · have s1 : ¬ (((st l).size : Nat) : Int) < 4096 := by rw [st_size]; omega
          have s2 : (((st l).size : Nat) : Int) ≤ 4105 := by rw [st_size]; omega
          have s3 : ¬ (st l).size < 4096 := by rw [st_size]; omega
          have hD := hb1.trans (hb.mono hb1.size)
          obtain ⟨nd, nl, nz⟩ := long_dec hge hd h57
          have s4 : (4096 : Int) ≤ (((st l).size : Nat) : Int) := by rw [st_size]; omega
          have mn1 : min 4096 (st l).size = 4096 := Nat.min_eq_left (by rw [st_size]; exact hge)
          have mn2 : min 4095 (st l).size = 4095 := Nat.min_eq_left (by rw [st_size]; omega)
          have s5 : (4095 : Int) ≤ (((st l).size : Nat) : Int) := by omega
          replace nd := Lib.hid nd
          replace nl := Lib.hid nl
          replace nz := Lib.hid nz
          clear hd h57 hge
          go_wp2_with fail
          go_region_held3 (fun w' => True)
            (trivial)
            (fail)
          go_wp2_with fail
          go_loopw [180] (fun iv wx => ∃ i : Nat, iv = .int .i64 (i : Int) ∧ i ≤ 20 ∧ (∀ j, j < 20 → ∃ s, wx.cell? ⟨wr.heap.size, j, none⟩ = some (.string s)) ∧ wr.heap.size < wx.heap.size ∧ Below W1.heap.size W1 wx) (fun iv _ => 20 - (intOf iv).toNat)
          case atStart => exact ⟨0, rfl, by omega, fun j hj => strs_ok wr _ _ (by simp [isStr]) j hj, Nat.lt_of_lt_of_le (Nat.lt_succ_self _) (Nat.le_of_eq (World.size_alloc wr _).symm), (hb.alloc hb.size _).drew⟩
          case round =>
            obtain ⟨i, rfl, hi, hcs, hgl, hb⟩ := hrel
            replace hcs := Lib.hid hcs
            have D := hb1.trans (hb.mono hb1.size)
            rcases Nat.lt_or_ge i 20 with h20 | h20
            · have k3 : (i : Int) < 20 := by omega
              obtain ⟨s, cs⟩ := hcs.out i h20
              go_wp2_with fail
              with_reducible refine Calls.mono (HE.out s _ (htab.below D)) ?_
              rintro e x1 ⟨rfl, hc⟩
              have hs1 := Lib.hid (fun j (hj : j < 20) => (hcs.out j hj).imp fun s h => (hc.cell (p := ⟨_, j, none⟩) hgl).trans h)
              have h4 := hb.trans (hc.mono hb.size)
              have hgl1 := Nat.lt_of_lt_of_le hgl hc.size
              clear hc cs hcs hgl
              go_wp2_with fail
              go_roundw
              case rel => exact ⟨i + 1, by first | rfl | go_num, by omega, hs1.out, hgl1, h4⟩
              case measure => simp [intOf]; omega
            · obtain rfl : i = 20 := by omega
              have k3 : ¬ ((20 : Nat) : Int) < 20 := by omega
              have hx := st_take' l 4096
              have C := Lib.hid (fun wx => HN.out _ nl.out nd.out wx)
              generalize dval (l.take 4096) = d at *
              rw [← hx] at C
              clear hx
              have WK := Lib.hid (fun wx ht => HW.out wx ht)
              go_wp2_with fail
              with_reducible refine Calls.mono (C.out _) ?_
              rintro e x1 ⟨rfl, hc⟩
              have D1 := D.trans (hc.mono D.size)
              clear hc C
              rcases natV0_ne nz.out with z1 | ⟨z1, z2⟩
              · go_wp2_with fail
                with_reducible refine Calls.mono (WK.out _ (htab.below D1)) ?_
                rintro e x2 ⟨rfl, hc⟩
                have D2 := D1.trans (hc.mono D1.size)
                clear hc
                go_wp2_with fail
                go_ret
                exact ⟨rfl, D2⟩
              · go_wp2_with fail
                with_reducible refine Calls.mono (WK.out _ (htab.below D1)) ?_
                rintro e x2 ⟨rfl, hc⟩
                have D2 := D1.trans (hc.mono D1.size)
                clear hc
                go_wp2_with fail
                go_ret
                exact ⟨rfl, D2⟩
end Go.Proofs.YthehcjfmokabfaaGreatDoor

/-
  Layer 1, law D: NatsDivisors.
-/
namespace Go.Proofs.YthehcjfmokabfaaGreatDoor
open Go.RowKit
attribute [local irreducible] lo hs sm s64 c64 d64 b64 mh ml pd pc qd qc val hiB str cmpI srD lz nb isq decB

/-- The three ways in which a number stands to 0, as the walk tests it. -/
theorem zt (x : Nat) : (x = 0 ∧ (((lo x : Nat) : Int) == ((lo 0 : Nat) : Int)) = true ∧ ((hs x).toList == (hs 0).toList) = true) ∨ (0 < x ∧ (((lo x : Nat) : Int) == ((lo 0 : Nat) : Int)) = false) ∨ (0 < x ∧ (((lo x : Nat) : Int) == ((lo 0 : Nat) : Int)) = true ∧ ((hs x).toList == (hs 0).toList) = false) := by
  rcases Nat.eq_zero_or_pos x with rfl | h
  · exact .inl ⟨rfl, by simp, by simp⟩
  · rcases eq_zero h with h1 | ⟨h1, h2⟩
    · exact .inr (.inl ⟨h, h1⟩)
    · exact .inr (.inr ⟨h, h1, h2⟩)

set_option maxHeartbeats 4000000 in
set_option maxRecDepth 100000 in
theorem divisors_big (ax ay az : Option Addr) (cx cy cz nx ny nz : Nat) (h : 12 < nx ∨ 12 < ny ∨ 6 < nz) (w : World) (htab : Tab w) :
    Calls Tryz.prog 12 #[.slice ax nx cx, .slice ay ny cy, .slice az nz cz] w fun e w' => e = .returned (.bool true) ∧ Below w.heap.size w w' := by
  have HW := Lib.hid (works_any w htab)
  have key : (decide ((12 : Int) < (nx : Int)) = true) ∨ (decide ((12 : Int) < (nx : Int)) = false ∧ decide ((12 : Int) < (ny : Int)) = true) ∨ (decide ((12 : Int) < (nx : Int)) = false ∧ decide ((12 : Int) < (ny : Int)) = false ∧ decide ((6 : Int) < (nz : Int)) = true) := by
    by_cases h0 : 12 < nx
    · exact .inl (decide_eq_true (by omega))
    · skip
      by_cases h1 : 12 < ny
      · exact .inr (.inl ⟨decide_eq_false (by omega), decide_eq_true (by omega)⟩)
      · exact .inr (.inr (⟨decide_eq_false (by omega), decide_eq_false (by omega), decide_eq_true (by omega)⟩))
  clear h
  rcases key with k0 | ⟨k0, k1⟩ | ⟨k0, k1, k2⟩
  all_goals (
    go_enter Tryz.func12, Tryz.ntmps12
    go_wp2_with fail
    with_reducible refine Calls.mono HW.out ?_
    rintro e w1 ⟨rfl, hb⟩
    go_wp2_with fail
    exact bodyPost_ret (v := .bool true) (by simp [results, Tryz.results12, go_sem]) rfl ⟨rfl, hb⟩)

set_option maxHeartbeats 16000000 in
set_option maxRecDepth 100000 in
theorem divisors_small (vx vy vz : Value) (lx ly lz : List Nat) (w : World) (htab : Tab w) (hx : Ws w vx lx) (hy : Ws w vy ly) (hz : Ws w vz lz) (nx : lx.length ≤ 12) (ny : ly.length ≤ 12) (nz : lz.length ≤ 6) :
    Calls Tryz.prog 12 #[vx, vy, vz] w fun e w' => e = .returned (.bool true) ∧ Below w.heap.size w w' := by
  have MX := fun w h => made_any vx lx (by omega) w h
  have MY := fun w h => made_any vy ly (by omega) w h
  have MZ := fun w h => made_any vz lz (by omega) w h
  obtain ⟨ax, cx, ex⟩ := hx.form
  obtain ⟨ay, cy, ey⟩ := hy.form
  obtain ⟨az, cz, ez⟩ := hz.form
  have dx := Nat.le_trans (made_digs hx.lt) nx
  have dy := Nat.le_trans (made_digs hy.lt) ny
  have dz := Nat.le_trans (made_digs hz.lt) nz
  subst ex ey ez
  have kx : decide ((12 : Int) < (lx.length : Int)) = false := decide_eq_false (by omega)
  have ky : decide ((12 : Int) < (ly.length : Int)) = false := decide_eq_false (by omega)
  have kz : decide ((6 : Int) < (lz.length : Int)) = false := decide_eq_false (by omega)
  generalize made lx = a at *
  generalize made ly = b at *
  generalize made lz = n at *
  replace hx := Lib.hid hx
  replace MX := Lib.hid MX
  replace hy := Lib.hid hy
  replace MY := Lib.hid MY
  replace hz := Lib.hid hz
  replace MZ := Lib.hid MZ
  generalize lx.length = Nx at *
  generalize ly.length = Ny at *
  generalize lz.length = Nz at *
  obtain ⟨g, hg⟩ : ∃ g, g = Nat.gcd a b := ⟨_, rfl⟩
  have dg : (digs g).length ≤ 12 := by
    rw [hg]
    rcases Nat.eq_zero_or_pos a with h | h
    · rw [h, Nat.gcd_zero_left]; exact dy
    · exact Nat.le_trans (digs_mono (Nat.gcd_le_left _ h)) dx
  have dna : (digs (n * a)).length ≤ 18 := Nat.le_trans (digs_mul_le dz dx) (by omega)
  have dnb : (digs (n * b)).length ≤ 18 := Nat.le_trans (digs_mul_le dz dy) (by omega)
  have G4 := fun w => gcd_any a b (by omega) (by omega) w
  rw [← hg] at G4
  have G6a := fun w => gcd_any b a (by omega) (by omega) w
  rw [Nat.gcd_comm, ← hg] at G6a
  have G6b := fun w => gcd_any a 0 (by omega) (by rw [digs_zero]; exact Nat.zero_le _) w
  rw [Nat.gcd_zero_right] at G6b
  have M6a := fun w => mul_any n a (by omega) (by omega) w
  have M6b := fun w => mul_any n b (by omega) (by omega) w
  have G6c := fun w => gcd_any (n * a) (n * b) (by omega) (by omega) w
  rw [Nat.gcd_mul_left, ← hg] at G6c
  have M6c := fun w => mul_any n g (by omega) (by omega) w
  have hab : g = 0 → a = 0 ∧ b = 0 := fun h => by rw [hg] at h; exact ⟨Nat.eq_zero_of_gcd_eq_zero_left h, Nat.eq_zero_of_gcd_eq_zero_right h⟩
  have hnab : g = 0 → n * b = n * a := fun h => by rw [hg] at h; rw [Nat.eq_zero_of_gcd_eq_zero_left h, Nat.eq_zero_of_gcd_eq_zero_right h]
  have hba : a = 0 → b = 0 → g = 0 := fun h1 h2 => by rw [hg, h1, h2]; rfl
  generalize n * a = na at *
  generalize n * b = nb1 at *
  generalize n * g = ng at *
  replace G4 := Lib.hid G4
  replace G6a := Lib.hid G6a
  replace G6b := Lib.hid G6b
  replace M6a := Lib.hid M6a
  replace M6b := Lib.hid M6b
  replace G6c := Lib.hid G6c
  replace M6c := Lib.hid M6c
  have HG := Lib.hid hg
  clear hg dna dnb
  have hL0 : NL w w [] := NL.start w
  go_enter Tryz.func12, Tryz.ntmps12
  go_wp2_with fail
  with_reducible refine Calls.mono (MX.out _ hx.out) ?_
  rintro e x1 ⟨rfl, hb⟩
  replace hL0 := hL0.call hb
  clear hb MX
  go_wp2_with fail
  with_reducible refine Calls.mono (MY.out _ (hy.out.below hL0.bl)) ?_
  rintro e x2 ⟨rfl, hb⟩
  replace hL0 := hL0.call hb
  clear hb MY
  go_wp2_with fail
  with_reducible refine Calls.mono (MZ.out _ (hz.out.below hL0.bl)) ?_
  rintro e x3 ⟨rfl, hb⟩
  replace hL0 := hL0.call hb
  clear hb MZ
  replace hL0 := (((hL0.new rfl a 32).new (szA _ _) b 32).new (szA2 _ _ _) n 32)
  generalize hweq : (((x3.alloc (.cells #[.int .u64 ((lo a : Nat) : Int), .string (hs a)] 32)).alloc (.cells #[.int .u64 ((lo b : Nat) : Int), .string (hs b)] 32)).alloc (.cells #[.int .u64 ((lo n : Nat) : Int), .string (hs n)] 32)) = x4 at hL0
  obtain ⟨p1, r1⟩ := hL0.get (x3.heap.size) a (by (repeat (first | with_reducible exact List.mem_cons_self | with_reducible refine List.mem_cons_of_mem _ ?_)))
  obtain ⟨p2, r2⟩ := hL0.get (x3.heap.size + 1) b (by (repeat (first | with_reducible exact List.mem_cons_self | with_reducible refine List.mem_cons_of_mem _ ?_)))
  go_wp2_with fail
  with_reducible refine Calls.mono (G4.out _) ?_
  rintro e x5 ⟨rfl, hb⟩
  replace hL0 := hL0.call hb
  clear hb G4 hweq
  replace hL0 := (hL0.new rfl g 32)
  generalize hweq : (x5.alloc (.cells #[.int .u64 ((lo g : Nat) : Int), .string (hs g)] 32)) = x6 at hL0
  go_upto_region 6 with fail
  replace hL0 := hL0.new0 rfl 32
  generalize hz : x6.alloc (.cells #[.int .u64 0, .string ⟨#[]⟩] 32) = wz at hL0 ⊢
  clear hz hweq
  go_cut [82] from 44 to 82 (fun t82 wx => t82 = .bool false ∧ NL w wx [(x6.heap.size, 0), (x5.heap.size, g), (x3.heap.size + 1 + 1, n), (x3.heap.size + 1, b), (x3.heap.size, a)])
  case first =>
    rcases zt g with ⟨zg, zg1, zg2⟩ | ⟨zg, zg1⟩ | ⟨zg, zg1, zg2⟩
    · obtain ⟨rfl, rfl⟩ := hab zg
      obtain rfl := hnab zg
      clear zg hab hba hnab
      have za1 : (((lo 0 : Nat) : Int) == ((lo 0 : Nat) : Int)) = true := by simp
      have za2 : ((hs 0).toList == (hs 0).toList) = true := by simp
      obtain ⟨α, iα, F, hF1, hF2⟩ := cls wz
      obtain ⟨q3, s3⟩ := cls_get hF1 hL0 (x5.heap.size) g (by (repeat (first | with_reducible exact List.mem_cons_self | with_reducible refine List.mem_cons_of_mem _ ?_)))
      obtain ⟨q4, s4⟩ := cls_get hF1 hL0 (x3.heap.size + 1) 0 (by (repeat (first | with_reducible exact List.mem_cons_self | with_reducible refine List.mem_cons_of_mem _ ?_)))
      obtain ⟨q5, s5⟩ := cls_get hF1 hL0 (x3.heap.size) 0 (by (repeat (first | with_reducible exact List.mem_cons_self | with_reducible refine List.mem_cons_of_mem _ ?_)))
      obtain ⟨q6, s6⟩ := cls_get hF1 hL0 (x6.heap.size) 0 (by (repeat (first | with_reducible exact List.mem_cons_self | with_reducible refine List.mem_cons_of_mem _ ?_)))
      obtain ⟨q7, s7⟩ := cls_get hF1 hL0 (x3.heap.size + 1 + 1) n (by (repeat (first | with_reducible exact List.mem_cons_self | with_reducible refine List.mem_cons_of_mem _ ?_)))
      refine region_cls (F := F) (by kernel_rfl) (by kernel_rfl) (cls_drew hF2) ?_
      repeat (go_big_quiet_step (first
        | (go_at_call 60; with_reducible exact cls_call hF1 hF2 G6a.out _)
        | (go_at_call 60; with_reducible exact cls_call hF1 hF2 G6b.out _)
        | (go_at_call 58; with_reducible exact cls_call hF1 hF2 M6a.out _)
        | (go_at_call 58; with_reducible exact cls_call hF1 hF2 M6b.out _)
        | (go_at_call 60; with_reducible exact cls_call hF1 hF2 G6c.out _)
        | (go_at_call 58; with_reducible exact cls_call hF1 hF2 M6c.out _)))
      refine wpQuiet_nil ?_
      intro wq hwq
      obtain ⟨xq, rfl⟩ := hwq
      have hLq := hL0.call (hF1 xq)
      go_wp2_with fail
      go_meet
      exact ⟨rfl, hLq⟩
    all_goals (
      rcases zt a with ⟨za, za1, za2⟩ | ⟨za, za1⟩ | ⟨za, za1, za2⟩
      · rcases zt b with ⟨zb, zb1, zb2⟩ | ⟨zb, zb1⟩ | ⟨zb, zb1, zb2⟩
        · exact absurd (hba za zb) (by omega)
        all_goals (
          clear za
          obtain ⟨α, iα, F, hF1, hF2⟩ := cls wz
          obtain ⟨q8, s8⟩ := cls_get hF1 hL0 (x5.heap.size) g (by (repeat (first | with_reducible exact List.mem_cons_self | with_reducible refine List.mem_cons_of_mem _ ?_)))
          obtain ⟨q9, s9⟩ := cls_get hF1 hL0 (x3.heap.size + 1) b (by (repeat (first | with_reducible exact List.mem_cons_self | with_reducible refine List.mem_cons_of_mem _ ?_)))
          obtain ⟨q10, s10⟩ := cls_get hF1 hL0 (x3.heap.size) a (by (repeat (first | with_reducible exact List.mem_cons_self | with_reducible refine List.mem_cons_of_mem _ ?_)))
          obtain ⟨q11, s11⟩ := cls_get hF1 hL0 (x6.heap.size) 0 (by (repeat (first | with_reducible exact List.mem_cons_self | with_reducible refine List.mem_cons_of_mem _ ?_)))
          obtain ⟨q12, s12⟩ := cls_get hF1 hL0 (x3.heap.size + 1 + 1) n (by (repeat (first | with_reducible exact List.mem_cons_self | with_reducible refine List.mem_cons_of_mem _ ?_)))
          refine region_cls (F := F) (by kernel_rfl) (by kernel_rfl) (cls_drew hF2) ?_
          repeat (go_big_quiet_step (first
            | (go_at_call 60; with_reducible exact cls_call hF1 hF2 G6a.out _)
            | (go_at_call 60; with_reducible exact cls_call hF1 hF2 G6b.out _)
            | (go_at_call 58; with_reducible exact cls_call hF1 hF2 M6a.out _)
            | (go_at_call 58; with_reducible exact cls_call hF1 hF2 M6b.out _)
            | (go_at_call 60; with_reducible exact cls_call hF1 hF2 G6c.out _)
            | (go_at_call 58; with_reducible exact cls_call hF1 hF2 M6c.out _)))
          refine wpQuiet_nil ?_
          intro wq hwq
          obtain ⟨xq, rfl⟩ := hwq
          have hLq := hL0.call (hF1 xq)
          go_wp2_with fail
          go_meet
          exact ⟨rfl, hLq⟩)
      all_goals (
        obtain ⟨α, iα, F, hF1, hF2⟩ := cls wz
        obtain ⟨q13, s13⟩ := cls_get hF1 hL0 (x5.heap.size) g (by (repeat (first | with_reducible exact List.mem_cons_self | with_reducible refine List.mem_cons_of_mem _ ?_)))
        obtain ⟨q14, s14⟩ := cls_get hF1 hL0 (x3.heap.size + 1) b (by (repeat (first | with_reducible exact List.mem_cons_self | with_reducible refine List.mem_cons_of_mem _ ?_)))
        obtain ⟨q15, s15⟩ := cls_get hF1 hL0 (x3.heap.size) a (by (repeat (first | with_reducible exact List.mem_cons_self | with_reducible refine List.mem_cons_of_mem _ ?_)))
        obtain ⟨q16, s16⟩ := cls_get hF1 hL0 (x6.heap.size) 0 (by (repeat (first | with_reducible exact List.mem_cons_self | with_reducible refine List.mem_cons_of_mem _ ?_)))
        obtain ⟨q17, s17⟩ := cls_get hF1 hL0 (x3.heap.size + 1 + 1) n (by (repeat (first | with_reducible exact List.mem_cons_self | with_reducible refine List.mem_cons_of_mem _ ?_)))
        refine region_cls (F := F) (by kernel_rfl) (by kernel_rfl) (cls_drew hF2) ?_
        repeat (go_big_quiet_step (first
          | (go_at_call 60; with_reducible exact cls_call hF1 hF2 G6a.out _)
          | (go_at_call 60; with_reducible exact cls_call hF1 hF2 G6b.out _)
          | (go_at_call 58; with_reducible exact cls_call hF1 hF2 M6a.out _)
          | (go_at_call 58; with_reducible exact cls_call hF1 hF2 M6b.out _)
          | (go_at_call 60; with_reducible exact cls_call hF1 hF2 G6c.out _)
          | (go_at_call 58; with_reducible exact cls_call hF1 hF2 M6c.out _)))
        refine wpQuiet_nil ?_
        intro wq hwq
        obtain ⟨xq, rfl⟩ := hwq
        have hLq := hL0.call (hF1 xq)
        go_wp2_with fail
        go_meet
        exact ⟨rfl, hLq⟩))
  case rest =>
    clear hL0 G6a G6b M6a M6b G6c M6c
    obtain ⟨rfl, hL0⟩ := hcut
    obtain ⟨p18, r18⟩ := hL0.get (x5.heap.size) g (by (repeat (first | with_reducible exact List.mem_cons_self | with_reducible refine List.mem_cons_of_mem _ ?_)))
    obtain ⟨p19, r19⟩ := hL0.get (x6.heap.size) 0 (by (repeat (first | with_reducible exact List.mem_cons_self | with_reducible refine List.mem_cons_of_mem _ ?_)))
    obtain ⟨p20, r20⟩ := hL0.get (x3.heap.size) a (by (repeat (first | with_reducible exact List.mem_cons_self | with_reducible refine List.mem_cons_of_mem _ ?_)))
    obtain ⟨p21, r21⟩ := hL0.get (x3.heap.size + 1) b (by (repeat (first | with_reducible exact List.mem_cons_self | with_reducible refine List.mem_cons_of_mem _ ?_)))
    rcases zt g with ⟨zg, zg1, zg2⟩ | ⟨hg0, zg1⟩ | ⟨hg0, zg1, zg2⟩
    · have HW := Lib.hid (works_any _ (htab.below hL0.bl))
      go_wp2_with fail
      with_reducible refine Calls.mono HW.out ?_
      rintro e x7 ⟨rfl, hb⟩
      replace hL0 := hL0.call hb
      clear hb HW
      go_wp2_with fail
      exact bodyPost_ret (v := .bool true) (by simp [results, Tryz.results12, go_sem]) rfl ⟨rfl, hL0.bl⟩
    · have da : g ∣ a := by rw [HG.out]; exact Nat.gcd_dvd_left a b
      have db : g ∣ b := by rw [HG.out]; exact Nat.gcd_dvd_right a b
      obtain ⟨p, hp⟩ : ∃ p, p = a / g := ⟨_, rfl⟩
      obtain ⟨q, hq⟩ : ∃ q, q = b / g := ⟨_, rfl⟩
      have D10 := fun w => div_pos a g hg0 (by omega) w
      rw [← hp, Nat.mod_eq_zero_of_dvd da] at D10
      have D11 := fun w => div_pos b g hg0 (by omega) w
      rw [← hq, Nat.mod_eq_zero_of_dvd db] at D11
      have hpq : Nat.gcd p q = 1 := by rw [hp, hq, HG.out]; exact Nat.coprime_div_gcd_div_gcd (by rw [← HG.out]; exact hg0)
      have dp : (digs p).length ≤ 12 := by rw [hp]; exact Nat.le_trans (digs_mono (Nat.div_le_self _ _)) dx
      have dq : (digs q).length ≤ 12 := by rw [hq]; exact Nat.le_trans (digs_mono (Nat.div_le_self _ _)) dy
      have G15 := fun w => gcd_any p q (by omega) (by omega) w
      rw [hpq] at G15
      replace G15 := Lib.hid G15
      have O15 := Lib.hid (fun w => of_val 1 1 rfl (by unfold Bs; omega) w)
      replace D10 := Lib.hid D10
      replace D11 := Lib.hid D11
      clear hp hq hpq da db dp dq
      go_wp2_with fail
      with_reducible refine Calls.mono (D10.out _) ?_
      rintro e x8 ⟨rfl, hb⟩
      replace hL0 := hL0.call hb
      clear hb D10
      replace hL0 := ((hL0.new rfl p 32).new (szA _ _) 0 32)
      generalize hweq : ((x8.alloc (.cells #[.int .u64 ((lo p : Nat) : Int), .string (hs p)] 32)).alloc (.cells #[.int .u64 ((lo 0 : Nat) : Int), .string (hs 0)] 32)) = x9 at hL0
      obtain ⟨p22, r22⟩ := hL0.get (x3.heap.size + 1) b (by (repeat (first | with_reducible exact List.mem_cons_self | with_reducible refine List.mem_cons_of_mem _ ?_)))
      obtain ⟨p23, r23⟩ := hL0.get (x5.heap.size) g (by (repeat (first | with_reducible exact List.mem_cons_self | with_reducible refine List.mem_cons_of_mem _ ?_)))
      go_wp2_with fail
      with_reducible refine Calls.mono (D11.out _) ?_
      rintro e x10 ⟨rfl, hb⟩
      replace hL0 := hL0.call hb
      clear hb D11 hweq
      replace hL0 := ((hL0.new rfl q 32).new (szA _ _) 0 32)
      generalize hweq : ((x10.alloc (.cells #[.int .u64 ((lo q : Nat) : Int), .string (hs q)] 32)).alloc (.cells #[.int .u64 ((lo 0 : Nat) : Int), .string (hs 0)] 32)) = x11 at hL0
      obtain ⟨p24, r24⟩ := hL0.get (x3.heap.size) a (by (repeat (first | with_reducible exact List.mem_cons_self | with_reducible refine List.mem_cons_of_mem _ ?_)))
      obtain ⟨p25, r25⟩ := hL0.get (x3.heap.size + 1) b (by (repeat (first | with_reducible exact List.mem_cons_self | with_reducible refine List.mem_cons_of_mem _ ?_)))
      rcases Nat.eq_zero_or_pos b with hb0 | hb0
      · have D12 : ∀ w, Calls Tryz.prog 57 #[natV a, natV b] w fun e w' => e = .returned (.tuple #[natV 0, natV 0, .bool false]) ∧ Below w.heap.size w w' := fun w => by rw [hb0]; exact div_zero a w
        replace D12 := Lib.hid D12
        clear hb0
        go_wp2_with fail
        with_reducible refine Calls.mono (D12.out _) ?_
        rintro e x12 ⟨rfl, hb⟩
        replace hL0 := hL0.call hb
        clear hb D12 hweq
        replace hL0 := ((hL0.new rfl 0 32).new (szA _ _) 0 32)
        generalize hweq : ((x12.alloc (.cells #[.int .u64 ((lo 0 : Nat) : Int), .string (hs 0)] 32)).alloc (.cells #[.int .u64 ((lo 0 : Nat) : Int), .string (hs 0)] 32)) = x13 at hL0
        go_upto_region 13 with fail
        clear hweq
        obtain ⟨α, iα, F, hF1, hF2⟩ := cls x13
        obtain ⟨q26, s26⟩ := cls_get hF1 hL0 (x3.heap.size + 1) b (by (repeat (first | with_reducible exact List.mem_cons_self | with_reducible refine List.mem_cons_of_mem _ ?_)))
        obtain ⟨q27, s27⟩ := cls_get hF1 hL0 (x12.heap.size + 1) 0 (by (repeat (first | with_reducible exact List.mem_cons_self | with_reducible refine List.mem_cons_of_mem _ ?_)))
        obtain ⟨q28, s28⟩ := cls_get hF1 hL0 (x5.heap.size) g (by (repeat (first | with_reducible exact List.mem_cons_self | with_reducible refine List.mem_cons_of_mem _ ?_)))
        refine region_cls (F := F) (by kernel_rfl) (by kernel_rfl) (cls_drew hF2) ?_
        repeat (go_big_quiet_step (first
          | fail))
        refine wpQuiet_nil ?_
        intro wq hwq
        obtain ⟨xq, rfl⟩ := hwq
        have hLq := hL0.call (hF1 xq)
        generalize F xq = wq at hLq ⊢
        replace hL0 := hLq
        clear hLq hF1 hF2
        obtain ⟨p29, r29⟩ := hL0.get (x8.heap.size + 1) 0 (by (repeat (first | with_reducible exact List.mem_cons_self | with_reducible refine List.mem_cons_of_mem _ ?_)))
        obtain ⟨p30, r30⟩ := hL0.get (x6.heap.size) 0 (by (repeat (first | with_reducible exact List.mem_cons_self | with_reducible refine List.mem_cons_of_mem _ ?_)))
        obtain ⟨p31, r31⟩ := hL0.get (x10.heap.size + 1) 0 (by (repeat (first | with_reducible exact List.mem_cons_self | with_reducible refine List.mem_cons_of_mem _ ?_)))
        obtain ⟨p32, r32⟩ := hL0.get (x8.heap.size) p (by (repeat (first | with_reducible exact List.mem_cons_self | with_reducible refine List.mem_cons_of_mem _ ?_)))
        obtain ⟨p33, r33⟩ := hL0.get (x10.heap.size) q (by (repeat (first | with_reducible exact List.mem_cons_self | with_reducible refine List.mem_cons_of_mem _ ?_)))
        go_wp2_with fail
        with_reducible refine Calls.mono (G15.out _) ?_
        rintro e x14 ⟨rfl, hb⟩
        replace hL0 := hL0.call hb
        clear hb G15
        go_wp2_with fail
        with_reducible refine Calls.mono (O15.out _) ?_
        rintro e x15 ⟨rfl, hb⟩
        replace hL0 := hL0.call hb
        clear hb O15
        have HW := Lib.hid (works_any _ (htab.below hL0.bl))
        go_wp2_with fail
        with_reducible refine Calls.mono HW.out ?_
        rintro e x16 ⟨rfl, hb⟩
        replace hL0 := hL0.call hb
        clear hb HW
        go_wp2_with fail
        exact bodyPost_ret (v := .bool true) (by simp [results, Tryz.results12, go_sem]) rfl ⟨rfl, hL0.bl⟩
      · have D12 := fun w => div_pos a b hb0 (by omega) w
        have hm : (a % b) < b := Nat.mod_lt _ hb0
        have dm : (digs (a % b)).length ≤ 12 := Nat.le_trans (digs_mono (Nat.le_of_lt hm)) dy
        have G13 := fun w => gcd_any b (a % b) (by omega) (by omega) w
        rw [Nat.gcd_comm b, ← Nat.gcd_rec, Nat.gcd_comm b, ← HG.out] at G13
        generalize a / b = q2 at *
        generalize a % b = r2 at *
        replace G13 := Lib.hid G13
        replace D12 := Lib.hid D12
        clear hb0 hm dm
        go_wp2_with fail
        with_reducible refine Calls.mono (D12.out _) ?_
        rintro e x17 ⟨rfl, hb⟩
        replace hL0 := hL0.call hb
        clear hb D12 hweq
        replace hL0 := ((hL0.new rfl q2 32).new (szA _ _) r2 32)
        generalize hweq : ((x17.alloc (.cells #[.int .u64 ((lo q2 : Nat) : Int), .string (hs q2)] 32)).alloc (.cells #[.int .u64 ((lo r2 : Nat) : Int), .string (hs r2)] 32)) = x18 at hL0
        go_upto_region 13 with fail
        clear hweq
        obtain ⟨α, iα, F, hF1, hF2⟩ := cls x18
        obtain ⟨q34, s34⟩ := cls_get hF1 hL0 (x3.heap.size + 1) b (by (repeat (first | with_reducible exact List.mem_cons_self | with_reducible refine List.mem_cons_of_mem _ ?_)))
        obtain ⟨q35, s35⟩ := cls_get hF1 hL0 (x17.heap.size + 1) r2 (by (repeat (first | with_reducible exact List.mem_cons_self | with_reducible refine List.mem_cons_of_mem _ ?_)))
        obtain ⟨q36, s36⟩ := cls_get hF1 hL0 (x5.heap.size) g (by (repeat (first | with_reducible exact List.mem_cons_self | with_reducible refine List.mem_cons_of_mem _ ?_)))
        refine region_cls (F := F) (by kernel_rfl) (by kernel_rfl) (cls_drew hF2) ?_
        repeat (go_big_quiet_step (first
          | (go_at_call 60; with_reducible exact cls_call hF1 hF2 G13.out _)))
        refine wpQuiet_nil ?_
        intro wq hwq
        obtain ⟨xq, rfl⟩ := hwq
        have hLq := hL0.call (hF1 xq)
        generalize F xq = wq at hLq ⊢
        replace hL0 := hLq
        clear hLq hF1 hF2
        obtain ⟨p37, r37⟩ := hL0.get (x8.heap.size + 1) 0 (by (repeat (first | with_reducible exact List.mem_cons_self | with_reducible refine List.mem_cons_of_mem _ ?_)))
        obtain ⟨p38, r38⟩ := hL0.get (x6.heap.size) 0 (by (repeat (first | with_reducible exact List.mem_cons_self | with_reducible refine List.mem_cons_of_mem _ ?_)))
        obtain ⟨p39, r39⟩ := hL0.get (x10.heap.size + 1) 0 (by (repeat (first | with_reducible exact List.mem_cons_self | with_reducible refine List.mem_cons_of_mem _ ?_)))
        obtain ⟨p40, r40⟩ := hL0.get (x8.heap.size) p (by (repeat (first | with_reducible exact List.mem_cons_self | with_reducible refine List.mem_cons_of_mem _ ?_)))
        obtain ⟨p41, r41⟩ := hL0.get (x10.heap.size) q (by (repeat (first | with_reducible exact List.mem_cons_self | with_reducible refine List.mem_cons_of_mem _ ?_)))
        go_wp2_with fail
        with_reducible refine Calls.mono (G15.out _) ?_
        rintro e x19 ⟨rfl, hb⟩
        replace hL0 := hL0.call hb
        clear hb G15
        go_wp2_with fail
        with_reducible refine Calls.mono (O15.out _) ?_
        rintro e x20 ⟨rfl, hb⟩
        replace hL0 := hL0.call hb
        clear hb O15
        have HW := Lib.hid (works_any _ (htab.below hL0.bl))
        go_wp2_with fail
        with_reducible refine Calls.mono HW.out ?_
        rintro e x21 ⟨rfl, hb⟩
        replace hL0 := hL0.call hb
        clear hb HW
        go_wp2_with fail
        exact bodyPost_ret (v := .bool true) (by simp [results, Tryz.results12, go_sem]) rfl ⟨rfl, hL0.bl⟩
    · have da : g ∣ a := by rw [HG.out]; exact Nat.gcd_dvd_left a b
      have db : g ∣ b := by rw [HG.out]; exact Nat.gcd_dvd_right a b
      obtain ⟨p, hp⟩ : ∃ p, p = a / g := ⟨_, rfl⟩
      obtain ⟨q, hq⟩ : ∃ q, q = b / g := ⟨_, rfl⟩
      have D10 := fun w => div_pos a g hg0 (by omega) w
      rw [← hp, Nat.mod_eq_zero_of_dvd da] at D10
      have D11 := fun w => div_pos b g hg0 (by omega) w
      rw [← hq, Nat.mod_eq_zero_of_dvd db] at D11
      have hpq : Nat.gcd p q = 1 := by rw [hp, hq, HG.out]; exact Nat.coprime_div_gcd_div_gcd (by rw [← HG.out]; exact hg0)
      have dp : (digs p).length ≤ 12 := by rw [hp]; exact Nat.le_trans (digs_mono (Nat.div_le_self _ _)) dx
      have dq : (digs q).length ≤ 12 := by rw [hq]; exact Nat.le_trans (digs_mono (Nat.div_le_self _ _)) dy
      have G15 := fun w => gcd_any p q (by omega) (by omega) w
      rw [hpq] at G15
      replace G15 := Lib.hid G15
      have O15 := Lib.hid (fun w => of_val 1 1 rfl (by unfold Bs; omega) w)
      replace D10 := Lib.hid D10
      replace D11 := Lib.hid D11
      clear hp hq hpq da db dp dq
      go_wp2_with fail
      with_reducible refine Calls.mono (D10.out _) ?_
      rintro e x22 ⟨rfl, hb⟩
      replace hL0 := hL0.call hb
      clear hb D10
      replace hL0 := ((hL0.new rfl p 32).new (szA _ _) 0 32)
      generalize hweq : ((x22.alloc (.cells #[.int .u64 ((lo p : Nat) : Int), .string (hs p)] 32)).alloc (.cells #[.int .u64 ((lo 0 : Nat) : Int), .string (hs 0)] 32)) = x23 at hL0
      obtain ⟨p42, r42⟩ := hL0.get (x3.heap.size + 1) b (by (repeat (first | with_reducible exact List.mem_cons_self | with_reducible refine List.mem_cons_of_mem _ ?_)))
      obtain ⟨p43, r43⟩ := hL0.get (x5.heap.size) g (by (repeat (first | with_reducible exact List.mem_cons_self | with_reducible refine List.mem_cons_of_mem _ ?_)))
      go_wp2_with fail
      with_reducible refine Calls.mono (D11.out _) ?_
      rintro e x24 ⟨rfl, hb⟩
      replace hL0 := hL0.call hb
      clear hb D11 hweq
      replace hL0 := ((hL0.new rfl q 32).new (szA _ _) 0 32)
      generalize hweq : ((x24.alloc (.cells #[.int .u64 ((lo q : Nat) : Int), .string (hs q)] 32)).alloc (.cells #[.int .u64 ((lo 0 : Nat) : Int), .string (hs 0)] 32)) = x25 at hL0
      obtain ⟨p44, r44⟩ := hL0.get (x3.heap.size) a (by (repeat (first | with_reducible exact List.mem_cons_self | with_reducible refine List.mem_cons_of_mem _ ?_)))
      obtain ⟨p45, r45⟩ := hL0.get (x3.heap.size + 1) b (by (repeat (first | with_reducible exact List.mem_cons_self | with_reducible refine List.mem_cons_of_mem _ ?_)))
      rcases Nat.eq_zero_or_pos b with hb0 | hb0
      · have D12 : ∀ w, Calls Tryz.prog 57 #[natV a, natV b] w fun e w' => e = .returned (.tuple #[natV 0, natV 0, .bool false]) ∧ Below w.heap.size w w' := fun w => by rw [hb0]; exact div_zero a w
        replace D12 := Lib.hid D12
        clear hb0
        go_wp2_with fail
        with_reducible refine Calls.mono (D12.out _) ?_
        rintro e x26 ⟨rfl, hb⟩
        replace hL0 := hL0.call hb
        clear hb D12 hweq
        replace hL0 := ((hL0.new rfl 0 32).new (szA _ _) 0 32)
        generalize hweq : ((x26.alloc (.cells #[.int .u64 ((lo 0 : Nat) : Int), .string (hs 0)] 32)).alloc (.cells #[.int .u64 ((lo 0 : Nat) : Int), .string (hs 0)] 32)) = x27 at hL0
        go_upto_region 13 with fail
        clear hweq
        obtain ⟨α, iα, F, hF1, hF2⟩ := cls x27
        obtain ⟨q46, s46⟩ := cls_get hF1 hL0 (x3.heap.size + 1) b (by (repeat (first | with_reducible exact List.mem_cons_self | with_reducible refine List.mem_cons_of_mem _ ?_)))
        obtain ⟨q47, s47⟩ := cls_get hF1 hL0 (x26.heap.size + 1) 0 (by (repeat (first | with_reducible exact List.mem_cons_self | with_reducible refine List.mem_cons_of_mem _ ?_)))
        obtain ⟨q48, s48⟩ := cls_get hF1 hL0 (x5.heap.size) g (by (repeat (first | with_reducible exact List.mem_cons_self | with_reducible refine List.mem_cons_of_mem _ ?_)))
        refine region_cls (F := F) (by kernel_rfl) (by kernel_rfl) (cls_drew hF2) ?_
        repeat (go_big_quiet_step (first
          | fail))
        refine wpQuiet_nil ?_
        intro wq hwq
        obtain ⟨xq, rfl⟩ := hwq
        have hLq := hL0.call (hF1 xq)
        generalize F xq = wq at hLq ⊢
        replace hL0 := hLq
        clear hLq hF1 hF2
        obtain ⟨p49, r49⟩ := hL0.get (x22.heap.size + 1) 0 (by (repeat (first | with_reducible exact List.mem_cons_self | with_reducible refine List.mem_cons_of_mem _ ?_)))
        obtain ⟨p50, r50⟩ := hL0.get (x6.heap.size) 0 (by (repeat (first | with_reducible exact List.mem_cons_self | with_reducible refine List.mem_cons_of_mem _ ?_)))
        obtain ⟨p51, r51⟩ := hL0.get (x24.heap.size + 1) 0 (by (repeat (first | with_reducible exact List.mem_cons_self | with_reducible refine List.mem_cons_of_mem _ ?_)))
        obtain ⟨p52, r52⟩ := hL0.get (x22.heap.size) p (by (repeat (first | with_reducible exact List.mem_cons_self | with_reducible refine List.mem_cons_of_mem _ ?_)))
        obtain ⟨p53, r53⟩ := hL0.get (x24.heap.size) q (by (repeat (first | with_reducible exact List.mem_cons_self | with_reducible refine List.mem_cons_of_mem _ ?_)))
        go_wp2_with fail
        with_reducible refine Calls.mono (G15.out _) ?_
        rintro e x28 ⟨rfl, hb⟩
        replace hL0 := hL0.call hb
        clear hb G15
        go_wp2_with fail
        with_reducible refine Calls.mono (O15.out _) ?_
        rintro e x29 ⟨rfl, hb⟩
        replace hL0 := hL0.call hb
        clear hb O15
        have HW := Lib.hid (works_any _ (htab.below hL0.bl))
        go_wp2_with fail
        with_reducible refine Calls.mono HW.out ?_
        rintro e x30 ⟨rfl, hb⟩
        replace hL0 := hL0.call hb
        clear hb HW
        go_wp2_with fail
        exact bodyPost_ret (v := .bool true) (by simp [results, Tryz.results12, go_sem]) rfl ⟨rfl, hL0.bl⟩
      · have D12 := fun w => div_pos a b hb0 (by omega) w
        have hm : (a % b) < b := Nat.mod_lt _ hb0
        have dm : (digs (a % b)).length ≤ 12 := Nat.le_trans (digs_mono (Nat.le_of_lt hm)) dy
        have G13 := fun w => gcd_any b (a % b) (by omega) (by omega) w
        rw [Nat.gcd_comm b, ← Nat.gcd_rec, Nat.gcd_comm b, ← HG.out] at G13
        generalize a / b = q2 at *
        generalize a % b = r2 at *
        replace G13 := Lib.hid G13
        replace D12 := Lib.hid D12
        clear hb0 hm dm
        go_wp2_with fail
        with_reducible refine Calls.mono (D12.out _) ?_
        rintro e x31 ⟨rfl, hb⟩
        replace hL0 := hL0.call hb
        clear hb D12 hweq
        replace hL0 := ((hL0.new rfl q2 32).new (szA _ _) r2 32)
        generalize hweq : ((x31.alloc (.cells #[.int .u64 ((lo q2 : Nat) : Int), .string (hs q2)] 32)).alloc (.cells #[.int .u64 ((lo r2 : Nat) : Int), .string (hs r2)] 32)) = x32 at hL0
        go_upto_region 13 with fail
        clear hweq
        obtain ⟨α, iα, F, hF1, hF2⟩ := cls x32
        obtain ⟨q54, s54⟩ := cls_get hF1 hL0 (x3.heap.size + 1) b (by (repeat (first | with_reducible exact List.mem_cons_self | with_reducible refine List.mem_cons_of_mem _ ?_)))
        obtain ⟨q55, s55⟩ := cls_get hF1 hL0 (x31.heap.size + 1) r2 (by (repeat (first | with_reducible exact List.mem_cons_self | with_reducible refine List.mem_cons_of_mem _ ?_)))
        obtain ⟨q56, s56⟩ := cls_get hF1 hL0 (x5.heap.size) g (by (repeat (first | with_reducible exact List.mem_cons_self | with_reducible refine List.mem_cons_of_mem _ ?_)))
        refine region_cls (F := F) (by kernel_rfl) (by kernel_rfl) (cls_drew hF2) ?_
        repeat (go_big_quiet_step (first
          | (go_at_call 60; with_reducible exact cls_call hF1 hF2 G13.out _)))
        refine wpQuiet_nil ?_
        intro wq hwq
        obtain ⟨xq, rfl⟩ := hwq
        have hLq := hL0.call (hF1 xq)
        generalize F xq = wq at hLq ⊢
        replace hL0 := hLq
        clear hLq hF1 hF2
        obtain ⟨p57, r57⟩ := hL0.get (x22.heap.size + 1) 0 (by (repeat (first | with_reducible exact List.mem_cons_self | with_reducible refine List.mem_cons_of_mem _ ?_)))
        obtain ⟨p58, r58⟩ := hL0.get (x6.heap.size) 0 (by (repeat (first | with_reducible exact List.mem_cons_self | with_reducible refine List.mem_cons_of_mem _ ?_)))
        obtain ⟨p59, r59⟩ := hL0.get (x24.heap.size + 1) 0 (by (repeat (first | with_reducible exact List.mem_cons_self | with_reducible refine List.mem_cons_of_mem _ ?_)))
        obtain ⟨p60, r60⟩ := hL0.get (x22.heap.size) p (by (repeat (first | with_reducible exact List.mem_cons_self | with_reducible refine List.mem_cons_of_mem _ ?_)))
        obtain ⟨p61, r61⟩ := hL0.get (x24.heap.size) q (by (repeat (first | with_reducible exact List.mem_cons_self | with_reducible refine List.mem_cons_of_mem _ ?_)))
        go_wp2_with fail
        with_reducible refine Calls.mono (G15.out _) ?_
        rintro e x33 ⟨rfl, hb⟩
        replace hL0 := hL0.call hb
        clear hb G15
        go_wp2_with fail
        with_reducible refine Calls.mono (O15.out _) ?_
        rintro e x34 ⟨rfl, hb⟩
        replace hL0 := hL0.call hb
        clear hb O15
        have HW := Lib.hid (works_any _ (htab.below hL0.bl))
        go_wp2_with fail
        with_reducible refine Calls.mono HW.out ?_
        rintro e x35 ⟨rfl, hb⟩
        replace hL0 := hL0.call hb
        clear hb HW
        go_wp2_with fail
        exact bodyPost_ret (v := .bool true) (by simp [results, Tryz.results12, go_sem]) rfl ⟨rfl, hL0.bl⟩

theorem divisors_any (vx vy vz : Value) (lx ly lz : List Nat) (w : World) (htab : Tab w) (hx : Ws w vx lx) (hy : Ws w vy ly) (hz : Ws w vz lz) :
    Calls Tryz.prog 12 #[vx, vy, vz] w fun e w' => e = .returned (.bool true) ∧ Below w.heap.size w w' := by
  by_cases h : 12 < lx.length ∨ 12 < ly.length ∨ 6 < lz.length
  · obtain ⟨ax, cx, rfl⟩ := hx.form
    obtain ⟨ay, cy, rfl⟩ := hy.form
    obtain ⟨az, cz, rfl⟩ := hz.form
    exact divisors_big ax ay az cx cy cz _ _ _ h w htab
  · exact divisors_small vx vy vz lx ly lz w htab hx hy hz (by omega) (by omega) (by omega)
end Go.Proofs.YthehcjfmokabfaaGreatDoor
