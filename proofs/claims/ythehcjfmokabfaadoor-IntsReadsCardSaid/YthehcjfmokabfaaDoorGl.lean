/-
  Boxes of any cells: what a call has made, with what they hold (layers 2 and on).
-/
import Derived.Test.YthehcjfmokabfaaDoorLr
import Derived.Test.YthehcjfmokabfaaDoorRq
set_option linter.unusedVariables false
set_option linter.unusedSimpArgs false
namespace Go.Proofs.YthehcjfmokabfaaDoor
open Go.RowKit

/-- Cells stored one behind the other. -/
def setAll (W : World) (k : Nat) : Nat → List Value → World
  | _, [] => W
  | i, v :: vs => setAll (W.setCell ⟨k, i, none⟩ v) k (i + 1) vs
theorem setAll_upd (k : Nat) : ∀ (c : List Value) (i : Nat) (W : World), Upd k W (setAll W k i c)
  | [], _, W => Upd.refl k W
  | v :: vs, i, W => by
    have h1 := (Upd.refl k W).setCell i v
    have h2 := setAll_upd k vs (i + 1) (W.setCell ⟨k, i, none⟩ v)
    exact ⟨h2.os.trans h1.os, h2.tape.trans h1.tape, h2.output.trans h1.output, h2.size.trans h1.size, fun j hj => (h2.block j hj).trans (h1.block j hj)⟩
theorem hd_set {W : World} {k : Nat} {c : List Value} (h : Hd W k c) (i : Nat) (v : Value) (hi : i < c.length) : Hd (W.setCell ⟨k, i, none⟩ v) k (c.set i v) := by
  refine ⟨fun j hj => ?_, fun j => by simp [go_sem, h.frz j], by simp [World.setCell]; exact h.lt, by rw [List.length_set]; exact row_set h.row i v⟩
  rw [List.length_set] at hj
  by_cases e : i = j
  · subst e
    rw [World.cell?_setCell_same _ _ _ (h.cell i hi)]
    simp
  · rw [World.cell?_setCell_other _ _ _ _ (by intro h; simp only [Addr.mk.injEq] at h; omega), h.cell j hj]
    simp [e]
theorem setAll_hd : ∀ (c : List Value) (i : Nat) (W : World) (k : Nat) (p s : List Value), p.length = i → s.length = c.length → Hd W k (p ++ s) → Hd (setAll W k i c) k (p ++ c)
  | [], i, W, k, p, s, hp, hs, h => by
    rw [List.length_nil, List.length_eq_zero_iff] at hs
    subst hs; exact h
  | v :: vs, i, W, k, p, s, hp, hs, h => by
    cases s with
    | nil => simp at hs
    | cons s0 s =>
      have h1 := hd_set h i v (by rw [List.length_append, List.length_cons]; omega)
      rw [show (p ++ s0 :: s).set i v = (p ++ [v]) ++ s by subst hp; simp] at h1
      have h2 := setAll_hd vs (i + 1) (W.setCell ⟨k, i, none⟩ v) k (p ++ [v]) s (by simp [hp]) (by simpa using hs) h1
      rw [List.append_assoc] at h2
      exact h2

/-- The boxes that a call has made, with what they hold. -/
structure GL (w0 W : World) (L : List (Nat × List Value)) : Prop where
  bl : Below w0.heap.size w0 W
  all : ∀ p ∈ L, w0.heap.size ≤ p.1 ∧ Hd W p.1 p.2
  nd : (L.map (·.1)).Nodup

theorem GL.start (w : World) : GL w w [] := ⟨Below.refl _ _, (fun p hp => by cases hp), List.nodup_nil⟩
theorem GL.call {w0 W W' : World} {L : List (Nat × List Value)} (h : GL w0 W L) (hb : Below W.heap.size W W') : GL w0 W' L :=
  ⟨h.bl.trans (hb.mono h.bl.size), fun p hp => ⟨(h.all p hp).1, (h.all p hp).2.below hb⟩, h.nd⟩
theorem GL.drew {w0 W : World} {L : List (Nat × List Value)} (h : GL w0 W L) : GL w0 W.drew L :=
  ⟨h.bl.drew, fun p hp => ⟨(h.all p hp).1, (h.all p hp).2.cell, (h.all p hp).2.frz, (h.all p hp).2.lt, (h.all p hp).2.row⟩, h.nd⟩
theorem hd_new (W : World) (c : List Value) (t : TypeId) : Hd (W.alloc (.cells c.toArray t)) W.heap.size c := by
  have hrow := heap_alloc_new W (.cells c.toArray t)
  exact ⟨fun i hi => by rw [cell_of_row _ _ i _ _ _ hrow]; simp [hi], fun j => frozen_of_row _ _ j _ _ hrow, by rw [World.size_alloc]; omega, _, _, hrow, by simp⟩
theorem GL.new {w0 W : World} {L : List (Nat × List Value)} {K : Nat} (h : GL w0 W L) (hK : W.heap.size = K) (c : List Value) (t : TypeId) : GL w0 (W.alloc (.cells c.toArray t)) ((K, c) :: L) := by
  subst hK
  have hb : Below W.heap.size W (W.alloc (.cells c.toArray t)) := (Below.refl _ _).alloc (Nat.le_refl _) _
  refine ⟨h.bl.trans (hb.mono h.bl.size), fun p hp => ?_, ?_⟩
  · rcases List.mem_cons.1 hp with rfl | hp
    · exact ⟨h.bl.size, hd_new W c t⟩
    · exact ⟨(h.all p hp).1, (h.all p hp).2.below hb⟩
  · rw [List.map_cons, List.nodup_cons]
    refine ⟨fun hm => ?_, h.nd⟩
    obtain ⟨p, hp, he⟩ := List.mem_map.1 hm
    have := (h.all p hp).2.lt
    simp only at he
    omega
theorem GL.put {w0 W : World} {L : List (Nat × List Value)} (h : GL w0 W L) (i k : Nat) (c0 : List Value) (hi : L[i]? = some (k, c0)) (c : List Value) (hc : c.length = c0.length) :
    GL w0 (setAll W k 0 c) (L.set i (k, c)) := by
  have hu := setAll_upd k c 0 W
  obtain ⟨hil, he⟩ := List.getElem?_eq_some_iff.1 hi
  have hm : (k, c0) ∈ L := he ▸ List.getElem_mem hil
  have hk := h.all _ hm
  have hd := setAll_hd c 0 W k [] c0 rfl hc.symm hk.2
  have hmap : (L.set i (k, c)).map (·.1) = L.map (·.1) := by
    rw [List.map_set]
    apply List.ext_getElem?
    intro j
    by_cases e : i = j
    · subst e
      rw [List.getElem?_set_self (by simpa using hil), List.getElem?_map, hi]; rfl
    · rw [List.getElem?_set_ne e]
  refine ⟨h.bl.trans (hu.below hk.1), fun p hp => ?_, by rw [hmap]; exact h.nd⟩
  obtain ⟨j, hj, hpj⟩ := List.getElem_of_mem hp
  by_cases e : i = j
  · subst e
    rw [List.getElem_set_self] at hpj
    subst hpj
    exact ⟨hk.1, hd⟩
  · rw [List.getElem_set_ne e] at hpj
    rw [List.length_set] at hj
    have hp' : p ∈ L := hpj ▸ List.getElem_mem hj
    have hne : p.1 ≠ k := fun e2 => by
      have h1 : (L.map (·.1))[i]? = some k := by rw [List.getElem?_map, hi]; rfl
      have h2 : (L.map (·.1))[j]? = some k := by rw [List.getElem?_map, List.getElem?_eq_getElem hj, hpj]; simp [e2]
      exact e ((List.getElem?_inj (by simpa using hil) h.nd).1 (h1.trans h2.symm))
    exact ⟨(h.all p hp').1, hu.hd hne (h.all p hp').2⟩
theorem GL.get {w0 W : World} {L : List (Nat × List Value)} (h : GL w0 W L) (k : Nat) (c : List Value) (hm : (k, c) ∈ L) : Hd W k c := (h.all _ hm).2
theorem GL.weak {w0 W : World} {L L' : List (Nat × List Value)} (h : GL w0 W L) (hs : L'.Sublist L) : GL w0 W L' :=
  ⟨h.bl, fun p hp => h.all p (hs.subset hp), h.nd.sublist (hs.map _)⟩

/-- No int lies in a box that holds none. -/
theorem Hd.no_int {w : World} {k : Nat} {c : List Value} (h : Hd w k c) (hc : ∀ v ∈ c, ∀ n, v ≠ .int .i64 n) {a : Addr} {n : Int} (hx : w.cell? a = some (.int .i64 n)) : a.block ≠ k := by
  intro e
  obtain ⟨arr, t, h1, h2⟩ := h.row
  unfold World.cell? at hx
  rw [e, h1] at hx
  simp only at hx
  split at hx
  · cases hx
  · rename_i hs
    have ho : a.off < c.length := by
      have := (Array.getElem?_eq_some_iff.1 hx).1
      omega
    have h3 := h.cell a.off ho
    unfold World.cell? at h3
    simp only [h1] at h3
    rw [if_neg (by simp)] at h3
    rw [hx] at h3
    exact hc c[a.off] (List.getElem_mem ho) n (Option.some.inj h3).symm

/-- What cells hold, one fact each. -/
def cellsF (W : World) (k : Nat) : Nat → List Value → Prop
  | _, [] => True
  | i, v :: vs => W.cell? ⟨k, i, none⟩ = some v ∧ cellsF W k (i + 1) vs
theorem cells_of {W : World} {k : Nat} : ∀ (c : List Value) (i : Nat) (p : List Value), p.length = i → Hd W k (p ++ c) → cellsF W k i c
  | [], _, _, _, _ => trivial
  | v :: vs, i, p, hp, h => ⟨by have := h.cell i (by rw [List.length_append, List.length_cons]; omega); rw [this]; subst hp; simp,
      cells_of vs (i + 1) (p ++ [v]) (by simp [hp]) (by rw [List.append_assoc]; exact h)⟩
def neK (k : Nat) : List (Nat × List Value) → Prop
  | [] => True
  | p :: L => k ≠ p.1 ∧ p.1 ≠ k ∧ neK k L
theorem neK_of {k : Nat} : ∀ {L : List (Nat × List Value)}, k ∉ L.map (·.1) → neK k L
  | [], _ => trivial
  | p :: L, h => by
    simp only [List.map_cons, List.mem_cons, not_or] at h
    exact ⟨h.1, fun e => h.1 e.symm, neK_of h.2⟩
def fcG (W : World) : List (Nat × List Value) → Prop
  | [] => True
  | p :: L => cellsF W p.1 0 p.2 ∧ (∀ j, W.frozen? ⟨p.1, j, none⟩ = false) ∧ neK p.1 L ∧ fcG W L
theorem GL.fc {w0 W : World} : ∀ {L : List (Nat × List Value)}, GL w0 W L → fcG W L
  | [], _ => trivial
  | p :: L, h => ⟨cells_of p.2 0 [] rfl (h.all p List.mem_cons_self).2, (h.all p List.mem_cons_self).2.frz, neK_of (List.nodup_cons.1 h.nd).1,
      GL.fc (L := L) ⟨h.bl, fun q hq => h.all q (List.mem_cons_of_mem _ hq), (List.nodup_cons.1 h.nd).2⟩⟩

/-! In a class of worlds that keep what z holds. -/
def cellsC {α : Type} (F : α → World) (k : Nat) : Nat → List Value → Prop
  | _, [] => True
  | i, v :: vs => (∀ x, (F x).cell? ⟨k, i, none⟩ = some v) ∧ cellsC F k (i + 1) vs
theorem cellsC_of {α : Type} {F : α → World} {k : Nat} : ∀ (c : List Value) (i : Nat), (∀ x, cellsF (F x) k i c) → cellsC F k i c
  | [], _, _ => trivial
  | v :: vs, i, h => ⟨fun x => (h x).1, cellsC_of vs (i + 1) fun x => (h x).2⟩
def fcC {α : Type} (F : α → World) : List (Nat × List Value) → Prop
  | [] => True
  | p :: L => cellsC F p.1 0 p.2 ∧ fcC F L
theorem GL.fcC {α : Type} {F : α → World} {z : World} (h1 : ∀ x, Below z.heap.size z (F x)) {w : World} : ∀ {L : List (Nat × List Value)}, GL w z L → fcC F L
  | [], _ => trivial
  | p :: L, h => ⟨cellsC_of p.2 0 fun x => cells_of p.2 0 [] rfl ((h.all p List.mem_cons_self).2.below (h1 x)), GL.fcC h1 (L := L) ⟨h.bl, fun q hq => h.all q (List.mem_cons_of_mem _ hq), (List.nodup_cons.1 h.nd).2⟩⟩

/-- The boxes that a region has made. -/
theorem GL.ghs {w x W : World} {L : List (Nat × List Value)} {g : Gh} {κ : Nat → Nat} (h : GL w x L) (hS : Sim x.drew g κ W) : ∀ (ds : List (Nat × List Value)), (ds.map (·.1)).Nodup → (∀ p ∈ ds, ∃ b, g p.1 = some (p.2, b)) →
    GL w W (ds.map (fun p => (κ p.1, p.2)) ++ L)
  | [], _, _ => h.call (below_drew hS.base)
  | p :: ds, hn, hg => by
    rw [List.map_cons, List.nodup_cons] at hn
    have ih := GL.ghs h hS ds hn.2 fun q hq => hg q (List.mem_cons_of_mem _ hq)
    obtain ⟨b, hb⟩ := hg p List.mem_cons_self
    obtain ⟨h1, h2⟩ := hS.hd _ _ _ hb
    refine ⟨ih.bl, fun q hq => ?_, ?_⟩
    · rw [List.map_cons, List.cons_append] at hq
      rcases List.mem_cons.1 hq with rfl | hq
      · exact ⟨Nat.le_trans h.bl.size h1, h2⟩
      · exact ih.all q hq
    · rw [List.map_cons, List.cons_append, List.map_cons, List.nodup_cons]
      refine ⟨fun hm => ?_, ih.nd⟩
      obtain ⟨q, hq, he⟩ := List.mem_map.1 hm
      rcases List.mem_append.1 hq with hq | hq
      · obtain ⟨r, hr, rfl⟩ := List.mem_map.1 hq
        obtain ⟨b', hb'⟩ := hg r (List.mem_cons_of_mem _ hr)
        exact hS.inj _ _ (by rw [hb']; rfl) (by rw [hb]; rfl) (fun e => hn.1 (List.mem_map.2 ⟨r, hr, e⟩)) he
      · have := (h.all q hq).2.lt
        have h1' : x.heap.size ≤ κ p.1 := h1
        simp only at he
        omega
theorem GL.seg {α : Type} {F : α → World} {x : World} (h1 : ∀ y, Below x.drew.heap.size x.drew (F y)) {w : World} {L : List (Nat × List Value)} (hL : GL w x L) : Go.Proofs.YthehcjfmokabfaaDoor.fcC F L := GL.fcC (fun y => below_drew (h1 y)) hL
end Go.Proofs.YthehcjfmokabfaaDoor
