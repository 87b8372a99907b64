/-
  Layer 1, law: a law's numbers in new boxes, whatever the order.
-/
import Derived.Test.YthehcjfmokabfaaDoorLq
import Derived.Test.YthehcjfmokabfaaDoorRg
set_option linter.unusedVariables false
set_option linter.unusedSimpArgs false
namespace Go.Proofs.YthehcjfmokabfaaDoor
open Go.RowKit
attribute [local irreducible] lo hs sm s64 c64 d64 b64 mh ml pd pc qd qc val hiB str cmpI srD lz nb isq decB

/-- The cells of a number. -/
abbrev nc (n : Nat) : List Value := [.int .u64 ((lo n : Nat) : Int), .string (hs n)]
theorem Hd.nx {w : World} {k n : Nat} (h : Hd w k (nc n)) : NX w k n :=
  ⟨⟨h.cell 0 (by simp), h.cell 1 (by simp), fun j => h.frz j⟩, h.lt⟩
theorem nc_zero : nc 0 = [.int .u64 0, .string ⟨#[]⟩] := by unfold nc; rw [lo_small Bs_pos, hs_small Bs_pos]; rfl

theorem below_drew {x W : World} (hb : Below x.drew.heap.size x.drew W) : Below x.heap.size x W := ((Below.refl x.heap.size x).drew).trans hb
theorem NL.plus {w W : World} {L : List (Nat × Nat)} {k n : Nat} (h : NL w W L) (hw : w.heap.size ≤ k) (hk : ∀ p ∈ L, p.1 ≠ k) (hx : NX W k n) : NL w W ((k, n) :: L) := by
  refine ⟨h.bl, fun p hp => ?_, ?_⟩
  · rcases List.mem_cons.1 hp with rfl | hp
    · exact ⟨hw, hx⟩
    · exact h.all p hp
  · rw [List.map_cons, List.nodup_cons]
    exact ⟨fun hm => by obtain ⟨p, hp, he⟩ := List.mem_map.1 hm; exact hk p hp he, h.nd⟩
/-- The boxes that a region has made. -/
theorem NL.ghs {w x W : World} {L : List (Nat × Nat)} {g : Gh} {κ : Nat → Nat} (h : NL w x L) (hS : Sim x.drew g κ W) : ∀ (ds : List (Nat × Nat)), (ds.map (·.1)).Nodup → (∀ p ∈ ds, ∃ b, g p.1 = some (nc p.2, b)) →
    NL w W (ds.map (fun p => (κ p.1, p.2)) ++ L)
  | [], _, _ => h.call (below_drew hS.base)
  | p :: ds, hn, hg => by
    rw [List.map_cons, List.nodup_cons] at hn
    have ih := NL.ghs h hS ds hn.2 fun q hq => hg q (List.mem_cons_of_mem _ hq)
    obtain ⟨b, hb⟩ := hg p List.mem_cons_self
    obtain ⟨h1, h2⟩ := hS.hd _ _ _ hb
    refine ih.plus (Nat.le_trans h.bl.size h1) (fun q hq => ?_) h2.nx
    rcases List.mem_append.1 hq with hq | hq
    · obtain ⟨r, hr, rfl⟩ := List.mem_map.1 hq
      obtain ⟨b', hb'⟩ := hg r (List.mem_cons_of_mem _ hr)
      exact hS.inj _ _ (by rw [hb']; rfl) (by rw [hb]; rfl) fun e => hn.1 (List.mem_map.2 ⟨r, hr, e⟩)
    · have := (h.all q hq).2.lt
      have h1' : x.heap.size ≤ κ p.1 := h1
      omega

theorem seg_get {α : Type} {F : α → World} {x : World} (h1 : ∀ y, Below x.drew.heap.size x.drew (F y)) {w : World} {L : List (Nat × Nat)} (hL : NL w x L) (k n : Nat) (hm : (k, n) ∈ L) :
    (∀ y, (F y).cell? ⟨k, 0, none⟩ = some (.int .u64 ((lo n : Nat) : Int))) ∧ (∀ y, (F y).cell? ⟨k, 1, none⟩ = some (.string (hs n))) :=
  cls_get (fun y => below_drew (h1 y)) hL k n hm
theorem seg_callT {α : Type} {F : α → World} {x w : World} {L : List (Nat × Nat)} (h1 : ∀ y, Below x.drew.heap.size x.drew (F y)) (h2 : ∀ x W, Below (F x).heap.size (F x) W → ∃ y, W = F y) (ht : Tab w) (hL : NL w x L) {f : FuncId} {args : Array Value} {v : Value}
    (h : ∀ w, Tab w → Calls Tryd.prog f args w fun e w' => e = .returned v ∧ Below w.heap.size w w') (y : α) : Calls Tryd.prog f args (F y) fun e w'' => e = .returned v ∧ ∃ y, w'' = F y :=
  (h (F y) ((ht.below hL.bl).below (below_drew (h1 y)))).mono fun _ _ ⟨he, hb⟩ => ⟨he, h2 y _ hb⟩

theorem new_nat (w : World) : (Instr.alloc 25 true (.tuple #[])).run Tryd.prog w = .ok (.pointer (some ⟨w.heap.size, 0, none⟩)) (w.alloc (.cells (nc 0).toArray 25)) := by
  rw [nc_zero]
  simp [go_sem, Instr.alloc]
theorem hd_put2 {w : World} {k : Nat} {x0 x1 : Value} (h : Hd w k [x0, x1]) (v0 v1 : Value) : Hd ((w.setCell ⟨k, 0, none⟩ v0).setCell ⟨k, 1, none⟩ v1) k [v0, v1] := by
  have h0 : w.cell? ⟨k, 0, none⟩ = some x0 := h.cell 0 (by simp)
  have h1 : w.cell? ⟨k, 1, none⟩ = some x1 := h.cell 1 (by simp)
  have hb : Bx w k x0 x1 := ⟨h0, h1, fun j => h.frz j⟩
  have := put2 hb v0 v1
  refine ⟨fun i hi => ?_, fun j => this.2.2 j, by simp [World.setCell]; exact h.lt, row_set (row_set h.row 0 v0) 1 v1⟩
  match i, hi with
  | 0, _ => exact this.1
  | 1, _ => exact this.2.1
  | i + 2, hi => simp only [List.length_cons, List.length_nil] at hi; omega
theorem put_nat (n0 n : Nat) (w : World) (k : Nat) (h : Hd w k (nc n0)) :
    ∃ w', (Instr.storeAt 25 (.pointer (some ⟨k, 0, none⟩)) (natV n)).run Tryd.prog w = .ok () w' ∧ Hd w' k (nc n) ∧ Upd k w w' := by
  have h0 : w.cell? ⟨k, 0, none⟩ = some (.int .u64 ((lo n0 : Nat) : Int)) := h.cell 0 (by simp)
  have h1 : w.cell? ⟨k, 1, none⟩ = some (.string (hs n0)) := h.cell 1 (by simp)
  have hf := h.frz
  refine ⟨_, ?_, hd_put2 h (.int .u64 ((lo n : Nat) : Int)) (.string (hs n)), ((Upd.refl k w).setCell 0 _).setCell 1 _⟩
  simp [go_sem, Instr.storeAt, Instr.sureAddr, h0, h1, hf]
end Go.Proofs.YthehcjfmokabfaaDoor
