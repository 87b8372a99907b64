/-
  Layer 1, law: regions that only read, and whose callees make memory of their own: one walk serves every order.
-/
import Derived.Test.YthehcjfmokabfaaDoorLn
import Derived.BigQuiet
set_option linter.unusedVariables false
set_option linter.unusedSimpArgs false
namespace Go.Proofs.YthehcjfmokabfaaDoor
open Go.RowKit
attribute [local irreducible] lo hs sm s64 c64 d64 b64 mh ml pd pc qd qc val hiB str cmpI srD lz nb isq decB

/-- The worlds that keep what w0 holds, as the values of a function. -/
theorem cls (w0 : World) : ∃ (α : Type) (_ : Nonempty α) (F : α → World), (∀ x, Below w0.heap.size w0 (F x)) ∧ (∀ W, Below w0.heap.size w0 W → ∃ x, W = F x) :=
  ⟨{W : World // Below w0.heap.size w0 W}, ⟨⟨w0, Below.refl _ _⟩⟩, fun x => x.1, fun x => x.2, fun W h => ⟨⟨W, h⟩, rfl⟩⟩

theorem region_cls {P : Program} {α : Type} {F : α → World} {id : Nat} {Q : Exit → Act → World → Prop} {a : Act} {w : World} {l : List Oper} (hm : P.follows .mixedOrders = true) (hB : Region.lexB .any l.toArray = true)
    (hC : ∃ x, w.drew = F x) (h : wpQuiet P l.toArray (fun w' => ∃ x, w' = F x) (fun a' => ∀ w', (∃ x, w' = F x) → Q .normal a' w') l a) : (Code.region id l.toArray true).wp P Q a w :=
  wp_region_quiet (C := fun w' => ∃ x, w' = F x) hm hB hC (by simpa using h)

theorem cls_call {α : Type} {F : α → World} {w0 : World} (h1 : ∀ x, Below w0.heap.size w0 (F x)) (h2 : ∀ W, Below w0.heap.size w0 W → ∃ x, W = F x) {P : Program} {f : FuncId} {args : Array Value} {v : Value}
    (h : ∀ w, Calls P f args w fun e w' => e = .returned v ∧ Below w.heap.size w w') (x : α) : Calls P f args (F x) fun e w'' => e = .returned v ∧ ∃ y, w'' = F y :=
  (h (F x)).mono fun _ _ ⟨he, hb⟩ => ⟨he, h2 _ ((h1 x).trans (hb.mono (h1 x).size))⟩
theorem cls_callT {α : Type} {F : α → World} {w0 : World} (h1 : ∀ x, Below w0.heap.size w0 (F x)) (h2 : ∀ W, Below w0.heap.size w0 W → ∃ x, W = F x) (ht : Tab w0) {f : FuncId} {args : Array Value} {v : Value}
    (h : ∀ w, Tab w → Calls Tryd.prog f args w fun e w' => e = .returned v ∧ Below w.heap.size w w') (x : α) : Calls Tryd.prog f args (F x) fun e w'' => e = .returned v ∧ ∃ y, w'' = F y :=
  (h (F x) (ht.below (h1 x))).mono fun _ _ ⟨he, hb⟩ => ⟨he, h2 _ ((h1 x).trans (hb.mono (h1 x).size))⟩
theorem cls_get {α : Type} {F : α → World} {w0 : World} (h1 : ∀ x, Below w0.heap.size w0 (F x)) {w : World} {L : List (Nat × Nat)} (hL : NL w w0 L) (k n : Nat) (hm : (k, n) ∈ L) :
    (∀ x, (F x).cell? ⟨k, 0, none⟩ = some (.int .u64 ((lo n : Nat) : Int))) ∧ (∀ x, (F x).cell? ⟨k, 1, none⟩ = some (.string (hs n))) :=
  ⟨fun x => ((h1 x).cell (p := ⟨k, 0, none⟩) (hL.all _ hm).2.lt).trans (hL.get k n hm).1, fun x => ((h1 x).cell (p := ⟨k, 1, none⟩) (hL.all _ hm).2.lt).trans (hL.get k n hm).2⟩
theorem cls_nl {w w0 W : World} {L : List (Nat × Nat)} (hL : NL w w0 L) (hb : Below w0.heap.size w0 W) : NL w W L := hL.call hb
theorem cls_drew {α : Type} {F : α → World} {w0 : World} (h2 : ∀ W, Below w0.heap.size w0 W → ∃ x, W = F x) : ∃ x, w0.drew = F x := h2 _ (Below.refl _ _).drew
end Go.Proofs.YthehcjfmokabfaaDoor
