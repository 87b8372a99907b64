/-
  Regions that draw their order and hold calls, new boxes and one store into each of these: one walk in the order of the text serves every order.
-/
import Derived.BigQuiet
import Derived.Below
import Derived.Laws.Rows
import Derived.Test.YthehcjfmokabfaaGreatDoorYm
import Derived.Test.YthehcjfmokabfaaGreatDoorYa
import Derived.Test.YthehcjfmokabfaaGreatDoorYi
set_option linter.unusedVariables false
set_option linter.unusedSimpArgs false
namespace Go.Proofs.YthehcjfmokabfaaGreatDoor
open Go Go.RowKit

/-! ### A call returns one value -/

theorem runN_next {P : Program} {n m : Nat} {a b c : Machine} (h1 : runN P n a = .next b) (h2 : runN P (n + m) a = .next c) : runN P m b = .next c := by
  rw [runN_add, h1] at h2
  exact h2

/-- A frame of no function: once its callee has returned, nothing goes on. -/
def deadF (P : Program) : Frame := { fn := P.funcs.size, tmps := #[], todo := [.code (.refuse "")], defers := [], mode := .run, kind := .normal }
theorem dead_finish (P : Program) (v : Value) : (deadF P).finish v = deadF P := rfl
theorem dead_stops {P : Program} {w : World} : ∀ m, step P (lone (deadF P) [] w) ≠ .next m := by
  have h : ∃ o w', step P (lone (deadF P) [] w) = .ended o w' := by
    generalize hs : stepG P true { frame := deadF P, callers := [], status := .running, dying := none } w = s
    have hb : ∃ o w', s.bare = .ended o w' := by
      rw [← hs]
      exact ⟨_, _, by simp [stepG, stepG.exec, deadF]; exact ⟨rfl, rfl⟩⟩
    obtain ⟨o, w', hb⟩ := hb
    exact ⟨o, w', step_lone_ended (by rw [hs]; exact hb)⟩
  obtain ⟨o, w', h⟩ := h
  intro m hm
  rw [h] at hm
  cases hm

theorem Calls.uniq {P : Program} {f : FuncId} {args : Array Value} {w : World} {v1 v2 : Value} {A B : World → Prop}
    (h1 : Calls P f args w fun e w' => e = .returned v1 ∧ A w') (h2 : Calls P f args w fun e w' => e = .returned v2 ∧ B w') : v1 = v2 := by
  obtain ⟨e1, w1, fr1, ⟨rfl, -⟩, c1, f1, l1⟩ := h1 [deadF P]
  obtain ⟨e2, w2, fr2, ⟨rfl, -⟩, c2, f2, l2⟩ := h2 [deadF P]
  obtain ⟨n1, s1⟩ := (show Steps P _ _ from c1)
  obtain ⟨n2, s2⟩ := (show Steps P _ _ from c2)
  have key : ∀ {n m : Nat} {fr fr' : Frame} {w w' : World} {v v' : Value} {M : Machine}, runN P n M = .next (lone fr [deadF P] w) → runN P (n + m) M = .next (lone fr' [deadF P] w') →
      fr.leaving P w (.returned v) → fr'.leaving P w' (.returned v') → fr = fr' ∧ w = w' := by
    intro n m fr fr' w w' v v' M a b la lb
    have hc := runN_next a b
    have hst := step_leave_returned (cs := []) (c := deadF P) la
    rw [dead_finish] at hst
    cases m with
    | zero =>
      simp only [runN] at hc
      have := Stepped.next.inj hc
      simp [lone] at this
      exact ⟨this.2, this.1⟩
    | succ m =>
      simp only [runN, hst] at hc
      cases m with
      | zero =>
        simp only [runN] at hc
        have := Stepped.next.inj hc
        simp [lone] at this
      | succ m =>
        simp only [runN] at hc
        cases hd : step P (lone (deadF P) [] w) with
        | next m' => exact absurd hd (dead_stops m')
        | ended o w'' => rw [hd] at hc; cases hc
  have hh : fr1 = fr2 ∧ w1 = w2 := by
    rcases Nat.le_total n1 n2 with h | h
    · obtain ⟨m, rfl⟩ := Nat.exists_eq_add_of_le h
      exact key s1 s2 l1 l2
    · obtain ⟨m, rfl⟩ := Nat.exists_eq_add_of_le h
      have := key s2 s1 l2 l1
      exact ⟨this.1.symm, this.2.symm⟩
  obtain ⟨rfl, rfl⟩ := hh
  obtain ⟨-, -, -, fn1, hf1, hr1⟩ := l1
  obtain ⟨-, -, -, fn2, hf2, hr2⟩ := l2
  rw [hf1] at hf2
  obtain rfl := Option.some.inj hf2
  rw [hr1] at hr2
  exact (Result.ok.inj hr2).1

/-! ### Boxes -/

/-- What a box holds. -/
structure Hd (w : World) (k : Nat) (c : List Value) : Prop where
  cell : ∀ i (h : i < c.length), w.cell? ⟨k, i, none⟩ = some c[i]
  frz : ∀ j, w.frozen? ⟨k, j, none⟩ = false
  lt : k < w.heap.size
theorem Hd.below {w w' : World} {k : Nat} {c : List Value} (h : Hd w k c) (hb : Below w.heap.size w w') : Hd w' k c :=
  ⟨fun i hi => (hb.cell (p := ⟨k, i, none⟩) h.lt).trans (h.cell i hi), fun j => (hb.frozen (p := ⟨k, j, none⟩) h.lt).trans (h.frz j), Nat.lt_of_lt_of_le h.lt hb.size⟩

/-- Only the block k has turned. -/
structure Upd (k : Nat) (w w' : World) : Prop where
  os : w'.os = w.os
  tape : w'.tape = w.tape
  output : w'.output = w.output
  size : w'.heap.size = w.heap.size
  block : ∀ j, j ≠ k → w'.heap[j]? = w.heap[j]?
theorem Upd.refl (k : Nat) (w : World) : Upd k w w := ⟨rfl, rfl, rfl, rfl, fun _ _ => rfl⟩
theorem Upd.setCell {k : Nat} {a w : World} (h : Upd k a w) (i : Nat) (v : Value) : Upd k a (w.setCell ⟨k, i, none⟩ v) :=
  ⟨h.os, h.tape, h.output, by rw [← h.size]; simp [World.setCell], fun j hj => (Below.heap_setCell _ _ _ _ hj).trans (h.block j hj)⟩
theorem Upd.below {k B : Nat} {w w' : World} (h : Upd k w w') (hB : B ≤ k) : Below B w w' :=
  ⟨h.os, h.tape, h.output, Nat.le_of_eq h.size.symm, fun j hj => h.block j (by omega)⟩
theorem Upd.hd {k j : Nat} {c : List Value} {w w' : World} (h : Upd k w w') (hj : j ≠ k) (hd : Hd w j c) : Hd w' j c :=
  ⟨fun i hi => (World.cell?_of_block (w := w) (h.block j hj)).trans (hd.cell i hi), fun i => (World.frozen?_of_block (w := w) (h.block j hj)).trans (hd.frz i), by rw [h.size]; exact hd.lt⟩

/-! ### What an operation does -/

inductive Eff where
  | quiet (v : Value)
  | new (c : List Value)
  | put (d : Nat) (c : List Value)
def Eff.val : Eff → Value
  | .quiet v => v
  | _ => undef
/-- The new boxes: by the slot that holds the box's address, what it holds, and whether it has been stored into. -/
abbrev Gh := Nat → Option (List Value × Bool)
def upd (g : Gh) (d : Nat) (x : List Value × Bool) : Gh := fun t => if t = d then some x else g t
theorem upd_same (g : Gh) (d : Nat) (x : List Value × Bool) : upd g d x d = some x := by simp [upd]
theorem upd_ne (g : Gh) {d t : Nat} (x : List Value × Bool) (h : t ≠ d) : upd g d x t = g t := by simp [upd, h]
theorem upd_comm (g : Gh) {d t : Nat} (x y : List Value × Bool) (h : d ≠ t) : upd (upd g d x) t y = upd (upd g t y) d x := by
  funext s
  by_cases h1 : s = t
  · subst h1; rw [upd_same, upd_ne _ _ (fun e => h e.symm), upd_same]
  · by_cases h2 : s = d
    · subst h2; rw [upd_ne _ _ h1, upd_same, upd_same]
    · rw [upd_ne _ _ h1, upd_ne _ _ h2, upd_ne _ _ h2, upd_ne _ _ h1]
theorem upd_none {g : Gh} {d t : Nat} {x : List Value × Bool} (h : upd g d x t = none) : t ≠ d ∧ g t = none := by
  by_cases h1 : t = d
  · subst h1; rw [upd_same] at h; cases h
  · exact ⟨h1, by rwa [upd_ne _ _ h1] at h⟩
def Eff.gh (o : Oper) (g : Gh) : Eff → Gh
  | .quiet _ => g
  | .new c => match o.dst with | some d => upd g d (c, false) | none => g
  | .put d c => upd g d (c, true)

/-- The slot that an operation's guard looks at. -/
def guardT (ops : Array Oper) (o : Oper) : List Nat := match o.guard with | some (g, _) => ((ops[g]?).bind (·.dst)).toList | none => []
theorem guardT_looks {ops : Array Oper} {o : Oper} {t : Nat} (h : t ∈ guardT ops o) : t ∈ o.looksAt ops := List.mem_append_right _ h
def operT : Operand → List Nat | .tmp t => [t] | _ => []
theorem oper_looks {ops : Array Oper} {o : Oper} {x : Operand} (hx : x ∈ o.op.operands) {t : Nat} (h : t ∈ operT x) : t ∈ o.looksAt ops := by
  cases x <;> simp only [operT, List.mem_singleton, List.not_mem_nil] at h
  subst h
  exact List.mem_append_left _ (List.mem_filterMap.2 ⟨_, by simpa using hx, rfl⟩)

section
variable {P : Program} {ops : Array Oper} {md : Region.Mode} {w0 : World}

/-- What an operation does, in every world that keeps what was there. -/
def Valid (P : Program) (ops : Array Oper) (w0 : World) (o : Oper) (a : Act) (g : Gh) : Eff → Prop
  | .quiet v => (∀ t ∈ o.looksAt ops, g t = none) ∧ (∀ d, o.dst = some d → g d = none) ∧
      ((Region.wanted o (yielded ops a.tmps) = true ∧ ∀ w, Below w0.heap.size w0 w → o.quietAt P a (fun w'' => Below w.heap.size w w'') w v) ∨ (Region.wanted o (yielded ops a.tmps) = false ∧ v = undef))
  | .new c => (∀ t ∈ guardT ops o, g t = none) ∧ Region.wanted o (yielded ops a.tmps) = true ∧ ∃ d e t, o.op = .alloc e ∧ o.dst = some d ∧ d < a.tmps.size ∧ g d = none ∧
      ∀ w, (Instr.alloc e true (.tuple #[])).run P w = .ok (.pointer (some ⟨w.heap.size, 0, none⟩)) (w.alloc (.cells c.toArray t))
  | .put d c => (∀ t ∈ guardT ops o, g t = none) ∧ (∀ d, o.dst = some d → g d = none) ∧ Region.wanted o (yielded ops a.tmps) = true ∧ ∃ t x c0, o.op = .store t (.tmp d) x ∧ (∀ t ∈ operT x, g t = none) ∧ g d = some (c0, false) ∧
      ∀ w k, Hd w k c0 → ∃ w', (Instr.storeAt t (.pointer (some ⟨k, 0, none⟩)) (a.eval x)).run P w = .ok () w' ∧ Hd w' k c ∧ Upd k w w'

theorem size_put (a : Act) (dst : Option Tmp) (v : Value) : (a.put dst v).tmps.size = a.tmps.size := by cases dst <;> simp [Act.put]
theorem quietAt_put {C : World → Prop} {o : Oper} (hs : ∀ cs b, o.op ≠ .select cs b) {a : Act} {dst : Option Tmp} {v u : Value} {w : World} (h : ∀ d, dst = some d → d ∉ o.looksAt ops) :
    o.quietAt P (a.put dst v) C w u ↔ o.quietAt P a C w u := by unfold Oper.quietAt; rw [execOp_put o hs a dst v h]
theorem eval_put' {o : Oper} {x : Operand} (hx : x ∈ o.op.operands) {a : Act} {dst : Option Tmp} {v : Value} (h : ∀ d, dst = some d → d ∉ o.looksAt ops) : (a.put dst v).eval x = a.eval x :=
  Act.eval_put fun d hd e => h d hd (oper_looks hx (by subst e; simp [operT]))

theorem Valid.back {oi oj : Oper} {a : Act} {g : Gh} {yi yj : Eff} (hap : oi.apart ops oj = true) (hsi : ∀ cs b, oi.op ≠ .select cs b) (hsj : ∀ cs b, oj.op ≠ .select cs b)
    (hi : Valid P ops w0 oi a g yi) (hj : Valid P ops w0 oj (a.put oi.dst yi.val) (yi.gh oi g) yj) :
    Valid P ops w0 oj a g yj ∧ Valid P ops w0 oi (a.put oj.dst yj.val) (yj.gh oj g) yi ∧ yi.gh oi (yj.gh oj g) = yj.gh oj (yi.gh oi g) := by
  obtain ⟨h1, h2, h3⟩ := Oper.apart_spec hap
  have gi : ∀ {t}, yi.gh oi g t = none → g t = none := fun {t} h => by
    cases yi with
    | quiet v => exact h
    | new c => cases hd : oi.dst <;> simp only [Eff.gh, hd] at h; exact h; exact (upd_none h).2
    | put d c => exact (upd_none h).2
  have hwj := wanted_put (ops := ops) oj a oi.dst yi.val h1
  have hwi := fun (u : Value) => wanted_put (ops := ops) oi a oj.dst u h3
  -- backward: oj at (a, g)
  have A : Valid P ops w0 oj a g yj := by
    cases yj with
    | quiet v =>
      obtain ⟨q1, q2, q3⟩ := hj
      rw [hwj] at q3
      refine ⟨fun t ht => gi (q1 t ht), fun d hd => gi (q2 d hd), ?_⟩
      rcases q3 with ⟨q3, q4⟩ | q3
      · exact .inl ⟨q3, fun w hw => (quietAt_put hsj h1).1 (q4 w hw)⟩
      · exact .inr q3
    | new c =>
      obtain ⟨q1, q2, d, e, t, q3, q4, q5, q6, q7⟩ := hj
      rw [hwj] at q2
      rw [size_put] at q5
      exact ⟨fun t ht => gi (q1 t ht), q2, d, e, t, q3, q4, q5, gi q6, q7⟩
    | put d c =>
      obtain ⟨q1, q0, q2, t, x, c0, q3, q4, q5, q6⟩ := hj
      rw [hwj] at q2
      have hx : x ∈ oj.op.operands := by rw [q3]; simp [Op.operands]
      have hd : d ∈ oj.looksAt ops := oper_looks (x := .tmp d) (by rw [q3]; simp [Op.operands]) (by simp [operT])
      rw [eval_put' hx h1] at q6
      refine ⟨fun t ht => gi (q1 t ht), fun d hd => gi (q0 d hd), q2, t, x, c0, q3, fun t ht => gi (q4 t ht), ?_, q6⟩
      cases yi with
      | quiet v => exact q5
      | new c' =>
        obtain ⟨-, -, d', e', t', -, r4, -⟩ := hi
        simp only [Eff.gh, r4] at q5
        have hne : d ≠ d' := fun e => h1 d' r4 (by rw [← e]; exact hd)
        rwa [upd_ne _ _ hne] at q5
      | put d' c' =>
        simp only [Eff.gh] at q5
        by_cases e : d = d'
        · subst e; rw [upd_same] at q5; simp at q5
        · rwa [upd_ne _ _ e] at q5
  -- forward
  have gj : ∀ {t}, g t = none → (∀ d, oj.dst = some d → d ≠ t) → yj.gh oj g t = none := fun {t} h hn => by
    cases yj with
    | quiet v => exact h
    | new c =>
      obtain ⟨-, -, d, e, t', -, r4, -⟩ := A
      simp only [Eff.gh, r4]
      rw [upd_ne _ _ (fun e => hn d r4 e.symm)]; exact h
    | put d c =>
      obtain ⟨-, -, -, t', x, c0, -, -, r5, -⟩ := A
      simp only [Eff.gh]
      rw [upd_ne _ _ (fun e => by subst e; rw [h] at r5; cases r5)]; exact h
  have nl : ∀ {t}, t ∈ oi.looksAt ops → ∀ d, oj.dst = some d → d ≠ t := fun {t} ht d hd e => h3 d hd (e ▸ ht)
  have nd : ∀ {t}, oi.dst = some t → ∀ d, oj.dst = some d → d ≠ t := fun {t} ht d hd e => h2 t ht (e ▸ hd)
  have B : Valid P ops w0 oi (a.put oj.dst yj.val) (yj.gh oj g) yi := by
    cases yi with
    | quiet v =>
      obtain ⟨q1, q2, q3⟩ := hi
      refine ⟨fun t ht => gj (q1 t ht) (nl ht), fun d hd => gj (q2 d hd) (nd hd), ?_⟩
      rw [hwi]
      rcases q3 with ⟨q3, q4⟩ | q3
      · exact .inl ⟨q3, fun w hw => (quietAt_put hsi h3).2 (q4 w hw)⟩
      · exact .inr q3
    | new c =>
      obtain ⟨q1, q2, d, e, t, q3, q4, q5, q6, q7⟩ := hi
      exact ⟨fun t ht => gj (q1 t ht) (nl (guardT_looks ht)), by rw [hwi]; exact q2, d, e, t, q3, q4, by rw [size_put]; exact q5, gj q6 (nd q4), q7⟩
    | put d c =>
      obtain ⟨q1, q0, q2, t, x, c0, q3, q4, q5, q6⟩ := hi
      have hx : x ∈ oi.op.operands := by rw [q3]; simp [Op.operands]
      refine ⟨fun t ht => gj (q1 t ht) (nl (guardT_looks ht)), fun d hd => gj (q0 d hd) (nd hd), by rw [hwi]; exact q2, t, x, c0, q3, fun t ht => gj (q4 t ht) (nl (oper_looks hx ht)), ?_, by rw [eval_put' hx h3]; exact q6⟩
      cases yj with
      | quiet v => exact q5
      | new c' =>
        obtain ⟨-, -, d', e', t', -, r4, -, r6, -⟩ := A
        simp only [Eff.gh, r4]
        rw [upd_ne _ _ (fun e => by subst e; rw [r6] at q5; cases q5)]; exact q5
      | put d' c' =>
        obtain ⟨-, -, -, t', x', c0', -, -, r5, -⟩ := hj
        simp only [Eff.gh] at r5 ⊢
        have hne : d ≠ d' := fun e => by subst e; rw [upd_same] at r5; simp at r5
        rw [upd_ne _ _ hne]; exact q5
  refine ⟨A, B, ?_⟩
  cases yi with
  | quiet v => rfl
  | new c =>
    obtain ⟨-, -, d, e, t, q3, q4, q5, q6, q7⟩ := hi
    cases yj with
    | quiet v => rfl
    | new c' =>
      obtain ⟨-, -, d', e', t', -, r4, -, r6, -⟩ := hj
      simp only [Eff.gh, q4, r4] at r6 ⊢
      exact upd_comm _ _ _ (fun e => (upd_none r6).1 e.symm |>.elim) |> fun h => by first | exact h | exact h.symm
    | put d' c' =>
      obtain ⟨-, -, -, t', x', c0', r3, -⟩ := hj
      have hd : d' ∈ oj.looksAt ops := oper_looks (x := .tmp d') (by rw [r3]; simp [Op.operands]) (by simp [operT])
      simp only [Eff.gh, q4]
      exact upd_comm _ _ _ (fun e => h1 d q4 (by rw [← e]; exact hd))
  | put d c =>
    obtain ⟨-, -, -, t, x, c0, -, -, q5, -⟩ := hi
    cases yj with
    | quiet v => rfl
    | new c' =>
      obtain ⟨-, -, d', e', t', -, r4, -, r6, -⟩ := hj
      simp only [Eff.gh, r4] at r6 ⊢
      exact upd_comm _ _ _ (fun e => (upd_none r6).1 e.symm |>.elim) |> fun h => by first | exact h | exact h.symm
    | put d' c' =>
      obtain ⟨-, -, -, t', x', c0', -, -, r5, -⟩ := hj
      simp only [Eff.gh] at r5 ⊢
      have hne : d' ≠ d := fun e => by subst e; rw [upd_same] at r5; simp at r5
      exact upd_comm _ _ _ hne

/-! ### Every order -/

def gOp (P : Program) (ops : Array Oper) (w0 : World) (i : Nat) (K : Act → Gh → Prop) (a : Act) (g : Gh) : Prop :=
  match ops[i]? with
  | none => K a g
  | some o => ∃ y, Valid P ops w0 o a g y ∧ K (a.put o.dst y.val) (y.gh o g)
theorem gOp_mono {i : Nat} {a : Act} {g : Gh} {K K' : Act → Gh → Prop} (h : ∀ a g, K a g → K' a g) (hh : gOp P ops w0 i K a g) : gOp P ops w0 i K' a g := by
  unfold gOp at *
  split
  · exact h _ _ (by simpa [*] using hh)
  · rename_i o ho
    simp only [ho] at hh
    obtain ⟨y, h1, h2⟩ := hh
    exact ⟨y, h1, h _ _ h2⟩
theorem gOp_of {i : Nat} {o : Oper} {y : Eff} {a : Act} {g : Gh} (hi : ops[i]? = some o) (hy : Valid P ops w0 o a g y) {K : Act → Gh → Prop} (h : K (a.put o.dst y.val) (y.gh o g)) : gOp P ops w0 i K a g := by
  unfold gOp; simp only [hi]; exact ⟨y, hy, h⟩

def wpAnyG (P : Program) (md : Region.Mode) (ops : Array Oper) (w0 : World) (Q : Act → Gh → Prop) : Nat → Array Bool → Act → Gh → Prop
  | 0, listed, a, g => Region.ready md ops listed = [] ∧ Q a g
  | fuel + 1, listed, a, g => (Region.ready md ops listed = [] → Q a g) ∧ ∀ i ∈ Region.ready md ops listed, gOp P ops w0 i (wpAnyG P md ops w0 Q fuel (listed.setIfInBounds i true)) a g

theorem gOp_put {j : Nat} {oi oj : Oper} {y : Eff} (hj : ops[j]? = some oj) (hap : oi.apart ops oj = true) (hsi : ∀ cs b, oi.op ≠ .select cs b) (hsj : ∀ cs b, oj.op ≠ .select cs b) {K : Act → Gh → Prop} {a : Act} {g : Gh}
    (hy : Valid P ops w0 oi a g y) (h : gOp P ops w0 j K (a.put oi.dst y.val) (y.gh oi g)) :
    gOp P ops w0 j (fun a' g' => Valid P ops w0 oi a' g' y ∧ K (a'.put oi.dst y.val) (y.gh oi g')) a g := by
  obtain ⟨h1, h2, h3⟩ := Oper.apart_spec hap
  unfold gOp at *
  simp only [hj] at *
  obtain ⟨z, hz, hK⟩ := h
  obtain ⟨A, B, C⟩ := Valid.back hap hsi hsj hy hz
  refine ⟨z, A, B, ?_⟩
  rw [C, ← Act.put_comm a y.val z.val h2]
  exact hK

theorem wpAnyG_first {Q : Act → Gh → Prop} {i : Nat} {oi : Oper} {y : Eff} (hi : ops[i]? = some oi) (hsel : ∀ (j : Nat) (o : Oper) cs b, ops[j]? = some o → o.op ≠ .select cs b) :
    ∀ (fuel : Nat) (listed : Array Bool) (a : Act) (g : Gh),
      (∀ j oj, ops[j]? = some oj → j ≠ i → listed.getD j true = false → (∀ e ∈ oj.after, Region.binds md e = true → e.on ≠ i) → oi.apart ops oj = true) →
      i ∈ Region.ready md ops listed → Valid P ops w0 oi a g y →
      wpAnyG P md ops w0 Q fuel (listed.setIfInBounds i true) (a.put oi.dst y.val) (y.gh oi g) → wpAnyG P md ops w0 Q (fuel + 1) listed a g := by
  intro fuel
  induction fuel with
  | zero =>
    intro listed a g _ hr hy H
    refine ⟨fun h => (by rw [h] at hr; cases hr), fun j hj => ?_⟩
    by_cases hji : j = i
    · subst hji; exact gOp_of hi hy H
    · have := ready_mono hj hji
      rw [H.1] at this
      cases this
  | succ fuel ih =>
    intro listed a g hfree hr hy H
    refine ⟨fun h => (by rw [h] at hr; cases hr), fun j hj => ?_⟩
    by_cases hji : j = i
    · subst hji; exact gOp_of hi hy H
    · have h1 := H.2 j (ready_mono hj hji)
      obtain ⟨hjun, oj, hoj, hall⟩ := mem_ready.1 hj
      have hnot : ∀ e ∈ oj.after, Region.binds md e = true → e.on ≠ i := fun e he hb heq => by
        have h1 := hall e he hb
        have h0 := (mem_ready.1 hr).1
        rw [heq] at h1
        rcases Nat.lt_or_ge i listed.size with h' | h'
        · simp [h'] at h0 h1; rw [h0] at h1; cases h1
        · simp [Array.getElem?_eq_none h'] at h1
      have h2 := gOp_put hoj (hfree j oj hoj hji hjun hnot) (fun cs b => hsel i oi cs b hi) (fun cs b => hsel j oj cs b hoj) hy h1
      have hfree' : ∀ k ok, ops[k]? = some ok → k ≠ i → (listed.setIfInBounds j true).getD k true = false →
          (∀ e ∈ ok.after, Region.binds md e = true → e.on ≠ i) → oi.apart ops ok = true := fun k ok hk hki hun hno => by
        refine hfree k ok hk hki ?_ hno
        by_cases hjk : j = k
        · subst hjk; exact hjun
        · rw [getD_set_ne true hjk] at hun; exact hun
      refine gOp_mono (fun a' g' h3 => ih (listed.setIfInBounds j true) a' g' hfree' (ready_mono hr (Ne.symm hji)) h3.1 ?_) h2
      rw [Array.setIfInBounds_comm _ _ hji]
      exact h3.2

/-- The walk in the order of the text. -/
def wpLexG (P : Program) (ops : Array Oper) (w0 : World) (Q : Act → Gh → Prop) : List Oper → Act → Gh → Prop
  | [], a, g => Q a g
  | o :: rest, a, g => ∃ y, Valid P ops w0 o a g y ∧ wpLexG P ops w0 Q rest (a.put o.dst y.val) (y.gh o g)

theorem wpAnyG_lex {Q : Act → Gh → Prop} (hs : Region.noSelect ops = true) : ∀ (l : List Oper) (k : Nat) (listed : Array Bool) (a : Act) (g : Gh), (∀ j, l[j]? = ops[k + j]?) →
    Region.lexFrom md ops l.length k listed = true → wpLexG P ops w0 Q l a g → wpAnyG P md ops w0 Q l.length listed a g
  | [], _, _, _, _, _, hB, h => ⟨by simpa [Region.lexFrom] using hB, h⟩
  | o :: l, k, listed, a, g, hl, hB, h => by
    have h0 : ops[k]? = some o := by simpa using (hl 0).symm
    simp only [List.length_cons, Region.lexFrom, Bool.and_eq_true] at hB
    obtain ⟨⟨hr, hf⟩, hB'⟩ := hB
    obtain ⟨y, hy, hK⟩ := h
    exact wpAnyG_first h0 (Region.noSelect_spec hs) l.length listed a g (Region.free_spec h0 hf) (by simpa using hr) hy
      (wpAnyG_lex hs l (k + 1) _ _ _ (fun j => by have := hl (j + 1); simpa [Nat.add_assoc, Nat.add_comm 1 j] using this) hB' hK)

/-! ### The real frame and the real world -/

/-- The frame with the boxes' addresses in their slots. -/
def over (κ : Nat → Nat) (g : Gh) (a : Act) : Act := { a with tmps := a.tmps.mapIdx fun t v => if (g t).isSome then .pointer (some ⟨κ t, 0, none⟩) else v }
theorem over_get (κ : Nat → Nat) (g : Gh) (a : Act) (t : Nat) (h : g t = none) : (over κ g a).tmps[t]? = a.tmps[t]? := by
  simp [over, h]
theorem over_eval {κ : Nat → Nat} {g : Gh} {a : Act} {x : Operand} (h : ∀ t ∈ operT x, g t = none) : (over κ g a).eval x = a.eval x := by
  cases x with
  | tmp t =>
    have := over_get κ g a t (h t (by simp [operT]))
    simp only [Act.eval, Array.getD_eq_getD_getElem?, this]
  | _ => rfl
theorem over_at {κ : Nat → Nat} {g : Gh} {a : Act} {d : Nat} {x : List Value × Bool} (h : g d = some x) (hd : d < a.tmps.size) : (over κ g a).eval (.tmp d) = .pointer (some ⟨κ d, 0, none⟩) := by
  simp [Act.eval, over, Array.getD_eq_getD_getElem?, h, hd]
theorem over_put {κ : Nat → Nat} {g : Gh} {a : Act} {dst : Option Tmp} {v : Value} (h : ∀ d, dst = some d → g d = none) : (over κ g a).put dst v = over κ g (a.put dst v) := by
  cases dst with
  | none => rfl
  | some d =>
    have hd := h d rfl
    simp only [over, Act.put]
    congr 1
    apply Array.ext_getElem?
    intro i
    by_cases hi : d = i
    · subst hi
      by_cases hs : d < a.tmps.size
      · simp [hs, hd]
      · simp [hs]
    · simp [Array.getElem?_setIfInBounds_ne hi]
theorem over_congr {κ κ' : Nat → Nat} {g g' : Gh} (a : Act) (h : ∀ t, (g t).isSome = (g' t).isSome ∧ ((g t).isSome = true → κ t = κ' t)) : over κ g a = over κ' g' a := by
  simp only [over]
  congr 1
  apply Array.ext_getElem?
  intro i
  simp only [Array.getElem?_mapIdx]
  cases a.tmps[i]? with
  | none => rfl
  | some v =>
    simp only [Option.map_some]
    obtain ⟨h1, h2⟩ := h i
    cases hg : (g i).isSome
    · rw [hg] at h1; simp [← h1]
    · rw [hg] at h1; simp [← h1, h2 hg]
theorem over_new {κ : Nat → Nat} {g : Gh} {a : Act} {d : Nat} (x : List Value × Bool) (h : g d = none) (k : Nat) (hd : d < a.tmps.size) :
    (over κ g a).put (some d) (.pointer (some ⟨k, 0, none⟩)) = over (fun t => if t = d then k else κ t) (upd g d x) (a.put (some d) undef) := by
  simp only [over, Act.put]
  congr 1
  apply Array.ext_getElem?
  intro i
  by_cases hi : d = i
  · subst hi
    simp [hd, upd_same]
  · have hi' : ¬ i = d := fun e => hi e.symm
    simp [Array.getElem?_setIfInBounds_ne hi, upd_ne g x hi', hi']
theorem wanted_over {κ : Nat → Nat} {g : Gh} {a : Act} {o : Oper} (h : ∀ t ∈ guardT ops o, g t = none) : Region.wanted o (yielded ops (over κ g a).tmps) = Region.wanted o (yielded ops a.tmps) := by
  unfold Region.wanted
  cases hg : o.guard with
  | none => rfl
  | some gw =>
    obtain ⟨gg, want⟩ := gw
    have hy : yielded ops (over κ g a).tmps gg = yielded ops a.tmps gg := by
      unfold yielded
      cases ht : (ops[gg]?).bind (·.dst) with
      | none => rfl
      | some t =>
        have := over_get κ g a t (h t (by simp [guardT, hg, ht]))
        simp [this]
    simp only [hy]
theorem exec_over {κ : Nat → Nat} {g : Gh} {a : Act} {o : Oper} (hs : ∀ cs b, o.op ≠ .select cs b) (h : ∀ t ∈ o.looksAt ops, g t = none) : execOp (over κ g a).eval o = execOp a.eval o :=
  execOp_congr o hs fun x hx => over_eval fun t ht => h t (oper_looks hx ht)

/-- What is known of a world, and where the boxes are. -/
structure Sim (w0 : World) (g : Gh) (κ : Nat → Nat) (w : World) : Prop where
  base : Below w0.heap.size w0 w
  hd : ∀ d c b, g d = some (c, b) → w0.heap.size ≤ κ d ∧ Hd w (κ d) c
  inj : ∀ d d', (g d).isSome → (g d').isSome → d ≠ d' → κ d ≠ κ d'

theorem Sim.below {g : Gh} {κ : Nat → Nat} {w w' : World} (h : Sim w0 g κ w) (hb : Below w.heap.size w w') : Sim w0 g κ w' :=
  ⟨h.base.trans (hb.mono h.base.size), fun d c b hd => ⟨(h.hd d c b hd).1, (h.hd d c b hd).2.below hb⟩, h.inj⟩

theorem Sim.new {g : Gh} {κ : Nat → Nat} {w : World} (h : Sim w0 g κ w) {d : Nat} (hd : g d = none) (c : List Value) (t : TypeId) :
    Sim w0 (upd g d (c, false)) (fun s => if s = d then w.heap.size else κ s) (w.alloc (.cells c.toArray t)) := by
  have hb : Below w.heap.size w (w.alloc (.cells c.toArray t)) := (Below.refl _ _).alloc (Nat.le_refl _) _
  have hsz : (w.alloc (.cells c.toArray t)).heap.size = w.heap.size + 1 := World.size_alloc _ _
  refine ⟨h.base.trans (hb.mono h.base.size), fun s c' b hs => ?_, fun s s' h1 h2 hne => ?_⟩
  · by_cases e : s = d
    · subst e
      rw [upd_same] at hs
      simp only [Option.some.injEq, Prod.mk.injEq] at hs
      obtain ⟨rfl, rfl⟩ := hs
      simp only [if_true]
      have hrow := heap_alloc_new w (.cells c.toArray t)
      exact ⟨h.base.size, fun i hi => by rw [cell_of_row _ _ i _ _ _ hrow]; simp [hi], fun j => frozen_of_row _ _ j _ _ hrow, by rw [hsz]; omega⟩
    · rw [upd_ne _ _ e] at hs
      simp only [e, if_false]
      exact ⟨(h.hd s c' b hs).1, (h.hd s c' b hs).2.below hb⟩
  · have lt : ∀ {s}, s ≠ d → (upd g d (c, false) s).isSome → κ s < w.heap.size := fun {s} e hs => by
      rw [upd_ne _ _ e] at hs
      obtain ⟨⟨c', b⟩, hx⟩ := Option.isSome_iff_exists.1 hs
      exact (h.hd s c' b hx).2.lt
    by_cases e : s = d
    · have e' : s' ≠ d := fun e' => hne (e.trans e'.symm)
      have := lt e' h2
      simp only [e, e', if_true, if_false]; omega
    · by_cases e' : s' = d
      · have := lt e h1
        simp only [e, e', if_true, if_false]; omega
      · simp only [e, e', if_false]
        rw [upd_ne _ _ e] at h1; rw [upd_ne _ _ e'] at h2
        exact h.inj s s' h1 h2 hne

theorem Sim.put {g : Gh} {κ : Nat → Nat} {w w' : World} (h : Sim w0 g κ w) {d : Nat} {c0 c : List Value} {b : Bool} (hd : g d = some (c0, b)) (hh : Hd w' (κ d) c) (hu : Upd (κ d) w w') : Sim w0 (upd g d (c, true)) κ w' := by
  have hk := (h.hd d c0 b hd).1
  refine ⟨h.base.trans (hu.below hk), fun s c' b' hs => ?_, fun s s' h1 h2 hne => ?_⟩
  · by_cases e : s = d
    · subst e
      rw [upd_same] at hs
      simp only [Option.some.injEq, Prod.mk.injEq] at hs
      obtain ⟨rfl, rfl⟩ := hs
      exact ⟨hk, hh⟩
    · rw [upd_ne _ _ e] at hs
      exact ⟨(h.hd s c' b' hs).1, hu.hd (h.inj s d (by rw [hs]; rfl) (by rw [hd]; rfl) e) (h.hd s c' b' hs).2⟩
  · have up : ∀ {s}, (upd g d (c, true) s).isSome → (g s).isSome := fun {s} hs => by
      by_cases e : s = d
      · subst e; rw [hd]; rfl
      · rwa [upd_ne _ _ e] at hs
    exact h.inj s s' (up h1) (up h2) hne

theorem wp_of_valid {o : Oper} (hs : ∀ cs b, o.op ≠ .select cs b) {a : Act} {g : Gh} {κ : Nat → Nat} {y : Eff} {w : World} {K : Act → Gh → Prop} {K' : Act → World → Prop} {Q' : Exit → Act → World → Prop}
    (hy : Valid P ops w0 o a g y) (hw : Sim w0 g κ w) (hsz : ∀ d, (g d).isSome → d < a.tmps.size) (hk : K (a.put o.dst y.val) (y.gh o g))
    (h : ∀ a' g' κ' w', Sim w0 g' κ' w' → (∀ d, (g' d).isSome → d < a'.tmps.size) → K a' g' → K' (over κ' g' a') w') :
    (if Region.wanted o (yielded ops (over κ g a).tmps) then o.wp P (over κ g a) w K' Q' ∨ (o.asks P (over κ g a) w ∧ LetsOut Q') else K' ((over κ g a).put o.dst undef) w) := by
  cases y with
  | quiet v =>
    obtain ⟨q1, q2, q3⟩ := hy
    rw [wanted_over fun t ht => q1 t (guardT_looks ht)]
    have fin : ∀ w', Sim w0 g κ w' → K' ((over κ g a).put o.dst v) w' := fun w' hw' => by
      rw [over_put q2]; exact h _ _ _ _ hw' (by rw [size_put]; exact hsz) hk
    rcases q3 with ⟨q3, q4⟩ | ⟨q3, rfl⟩
    · simp only [q3, if_true]
      refine .inl ?_
      have q5 := q4 w hw.base
      unfold Oper.quietAt at q5
      unfold Oper.wp
      rw [exec_over hs q1]
      generalize (execOp a.eval o).run P w = r at *
      cases r with
      | ok n w' =>
        cases n <;> simp only [Oper.quietUpon] at q5 <;> simp only [Oper.upon]
        case value u =>
          obtain ⟨rfl, rfl⟩ := q5
          exact fin _ hw
        case skip =>
          obtain ⟨rfl, e2⟩ := q5
          rw [← e2]
          exact fin _ hw
        case enter f args =>
          obtain ⟨rfl, hc⟩ := q5
          exact hc.mono fun e w'' ⟨he, hw''⟩ => by subst he; exact fin _ (hw.below hw'')
      | halt x w' => simp only [Oper.quietUpon] at q5
    · simp only [q3, Bool.false_eq_true, if_false]
      exact fin _ hw
  | new c =>
    obtain ⟨q1, q2, d, e, t, q3, q4, q5, q6, q7⟩ := hy
    rw [wanted_over q1]
    simp only [q2, if_true]
    refine .inl ?_
    unfold Oper.wp
    have hr : (execOp (over κ g a).eval o).run P w = .ok (.value (.pointer (some ⟨w.heap.size, 0, none⟩))) (w.alloc (.cells c.toArray t)) := by
      simp only [execOp, q3]
      rw [Sem.run_bind, q7 w]
      rfl
    rw [hr]
    simp only [Oper.upon, q4]
    rw [over_new (c, false) q6 _ q5]
    simp only [Eff.val, Eff.gh, q4] at hk
    refine h _ _ _ _ (hw.new q6 c t) (fun s hs => ?_) hk
    rw [size_put]
    by_cases e : s = d
    · subst e; exact q5
    · rw [upd_ne _ _ e] at hs; exact hsz s hs
  | put d c =>
    obtain ⟨q1, q0, q2, t, x, c0, q3, q4, q5, q6⟩ := hy
    rw [wanted_over q1]
    simp only [q2, if_true]
    refine .inl ?_
    unfold Oper.wp
    have hd := hw.hd d c0 false q5
    obtain ⟨w', r1, r2, r3⟩ := q6 w (κ d) hd.2
    have hr : (execOp (over κ g a).eval o).run P w = .ok .skip w' := by
      simp only [execOp, q3]
      rw [over_at q5 (hsz d (by rw [q5]; rfl)), over_eval q4, Sem.run_bind, r1]
      rfl
    rw [hr]
    simp only [Oper.upon]
    rw [over_put q0]
    simp only [Eff.val, Eff.gh] at hk
    have hc : over κ g (a.put o.dst undef) = over κ (upd g d (c, true)) (a.put o.dst undef) := over_congr _ fun s => by
      by_cases e : s = d
      · subst e; rw [upd_same, q5]; simp
      · rw [upd_ne _ _ e]; simp
    rw [hc]
    refine h _ _ _ _ (hw.put q5 r2 r3) (fun s hs => ?_) hk
    rw [size_put]
    by_cases e : s = d
    · subst e; exact hsz s (by rw [q5]; rfl)
    · rw [upd_ne _ _ e] at hs; exact hsz s hs

theorem wpAny_of_gh (hsel : ∀ (j : Nat) (o : Oper) cs b, ops[j]? = some o → o.op ≠ .select cs b) {Q : Act → Gh → Prop} {Q' : Exit → Act → World → Prop} (hQ : ∀ a g κ w, Sim w0 g κ w → Q a g → Q' .normal (over κ g a) w) :
    ∀ (fuel : Nat) (listed : Array Bool) (a : Act) (g : Gh) (κ : Nat → Nat) (w : World), Sim w0 g κ w → (∀ d, (g d).isSome → d < a.tmps.size) → wpAnyG P md ops w0 Q fuel listed a g → wpAny P md ops Q' fuel listed (over κ g a) w
  | 0, _, _, _, _, _, hw, _, h => ⟨h.1, hQ _ _ _ _ hw h.2⟩
  | fuel + 1, listed, a, g, κ, w, hw, hz, h => ⟨fun h0 => hQ _ _ _ _ hw (h.1 h0), fun i hi => by
      have hg := h.2 i hi
      unfold gOp at hg
      unfold wpOp
      cases ho : ops[i]? with
      | none => simp only [ho] at hg; exact wpAny_of_gh hsel hQ fuel _ _ _ _ _ hw hz hg
      | some o =>
        simp only [ho] at hg
        obtain ⟨y, hy, hk⟩ := hg
        exact wp_of_valid (hsel i o · · ho) hy hw hz hk (fun a' g' κ' w' hw' hz' hk' => wpAny_of_gh hsel hQ fuel _ _ _ _ _ hw' hz' hk')⟩

theorem over_none (κ : Nat → Nat) (a : Act) : over κ (fun _ => none) a = a := by
  unfold over
  cases a with
  | mk t d =>
    simp only [Act.mk.injEq, and_true]
    apply Array.ext_getElem?
    intro i
    simp

/-- **One walk in the order of the text serves every order.** -/
theorem region_gh {id : Nat} {Q : Exit → Act → World → Prop} {a : Act} {w : World} {l : List Oper} (hm : P.follows .mixedOrders = true) (hB : Region.lexB .any l.toArray = true)
    (h : wpLexG P l.toArray w.drew (fun a' g' => ∀ κ w', Sim w.drew g' κ w' → Q .normal (over κ g' a') w') l a (fun _ => none)) : (Code.region id l.toArray true).wp P Q a w := by
  simp only [Region.lexB, Bool.and_eq_true] at hB
  have hsel := Region.noSelect_spec hB.1
  refine wp_region_any hm ?_
  have h1 := wpAnyG_lex (md := .any) (P := P) (w0 := w.drew) hB.1 l 0 (Array.replicate l.length false) a (fun _ => none) (by simp) (by simpa using hB.2) h
  have h2 := wpAny_of_gh (Q' := Q) hsel (fun a' g' κ w' hw' hq => hq κ w' hw') _ _ _ _ (fun _ => 0) w.drew ⟨Below.refl _ _, (fun _ _ _ h => by cases h), (fun _ _ h => by cases h)⟩ (fun _ h => by cases h) h1
  rw [over_none] at h2
  simpa using h2

/-! ### The steps -/

/-- The new boxes, as a list. -/
def toG : List (Nat × List Value × Bool) → Gh
  | [] => fun _ => none
  | (d, x) :: l => upd (toG l) d x
theorem toG_none {l : List (Nat × List Value × Bool)} {t : Nat} (h : ∀ p ∈ l, p.1 ≠ t) : toG l t = none := by
  induction l with
  | nil => rfl
  | cons p l ih =>
    obtain ⟨d, x⟩ := p
    rw [toG, upd_ne _ _ (fun e => h _ List.mem_cons_self e.symm)]
    exact ih fun q hq => h q (List.mem_cons_of_mem _ hq)
/-- Slots apart from the boxes' own. -/
def clearT (l : List (Nat × List Value × Bool)) (ts : List Nat) : Bool := ts.all fun t => (l.map (·.1)).all fun d => !(d == t)
theorem clearT_spec {l : List (Nat × List Value × Bool)} {ts : List Nat} (h : clearT l ts = true) : ∀ t ∈ ts, toG l t = none := fun t ht => by
  unfold clearT at h
  rw [List.all_eq_true] at h
  have := h t ht
  rw [List.all_eq_true] at this
  exact toG_none fun p hp e => by
    have := this p.1 (List.mem_map.2 ⟨p, hp, rfl⟩)
    simp [e] at this
def seesT (ops : Array Oper) (o : Oper) : List Nat := o.looksAt ops ++ o.dst.toList

variable {Q : Act → Gh → Prop}
theorem lexG_nil {a : Act} {g : Gh} (h : Q a g) : wpLexG P ops w0 Q [] a g := h

theorem quiet_uniq {o : Oper} {a : Act} {z : World} {u v : Value} {C D : World → Prop} (h1 : o.quietAt P a C z u) (h2 : o.quietAt P a D z v) : u = v := by
  unfold Oper.quietAt at h1 h2
  generalize (execOp a.eval o).run P z = r at *
  cases r with
  | ok n w' =>
    cases n <;> simp only [Oper.quietUpon] at h1 h2
    case value x => rw [← h1.2, ← h2.2]
    case skip => rw [h1.2, h2.2]
    case enter f args => exact Calls.uniq h1.2 h2.2
  | halt x w' => simp only [Oper.quietUpon] at h1

theorem lex_quiet {g : Gh} {l2 : List Oper} : ∀ {l1 : List Oper} {a : Act}, (∀ o ∈ l1, ∀ t ∈ seesT ops o, g t = none) →
    (∀ z, Below w0.heap.size w0 z → wpQuiet P ops (fun w'' => Below z.heap.size z w'') (fun a' => wpLexG P ops w0 Q l2 a' g) l1 a) → wpLexG P ops w0 Q (l1 ++ l2) a g
  | [], a, _, h => h w0 (Below.refl _ _)
  | o :: l1, a, hb, h => by
    have hb0 := hb o List.mem_cons_self
    have v1 : ∀ t ∈ o.looksAt ops, g t = none := fun t ht => hb0 t (List.mem_append_left _ ht)
    have v2 : ∀ d, o.dst = some d → g d = none := fun d hd => hb0 d (List.mem_append_right _ (by rw [hd]; simp))
    have rest := fun {a'} => lex_quiet (l2 := l2) (l1 := l1) (a := a') fun o' ho' => hb o' (List.mem_cons_of_mem _ ho')
    rw [List.cons_append]
    by_cases hw : Region.wanted o (yielded ops a.tmps) = true
    · simp only [wpQuiet, hw, if_true, Oper.quiet] at h
      obtain ⟨v, hv, -⟩ := h w0 (Below.refl _ _)
      have hall : ∀ z, Below w0.heap.size w0 z → (∀ w, Below z.heap.size z w → o.quietAt P a (fun w'' => Below z.heap.size z w'') w v) ∧ wpQuiet P ops (fun w'' => Below z.heap.size z w'') (fun a' => wpLexG P ops w0 Q l2 a' g) l1 (a.put o.dst v) := fun z hz => by
        obtain ⟨u, hu, hn⟩ := h z hz
        obtain rfl : u = v := quiet_uniq (hu z (Below.refl _ _)) (hv z hz)
        exact ⟨hu, hn⟩
      exact ⟨.quiet v, ⟨v1, v2, .inl ⟨hw, fun w hww => (hall w hww).1 w (Below.refl _ _)⟩⟩, rest fun z hz => (hall z hz).2⟩
    · simp only [wpQuiet, hw] at h
      exact ⟨.quiet undef, ⟨v1, v2, .inr ⟨by simpa using hw, rfl⟩⟩, rest h⟩

/-- A stretch of the text that only reads and calls. -/
theorem lex_seg (n : Nat) {gl : List (Nat × List Value × Bool)} {l : List Oper} {a : Act} (hb : (l.take n).all (fun o => clearT gl (seesT ops o)) = true)
    (h : ∀ (α : Type) (_ : Nonempty α) (F : α → World), (∀ x, Below w0.heap.size w0 (F x)) → (∀ x W, Below (F x).heap.size (F x) W → ∃ y, W = F y) →
      wpQuiet P ops (fun w'' => ∃ x, w'' = F x) (fun a' => wpLexG P ops w0 Q (l.drop n) a' (toG gl)) (l.take n) a) : wpLexG P ops w0 Q l a (toG gl) := by
  have key : wpLexG P ops w0 Q (l.take n ++ l.drop n) a (toG gl) := by
    refine lex_quiet (fun o ho => ?_) fun z hz => ?_
    · rw [List.all_eq_true] at hb
      exact clearT_spec (hb o ho)
    · have := h {W : World // Below z.heap.size z W} ⟨⟨z, Below.refl _ _⟩⟩ (fun x => x.1) (fun x => hz.trans (x.2.mono hz.size)) (fun x W hW => ⟨⟨W, x.2.trans (hW.mono x.2.size)⟩, rfl⟩)
      have e : (fun w'' => ∃ x : {W : World // Below z.heap.size z W}, w'' = x.1) = fun w'' => Below z.heap.size z w'' := by
        funext w''
        exact propext ⟨fun ⟨x, hx⟩ => hx ▸ x.2, fun hx => ⟨⟨w'', hx⟩, rfl⟩⟩
      rwa [e] at this
  rwa [List.take_append_drop] at key

theorem seg_call {α : Type} {F : α → World} (h2 : ∀ x W, Below (F x).heap.size (F x) W → ∃ y, W = F y) {f : FuncId} {args : Array Value} {v : Value}
    (h : ∀ w, Calls P f args w fun e w' => e = .returned v ∧ Below w.heap.size w w') (x : α) : Calls P f args (F x) fun e w'' => e = .returned v ∧ ∃ y, w'' = F y :=
  (h (F x)).mono fun _ _ ⟨he, hb⟩ => ⟨he, h2 x _ hb⟩

/-- A new box. -/
theorem lex_new {gl : List (Nat × List Value × Bool)} {o : Oper} {rest : List Oper} {a : Act} (c : List Value) (d : Nat) (e t : TypeId) (ho : o.op = .alloc e) (hd : o.dst = some d) (hz : d < a.tmps.size)
    (hc : clearT gl (d :: guardT ops o) = true) (hw : Region.wanted o (yielded ops a.tmps) = true)
    (hr : ∀ w, (Instr.alloc e true (.tuple #[])).run P w = .ok (.pointer (some ⟨w.heap.size, 0, none⟩)) (w.alloc (.cells c.toArray t)))
    (h : wpLexG P ops w0 Q rest (a.put (some d) undef) (toG ((d, c, false) :: gl))) : wpLexG P ops w0 Q (o :: rest) a (toG gl) := by
  have hcs := clearT_spec hc
  refine ⟨.new c, ⟨fun t ht => hcs t (List.mem_cons_of_mem _ ht), hw, d, e, t, ho, hd, hz, hcs d List.mem_cons_self, hr⟩, ?_⟩
  simpa only [Eff.val, Eff.gh, hd, toG] using h

/-- A store into a new box. -/
theorem lex_put {gl : List (Nat × List Value × Bool)} {o : Oper} {rest : List Oper} {a : Act} (c c0 : List Value) (d : Nat) (t : TypeId) (x : Operand) (ho : o.op = .store t (.tmp d) x)
    (hc : clearT gl (operT x ++ guardT ops o ++ o.dst.toList) = true) (hg : toG gl d = some (c0, false)) (hw : Region.wanted o (yielded ops a.tmps) = true)
    (hr : ∀ w k, Hd w k c0 → ∃ w', (Instr.storeAt t (.pointer (some ⟨k, 0, none⟩)) (a.eval x)).run P w = .ok () w' ∧ Hd w' k c ∧ Upd k w w')
    (h : wpLexG P ops w0 Q rest (a.put o.dst undef) (toG ((d, c, true) :: gl))) : wpLexG P ops w0 Q (o :: rest) a (toG gl) := by
  have hcs := clearT_spec hc
  refine ⟨.put d c, ⟨fun t ht => hcs t (by simp [ht]), fun d' hd' => hcs d' (by simp [hd']), hw, t, x, c0, ho, fun t ht => hcs t (by simp [ht]), hg, hr⟩, ?_⟩
  simpa only [Eff.val, Eff.gh, toG] using h

theorem over_toG (κ : Nat → Nat) (d : Nat) (x : List Value × Bool) (l : List (Nat × List Value × Bool)) (a : Act) :
    over κ (toG ((d, x) :: l)) a = (over κ (toG l) a).put (some d) (.pointer (some ⟨κ d, 0, none⟩)) := by
  simp only [over, Act.put, toG]
  congr 1
  apply Array.ext_getElem?
  intro i
  by_cases hi : d = i
  · subst hi
    by_cases hs : d < a.tmps.size
    · simp [hs, upd_same]
    · simp [hs]
  · have hi' : ¬ i = d := fun e => hi e.symm
    simp [Array.getElem?_setIfInBounds_ne hi, upd_ne (toG l) x hi']
theorem over_nil (κ : Nat → Nat) (a : Act) : over κ (toG []) a = a := over_none κ a
end
end Go.Proofs.YthehcjfmokabfaaGreatDoor

/-
  Layer 1, law: a law's numbers in new boxes, whatever the order.
-/
namespace Go.Proofs.YthehcjfmokabfaaGreatDoor
open Go.RowKit
attribute [local irreducible] lo hs sm s64 c64 d64 b64 mh ml pd pc qd qc val hiB str cmpI srD lz nb isq decB

/-- The cells of a number. -/
abbrev nc (n : Nat) : List Value := [.int .u64 ((lo n : Nat) : Int), .string (hs n)]
theorem Hd.nx {w : World} {k n : Nat} (h : Hd w k (nc n)) : NX w k n :=
  ⟨⟨h.cell 0 (by simp), h.cell 1 (by simp), fun j => h.frz j⟩, h.lt⟩
theorem nc_zero : nc 0 = [.int .u64 0, .string ⟨#[]⟩] := by unfold nc; rw [lo_small Bs_pos, hs_small Bs_pos]; rfl

theorem below_drew {x W : World} (hb : Below x.drew.heap.size x.drew W) : Below x.heap.size x W := ((Below.refl x.heap.size x).drew).trans hb
theorem NL.plus {w W : World} {L : List (Nat × Nat)} {k n : Nat} (h : NL w W L) (hw : w.heap.size ≤ k) (hk : ∀ p ∈ L, p.1 ≠ k) (hx : NX W k n) : NL w W ((k, n) :: L) := by
  refine ⟨h.bl, fun p hp => ?_, ?_⟩
  · rcases List.mem_cons.1 hp with rfl | hp
    · exact ⟨hw, hx⟩
    · exact h.all p hp
  · rw [List.map_cons, List.nodup_cons]
    exact ⟨fun hm => by obtain ⟨p, hp, he⟩ := List.mem_map.1 hm; exact hk p hp he, h.nd⟩
/-- The boxes that a region has made. -/
theorem NL.ghs {w x W : World} {L : List (Nat × Nat)} {g : Gh} {κ : Nat → Nat} (h : NL w x L) (hS : Sim x.drew g κ W) : ∀ (ds : List (Nat × Nat)), (ds.map (·.1)).Nodup → (∀ p ∈ ds, ∃ b, g p.1 = some (nc p.2, b)) →
    NL w W (ds.map (fun p => (κ p.1, p.2)) ++ L)
  | [], _, _ => h.call (below_drew hS.base)
  | p :: ds, hn, hg => by
    rw [List.map_cons, List.nodup_cons] at hn
    have ih := NL.ghs h hS ds hn.2 fun q hq => hg q (List.mem_cons_of_mem _ hq)
    obtain ⟨b, hb⟩ := hg p List.mem_cons_self
    obtain ⟨h1, h2⟩ := hS.hd _ _ _ hb
    refine ih.plus (Nat.le_trans h.bl.size h1) (fun q hq => ?_) h2.nx
    rcases List.mem_append.1 hq with hq | hq
    · obtain ⟨r, hr, rfl⟩ := List.mem_map.1 hq
      obtain ⟨b', hb'⟩ := hg r (List.mem_cons_of_mem _ hr)
      exact hS.inj _ _ (by rw [hb']; rfl) (by rw [hb]; rfl) fun e => hn.1 (List.mem_map.2 ⟨r, hr, e⟩)
    · have := (h.all q hq).2.lt
      have h1' : x.heap.size ≤ κ p.1 := h1
      omega

theorem seg_get {α : Type} {F : α → World} {x : World} (h1 : ∀ y, Below x.drew.heap.size x.drew (F y)) {w : World} {L : List (Nat × Nat)} (hL : NL w x L) (k n : Nat) (hm : (k, n) ∈ L) :
    (∀ y, (F y).cell? ⟨k, 0, none⟩ = some (.int .u64 ((lo n : Nat) : Int))) ∧ (∀ y, (F y).cell? ⟨k, 1, none⟩ = some (.string (hs n))) :=
  cls_get (fun y => below_drew (h1 y)) hL k n hm
theorem seg_callT {α : Type} {F : α → World} {x w : World} {L : List (Nat × Nat)} (h1 : ∀ y, Below x.drew.heap.size x.drew (F y)) (h2 : ∀ x W, Below (F x).heap.size (F x) W → ∃ y, W = F y) (ht : Tab w) (hL : NL w x L) {f : FuncId} {args : Array Value} {v : Value}
    (h : ∀ w, Tab w → Calls Tryz.prog f args w fun e w' => e = .returned v ∧ Below w.heap.size w w') (y : α) : Calls Tryz.prog f args (F y) fun e w'' => e = .returned v ∧ ∃ y, w'' = F y :=
  (h (F y) ((ht.below hL.bl).below (below_drew (h1 y)))).mono fun _ _ ⟨he, hb⟩ => ⟨he, h2 y _ hb⟩

theorem new_nat (w : World) : (Instr.alloc 32 true (.tuple #[])).run Tryz.prog w = .ok (.pointer (some ⟨w.heap.size, 0, none⟩)) (w.alloc (.cells (nc 0).toArray 32)) := by
  rw [nc_zero]
  simp [go_sem, Instr.alloc]
theorem hd_put2 {w : World} {k : Nat} {x0 x1 : Value} (h : Hd w k [x0, x1]) (v0 v1 : Value) : Hd ((w.setCell ⟨k, 0, none⟩ v0).setCell ⟨k, 1, none⟩ v1) k [v0, v1] := by
  have h0 : w.cell? ⟨k, 0, none⟩ = some x0 := h.cell 0 (by simp)
  have h1 : w.cell? ⟨k, 1, none⟩ = some x1 := h.cell 1 (by simp)
  have hb : Bx w k x0 x1 := ⟨h0, h1, fun j => h.frz j⟩
  have := put2 hb v0 v1
  refine ⟨fun i hi => ?_, fun j => this.2.2 j, by simp [World.setCell]; exact h.lt⟩
  match i, hi with
  | 0, _ => exact this.1
  | 1, _ => exact this.2.1
  | i + 2, hi => simp only [List.length_cons, List.length_nil] at hi; omega
theorem put_nat (n0 n : Nat) (w : World) (k : Nat) (h : Hd w k (nc n0)) :
    ∃ w', (Instr.storeAt 32 (.pointer (some ⟨k, 0, none⟩)) (natV n)).run Tryz.prog w = .ok () w' ∧ Hd w' k (nc n) ∧ Upd k w w' := by
  have h0 : w.cell? ⟨k, 0, none⟩ = some (.int .u64 ((lo n0 : Nat) : Int)) := h.cell 0 (by simp)
  have h1 : w.cell? ⟨k, 1, none⟩ = some (.string (hs n0)) := h.cell 1 (by simp)
  have hf := h.frz
  refine ⟨_, ?_, hd_put2 h (.int .u64 ((lo n : Nat) : Int)) (.string (hs n)), ((Upd.refl k w).setCell 0 _).setCell 1 _⟩
  simp [go_sem, Instr.storeAt, Instr.sureAddr, h0, h1, hf]
end Go.Proofs.YthehcjfmokabfaaGreatDoor

/-
  Layer 1: the order of decimal forms, as mathematics.
-/
namespace Go.Proofs.YthehcjfmokabfaaGreatDoor
open Go.Lib (decDigits nDigits)

theorem dval_cons (c : UInt8) (l : List UInt8) : dval (c :: l) = (c.toNat - 48) * 10 ^ l.length + dval l := by
  have := dval_append [c] l
  rw [List.singleton_append] at this
  rw [this]
  show dval ([] ++ [c]) * _ + _ = _
  rw [dval_snoc, dval_nil, Nat.zero_mul, Nat.zero_add]

theorem bless_dval {a b : List UInt8} (hl : a.length = b.length) (ha : ∀ c ∈ a, isDig c) (hb : ∀ c ∈ b, isDig c) : bless a b = decide (dval a < dval b) := by
  induction a generalizing b with
  | nil =>
    have := (List.eq_nil_of_length_eq_zero hl.symm); subst this; simp [bless]
  | cons x a ih =>
    cases b with
    | nil => cases hl
    | cons y b =>
      have hl' : a.length = b.length := by simpa using hl
      have h1 := dval_lt (l := a) fun c hc => ha c (List.mem_cons_of_mem _ hc)
      have h2 := dval_lt (l := b) fun c hc => hb c (List.mem_cons_of_mem _ hc)
      have hx := ha x List.mem_cons_self
      have hy := hb y List.mem_cons_self
      unfold isDig at hx hy
      rw [hl'] at h1
      simp only [bless, dval_cons, hl', ih hl' (fun c hc => ha c (List.mem_cons_of_mem _ hc)) (fun c hc => hb c (List.mem_cons_of_mem _ hc))]
      have hm : ∀ p q : Nat, p < q → p * 10 ^ b.length + 10 ^ b.length ≤ q * 10 ^ b.length := fun p q h => by
        rw [← Nat.succ_mul]; exact Nat.mul_le_mul_right _ h
      rcases Nat.lt_trichotomy x.toNat y.toNat with h | h | h
      · have := hm (x.toNat - 48) (y.toNat - 48) (by omega)
        have hxy : x < y := UInt8.lt_iff_toNat_lt.2 h
        simp [hxy]; omega
      · have hxy : x = y := UInt8.toNat_inj.1 h
        subst hxy
        simp
      · have := hm (y.toNat - 48) (x.toNat - 48) (by omega)
        have hxy : ¬ x < y := fun hh => by have := UInt8.lt_iff_toNat_lt.1 hh; omega
        have hne : (x == y) = false := by simp; intro hh; subst hh; omega
        rw [hne]
        simp only [hxy, decide_false, Bool.false_or, Bool.false_and]
        exact (decide_eq_false (by omega)).symm

theorem dec_len_mono {a b : Nat} (h : a ≤ b) : (decDigits a).length ≤ (decDigits b).length := by
  have h1 := (dec_length_lt (n := b) (dec_length_pos b)).1 (Nat.le_refl _)
  exact (dec_length_lt (dec_length_pos b)).2 (Nat.lt_of_le_of_lt h h1)
theorem dec_less {a b : Nat} (hl : (decDigits a).length = (decDigits b).length) : bless (decDigits a) (decDigits b) = decide (a < b) := by
  rw [bless_dval hl (dec_isDig a) (dec_isDig b), dval_dec, dval_dec]
end Go.Proofs.YthehcjfmokabfaaGreatDoor
