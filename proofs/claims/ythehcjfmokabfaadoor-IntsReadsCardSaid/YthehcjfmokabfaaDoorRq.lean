/-
  Regions that draw their order, whose first operations only read and call (their callees may make memory), and whose last ones (stores into boxes that were there) stand behind all of those, in one order: ONE walk serves every order.
-/
import Derived.Deep.Quiet
import Derived.BigQuiet
set_option linter.unusedVariables false
set_option linter.unusedSimpArgs false
namespace Go.Proofs.YthehcjfmokabfaaDoor
open Go.RowKit

section
variable {P : Program} {ops : Array Oper} {md : Region.Mode} {C : World → Prop}

def doneN (n : Nat) (listed : Array Bool) : Bool := (List.range n).all fun i => listed.getD i false
theorem doneN_iff {n : Nat} {listed : Array Bool} : doneN n listed = true ↔ ∀ i, i < n → listed.getD i false = true := by
  simp only [doneN, List.all_eq_true, List.mem_range]
theorem unl {listed : Array Bool} {i : Nat} (h : listed.getD i true = false) : listed.getD i false = false := by
  rcases Nat.lt_or_ge i listed.size with h' | h'
  · simpa [h'] using h
  · simp [Array.getElem?_eq_none h'] at h
/-- What has come up has what it waits for behind it. -/
def closedL (md : Region.Mode) (ops : Array Oper) (listed : Array Bool) : Prop := ∀ j o, ops[j]? = some o → listed.getD j false = true → ∀ e ∈ o.after, Region.binds md e = true → listed.getD e.on false = true
theorem closedL.set {listed : Array Bool} {j : Nat} (h : closedL md ops listed) (hj : j ∈ Region.ready md ops listed) : closedL md ops (listed.setIfInBounds j true) := by
  intro k o hk hl e he hb
  by_cases hkj : j = k
  · subst hkj
    obtain ⟨-, o', ho', hall⟩ := mem_ready.1 hj
    rw [hk] at ho'
    obtain rfl := Option.some.inj ho'
    exact getD_set_true (hall e he hb)
  · rw [getD_set_ne false hkj] at hl
    exact getD_set_true (h k o hk hl e he hb)
/-- What an operation waits for. -/
def predsOf (md : Region.Mode) (ops : Array Oper) (i : Nat) : List Nat := match ops[i]? with
  | none => []
  | some o => (o.after.toList.filter fun e => Region.binds md e).map fun e => e.on
def ancOf (md : Region.Mode) (ops : Array Oper) (j : Nat) : List Nat := (List.range ops.size).reverse.foldl (fun S i => if S.contains i then S ++ predsOf md ops i else S) (predsOf md ops j)
theorem preds_listed {listed : Array Bool} (h : closedL md ops listed) {i : Nat} (hi : listed.getD i false = true) : ∀ x ∈ predsOf md ops i, listed.getD x false = true := by
  intro x hx
  unfold predsOf at hx
  cases ho : ops[i]? with
  | none => simp [ho] at hx
  | some o =>
    simp only [ho, List.mem_map, List.mem_filter] at hx
    obtain ⟨e, ⟨he, hb⟩, rfl⟩ := hx
    exact h i o ho hi e (by simpa using he) hb
theorem fold_listed {listed : Array Bool} (h : closedL md ops listed) : ∀ (r S : List Nat), (∀ x ∈ S, listed.getD x false = true) →
    ∀ x ∈ r.foldl (fun S i => if S.contains i then S ++ predsOf md ops i else S) S, listed.getD x false = true
  | [], S, hS => hS
  | i :: r, S, hS => by
    rw [List.foldl_cons]
    refine fold_listed h r _ ?_
    by_cases hc : S.contains i = true
    · rw [if_pos hc]
      intro x hx
      rcases List.mem_append.1 hx with hx | hx
      · exact hS x hx
      · exact preds_listed h (hS i (by simpa using hc)) x hx
    · rw [if_neg hc]; exact hS
/-- The last operations wait for the first n. -/
def barB (md : Region.Mode) (ops : Array Oper) (n : Nat) : Bool := (List.range ops.size).all fun j => decide (j < n) || (List.range n).all fun i => (ancOf md ops j).contains i
theorem bar {n : Nat} {listed : Array Bool} {j : Nat} (hB : barB md ops n = true) (h : closedL md ops listed) (hj : j ∈ Region.ready md ops listed) (hd : doneN n listed = false) : j < n := by
  rcases Nat.lt_or_ge j n with hn | hn
  · exact hn
  · exfalso
    obtain ⟨-, o, ho, hall⟩ := mem_ready.1 hj
    have hjs : j < ops.size := (Array.getElem?_eq_some_iff.1 ho).1
    simp only [barB, List.all_eq_true, List.mem_range, Bool.or_eq_true, decide_eq_true_eq] at hB
    rcases hB j hjs with h1 | h1
    · omega
    · have hp : ∀ x ∈ predsOf md ops j, listed.getD x false = true := by
        intro x hx
        unfold predsOf at hx
        simp only [ho, List.mem_map, List.mem_filter] at hx
        obtain ⟨e, ⟨he, hb⟩, rfl⟩ := hx
        exact hall e (by simpa using he) hb
      have h2 : doneN n listed = true := doneN_iff.2 fun i hi => fold_listed h _ _ hp i (List.contains_iff_mem.1 (h1 i hi))
      rw [h2] at hd; cases hd

/-- Whatever order is picked from here on, till the first n have come up. -/
def wpAnyB (P : Program) (md : Region.Mode) (ops : Array Oper) (C : World → Prop) (n : Nat) (Q : Act → Prop) : Nat → Array Bool → Act → Prop
  | 0, listed, a => doneN n listed = true ∧ Q a
  | fuel + 1, listed, a => doneN n listed = false ∧ Region.ready md ops listed ≠ [] ∧ ∀ i ∈ Region.ready md ops listed, qOp P ops C i (wpAnyB P md ops C n Q fuel (listed.setIfInBounds i true)) a

theorem wpAnyB_first {n : Nat} {Q : Act → Prop} {i : Nat} {oi : Oper} {v : Value} (hi : ops[i]? = some oi) (hin : i < n) (hB : barB md ops n = true) (hsel : ∀ (j : Nat) (o : Oper) cs b, ops[j]? = some o → o.op ≠ .select cs b) :
    ∀ (fuel : Nat) (listed : Array Bool) (a : Act), closedL md ops listed →
      (∀ j oj, ops[j]? = some oj → j ≠ i → listed.getD j true = false → (∀ e ∈ oj.after, Region.binds md e = true → e.on ≠ i) → oi.apart ops oj = true) →
      i ∈ Region.ready md ops listed → YieldsIn P ops C oi v a →
      wpAnyB P md ops C n Q fuel (listed.setIfInBounds i true) (a.put oi.dst v) → wpAnyB P md ops C n Q (fuel + 1) listed a := by
  intro fuel
  induction fuel with
  | zero =>
    intro listed a hc _ hr hy H
    have hiu := (mem_ready.1 hr).1
    have hnd : doneN n listed = false := Bool.eq_false_iff.2 fun h => by have := doneN_iff.1 h i hin; rw [unl hiu] at this; cases this
    refine ⟨hnd, List.ne_nil_of_mem hr, fun j hj => ?_⟩
    by_cases hji : j = i
    · subst hji; exact hy.qOp hi H
    · have hjn := bar hB hc hj hnd
      have h1 := doneN_iff.1 H.1 j hjn
      rw [getD_set_ne false (fun e => hji e.symm), unl (mem_ready.1 hj).1] at h1
      cases h1
  | succ fuel ih =>
    intro listed a hc hfree hr hy H
    have hiu := (mem_ready.1 hr).1
    have hnd : doneN n listed = false := Bool.eq_false_iff.2 fun h => by have := doneN_iff.1 h i hin; rw [unl hiu] at this; cases this
    refine ⟨hnd, List.ne_nil_of_mem hr, fun j hj => ?_⟩
    by_cases hji : j = i
    · subst hji; exact hy.qOp hi H
    · have h1 := H.2.2 j (ready_mono hj hji)
      obtain ⟨hjun, oj, hoj, hall⟩ := mem_ready.1 hj
      have hnot : ∀ e ∈ oj.after, Region.binds md e = true → e.on ≠ i := fun e he hb heq => by
        have h1 := hall e he hb
        rw [heq, unl hiu] at h1
        cases h1
      have h2 := qOp_put hoj (hfree j oj hoj hji hjun hnot) (fun cs b => hsel i oi cs b hi) (fun cs b => hsel j oj cs b hoj) hy h1
      have hfree' : ∀ k ok, ops[k]? = some ok → k ≠ i → (listed.setIfInBounds j true).getD k true = false →
          (∀ e ∈ ok.after, Region.binds md e = true → e.on ≠ i) → oi.apart ops ok = true := fun k ok hk hki hun hno => by
        refine hfree k ok hk hki ?_ hno
        by_cases hjk : j = k
        · subst hjk; exact hjun
        · rw [getD_set_ne true hjk] at hun; exact hun
      refine qOp_mono (fun a' h3 => ih (listed.setIfInBounds j true) a' (hc.set hj) hfree' (ready_mono hr (Ne.symm hji)) h3.1 ?_) h2
      rw [Array.setIfInBounds_comm _ _ hji]
      exact h3.2

def lexTo (md : Region.Mode) (ops : Array Oper) (n : Nat) : Nat → Nat → Array Bool → Bool
  | 0, _, listed => doneN n listed
  | fuel + 1, k, listed => (Region.ready md ops listed).contains k && Region.free md ops listed k && decide (k < n) && lexTo md ops n fuel (k + 1) (listed.setIfInBounds k true)

theorem wpAnyB_lex {n : Nat} {Q : Act → Prop} (hs : Region.noSelect ops = true) (hB : barB md ops n = true) : ∀ (l : List Oper) (k : Nat) (listed : Array Bool) (a : Act), (∀ j, j < l.length → l[j]? = ops[k + j]?) → closedL md ops listed →
    lexTo md ops n l.length k listed = true → wpQuiet P ops C Q l a → wpAnyB P md ops C n Q l.length listed a
  | [], _, _, _, _, _, hL, h => ⟨hL, h⟩
  | o :: l, k, listed, a, hl, hc, hL, h => by
    have h0 : ops[k]? = some o := by simpa using (hl 0 (by simp)).symm
    simp only [List.length_cons, lexTo, Bool.and_eq_true, decide_eq_true_eq] at hL
    obtain ⟨⟨⟨hr, hf⟩, hk⟩, hL'⟩ := hL
    have hr' : k ∈ Region.ready md ops listed := by simpa using hr
    have hq : qOp P ops C k (wpQuiet P ops C Q l) a := by unfold qOp; simp only [h0]; exact h
    obtain ⟨v, hy, hK⟩ := yieldsIn_of_qOp h0 hq
    exact wpAnyB_first h0 hk hB (Region.noSelect_spec hs) l.length listed a hc (Region.free_spec h0 hf) hr' hy
      (wpAnyB_lex hs hB l (k + 1) _ _ (fun j hj => by have := hl (j + 1) (by rw [List.length_cons]; omega); simpa [Nat.add_assoc, Nat.add_comm 1 j] using this) (hc.set hr') hL' hK)

/-- The first n have come up, and no other. -/
def canonL (s n : Nat) : Array Bool := ((List.range s).map fun i => decide (i < n)).toArray
def sufL (n : Nat) (ops : Array Oper) (listed : Array Bool) : Prop := listed.size = ops.size ∧ ∀ j, n ≤ j → j < ops.size → listed.getD j true = false
theorem canon_of {n : Nat} {listed : Array Bool} (h : sufL n ops listed) (hd : doneN n listed = true) : listed = canonL ops.size n := by
  apply Array.ext
  · simp [canonL, h.1]
  · intro i h1 h2
    have hs : i < ops.size := h.1 ▸ h1
    simp only [canonL, List.getElem_toArray, List.getElem_map, List.getElem_range]
    by_cases hi : i < n
    · have := doneN_iff.1 hd i hi
      simpa [h1, hi] using this
    · have := h.2 i (by omega) hs
      simpa [h1, hi] using this

theorem wpAny_of_B {n m : Nat} {Q : Act → Prop} {Q' : Exit → Act → World → Prop} (hB : barB md ops n = true) (hQ : ∀ a w, C w → Q a → wpAny P md ops Q' m (canonL ops.size n) a w) :
    ∀ (fuel : Nat) (listed : Array Bool) (a : Act) (w : World), C w → closedL md ops listed → sufL n ops listed → wpAnyB P md ops C n Q fuel listed a → wpAny P md ops Q' (m + fuel) listed a w
  | 0, listed, a, w, hw, hc, hu, h => by rw [canon_of hu h.1]; exact hQ a w hw h.2
  | fuel + 1, listed, a, w, hw, hc, hu, h => ⟨fun h0 => absurd h0 h.2.1, fun i hi => by
      have hin := bar hB hc hi h.1
      refine wpOp_of_qOp hw (fun a' w' hw' hh => wpAny_of_B hB hQ fuel _ a' w' hw' (hc.set hi) ⟨by simpa using hu.1, fun j hj hjs => ?_⟩ hh) (h.2.2 i hi)
      rw [getD_set_ne true (by omega)]; exact hu.2 j hj hjs⟩

theorem wpQuiet_mono {Q Q' : Act → Prop} (h : ∀ a, Q a → Q' a) : ∀ (l : List Oper) (a : Act), wpQuiet P ops C Q l a → wpQuiet P ops C Q' l a
  | [], a, hh => h a hh
  | o :: l, a, hh => by
    simp only [wpQuiet] at hh ⊢
    split
    · rename_i hw
      simp only [hw, if_true] at hh
      exact Oper.quiet_mono (fun a' => wpQuiet_mono h l a') hh
    · rename_i hw
      simp only [hw] at hh
      exact wpQuiet_mono h l _ hh

/-- One order only. -/
def seqB (md : Region.Mode) (ops : Array Oper) : Nat → Nat → Array Bool → Bool
  | 0, _, listed => (Region.ready md ops listed).isEmpty
  | fuel + 1, k, listed => Region.ready md ops listed == [k] && seqB md ops fuel (k + 1) (listed.setIfInBounds k true)
theorem wpAny_of_seq {Q' : Exit → Act → World → Prop} : ∀ (l : List Oper) (k : Nat) (listed : Array Bool) (a : Act) (w : World), (∀ j, j < l.length → l[j]? = ops[k + j]?) → seqB md ops l.length k listed = true →
    wpList P ops Q' l a w → wpAny P md ops Q' l.length listed a w
  | [], _, _, _, _, _, hS, h => ⟨by simpa [seqB] using hS, h⟩
  | o :: l, k, listed, a, w, hl, hS, h => by
    have h0 : ops[k]? = some o := by simpa using (hl 0 (by simp)).symm
    simp only [List.length_cons, seqB, Bool.and_eq_true, beq_iff_eq] at hS
    obtain ⟨hr, hS'⟩ := hS
    have ih := fun a w => wpAny_of_seq (Q' := Q') l (k + 1) (listed.setIfInBounds k true) a w (fun j hj => by have := hl (j + 1) (by rw [List.length_cons]; omega); simpa [Nat.add_assoc, Nat.add_comm 1 j] using this) hS'
    rw [List.length_cons]
    unfold wpAny
    refine ⟨fun h1 => absurd h1 (by rw [hr]; simp), fun i hi => ?_⟩
    rw [hr] at hi
    obtain rfl := List.mem_singleton.1 hi
    unfold wpOp
    simp only [h0]
    simp only [wpList] at h
    split
    · rename_i hw
      simp only [hw, if_true] at h
      rcases h with h | h
      · exact .inl (Oper.wp_mono ih h)
      · exact .inr h
    · rename_i hw
      simp only [hw] at h
      exact ih _ _ h

def qaB (n : Nat) (l : List Oper) : Bool :=
  Region.noSelect l.toArray && decide (n ≤ l.length) && barB .any l.toArray n && lexTo .any l.toArray n n 0 (Array.replicate l.length false)
/-- **First what only reads and calls, in any order; then the others, in any order of theirs.** -/
theorem region_qa (n : Nat) {id : Nat} {Q : Exit → Act → World → Prop} {a : Act} {w : World} {l : List Oper} (hm : P.follows .mixedOrders = true) (hB : qaB n l = true) (hC : C w.drew)
    (h : wpQuiet P l.toArray C (fun a' => ∀ w', C w' → wpAny P .any l.toArray Q (l.length - n) (canonL l.length n) a' w') (l.take n) a) : (Code.region id l.toArray true).wp P Q a w := by
  simp only [qaB, Bool.and_eq_true, decide_eq_true_eq] at hB
  obtain ⟨⟨⟨hs, hn⟩, hb⟩, hl⟩ := hB
  refine wp_region_any hm ?_
  have hlen : (l.take n).length = n := by rw [List.length_take]; omega
  have h0 : closedL .any l.toArray (Array.replicate l.length false) := fun j o _ hl => by
    rcases Nat.lt_or_ge j l.length with h' | h' <;> simp [h'] at hl
  have h1 := wpAnyB_lex (md := .any) (n := n) hs hb (l.take n) 0 (Array.replicate l.length false) a (fun j hj => by rw [hlen] at hj; simp [List.getElem?_take, hj]) h0 (by rw [hlen]; exact hl) h
  rw [hlen] at h1
  have h2 := wpAny_of_B (m := l.length - n) (Q' := Q) hb (fun a' w' hw' hh => by simpa using hh w' hw') n (Array.replicate l.length false) a w.drew hC h0 ⟨by simp, fun j _ hj => by simp at hj; simp [hj]⟩ h1
  rw [Nat.sub_add_cancel hn] at h2
  simpa using h2

def qsB (n : Nat) (l : List Oper) : Bool := qaB n l && seqB .any l.toArray (l.length - n) n (canonL l.length n)

/-- **First what only reads and calls, in any order; then the stores.** -/
theorem region_qs (n : Nat) {id : Nat} {Q : Exit → Act → World → Prop} {a : Act} {w : World} {l : List Oper} (hm : P.follows .mixedOrders = true) (hB : qsB n l = true) (hC : C w.drew)
    (h : wpQuiet P l.toArray C (fun a' => ∀ w', C w' → wpList P l.toArray Q (l.drop n) a' w') (l.take n) a) : (Code.region id l.toArray true).wp P Q a w := by
  simp only [qsB, Bool.and_eq_true] at hB
  refine region_qa n hm hB.1 hC ?_
  refine wpQuiet_mono (fun a' hh w' hw' => ?_) _ _ h
  have h3 := wpAny_of_seq (md := .any) (P := P) (Q' := Q) (l.drop n) n (canonL l.length n) a' w' (fun j hj => by simp [List.getElem?_drop]) (by rw [List.length_drop]; exact hB.2) (hh w' hw')
  rw [List.length_drop] at h3
  exact h3
/-- One pure operation ahead. -/
theorem any_pure {i m : Nat} {listed : Array Bool} {l : List Oper} {Q : Exit → Act → World → Prop} {a : Act} {w : World} (oi : Oper) (v : Value) (hi : l.toArray[i]? = some oi) (hg : oi.guard = none)
    (hB : (Region.noSelect l.toArray && Region.free .any l.toArray listed i && (Region.ready .any l.toArray listed).contains i) = true)
    (hQ : ∀ c a w, Q (.panic c) (a.put oi.dst v) w → Q (.panic c) a w) (hy : ∀ w, (execOp a.eval oi).run P w = .ok (.value v) w)
    (h : wpAny P .any l.toArray Q m (listed.setIfInBounds i true) (a.put oi.dst v) w) : wpAny P .any l.toArray Q (m + 1) listed a w := by
  simp only [Bool.and_eq_true] at hB
  exact wpAny_take hi hB.1.1 hB.1.2 hB.2 hQ (.inl ⟨by unfold Region.wanted; rw [hg], hy⟩) h
theorem any_seq (k : Nat) {m : Nat} {listed : Array Bool} {l : List Oper} {Q : Exit → Act → World → Prop} {a : Act} {w : World} (hm : (l.drop k).length = m) (hB : seqB .any l.toArray m k listed = true)
    (h : wpList P l.toArray Q (l.drop k) a w) : wpAny P .any l.toArray Q m listed a w := by
  subst hm
  exact wpAny_of_seq (md := .any) (P := P) (Q' := Q) (l.drop k) k listed a w (fun j hj => by simp [List.getElem?_drop]) hB h
end
end Go.Proofs.YthehcjfmokabfaaDoor
