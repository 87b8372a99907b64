/-
  The law answers true at every input, and leaves its arguments as they were: a part of the proof. CONDITIONS: the package-level tables start as the program's text lays them (the card ties them).
-/
import Derived.Test.YthffglapmkkohaaGreatDoorZbe
import Derived.Test.YthffglapmkkohaaGreatDoorTie
import Derived.Test.YthffglapmkkohaaGreatDoorCards
set_option linter.unusedVariables false
set_option linter.unusedSimpArgs false
set_option maxHeartbeats 16000000
set_option maxRecDepth 100000
namespace Go.Proofs.YthffglapmkkohaaGreatDoor
open Go.RowKit
section
variable {P : Program} {ops : Array Oper} {C : World → Prop}
theorem act_get {a : Act} {d : Option Nat} {u : Value} {t : Nat} (h : d ≠ some t) : (a.put d u).tmps[t]? = a.tmps[t]? := by
 cases d with
 | none => rfl
 | some d =>
  unfold Act.put
  exact Array.getElem?_setIfInBounds_ne fun e => h (by rw [e])
theorem act_comm {a : Act} {d e : Option Nat} {u v : Value} (h : d ≠ e ∨ d = none) : (a.put d u).put e v = (a.put e v).put d u := by
 cases d with
 | none => rfl
 | some d =>
  cases e with
  | none => rfl
  | some e =>
   unfold Act.put
   have hne : d ≠ e := fun he => h.elim (fun h => h (by rw [he])) fun h => by cases h
   simp only [Array.setIfInBounds_comm _ _ hne]
/-- As lateB, for an assignment. -/
def lateC (n i0 : Nat) (l : List Oper) : Bool :=
 ((List.range l.length).all fun j => decide (j < n) || ((List.range n).all fun i => (decide (j = n) && decide (i = i0)) || (ancOf .any l.toArray j).contains i) && (decide (j = n) || (ancOf .any l.toArray j).contains n)) &&
 decide (i0 < n) && decide (n < l.length) &&
 match l[n]?, l[i0]? with
 | some o, some q => o.guard.isNone && q.guard.isNone && ((o.looksAt l.toArray).all fun t => !(q.dst == some t)) && ((q.looksAt l.toArray).all fun t => !(o.dst == some t)) && !(o.dst == q.dst)
 | _, _ => false
theorem lateC_parts {n i0 : Nat} {l : List Oper} (h : lateC n i0 l = true) : i0 < n ∧ n < l.length ∧ ∃ o q, l[n]? = some o ∧ l[i0]? = some q ∧ o.guard = none ∧ q.guard = none ∧ (∀ t ∈ o.looksAt l.toArray, q.dst ≠ some t) ∧ (∀ t ∈ q.looksAt l.toArray, o.dst ≠ some t) ∧ o.dst ≠ q.dst := by
 simp only [lateC, Bool.and_eq_true, decide_eq_true_eq] at h
 obtain ⟨⟨⟨-, h1⟩, h2⟩, h3⟩ := h
 refine ⟨h1, h2, ?_⟩
 split at h3
 ·rename_i o q ho hq
  simp only [Bool.and_eq_true, Option.isNone_iff_eq_none, List.all_eq_true, Bool.not_eq_true', beq_eq_false_iff_ne] at h3
  exact ⟨o, q, ho, hq, h3.1.1.1.1, h3.1.1.1.2, h3.1.1.2, h3.1.2, h3.2⟩
 ·cases h3
theorem lateC_at {n i0 : Nat} {l : List Oper} {listed : Array Bool} {j : Nat} (hB : lateC n i0 l = true) (h : closedL .any l.toArray listed) (hj : j ∈ Region.ready .any l.toArray listed) (hn : ¬ j < n) :
  (∀ i, i < n → ¬ (j = n ∧ i = i0) → listed.getD i false = true) ∧ (j ≠ n → listed.getD n false = true) := by
 obtain ⟨-, o, ho, -⟩ := mem_ready.1 hj
 have hjs : j < l.length := by simpa using (Array.getElem?_eq_some_iff.1 ho).1
 simp only [lateC, Bool.and_eq_true] at hB
 have h1 := List.all_eq_true.1 hB.1.1.1 j (List.mem_range.2 hjs)
 simp only [Bool.or_eq_true, Bool.and_eq_true, decide_eq_true_eq, List.all_eq_true, List.mem_range] at h1
 rcases h1 with h1 | ⟨h1, h2⟩
 ·exact absurd h1 hn
 ·refine ⟨fun i hi hne => ?_, fun hne => ?_⟩
  ·rcases h1 i hi with h3 | h3
   ·exact absurd h3 hne
   ·exact anc_listed h hj h3
  ·rcases h2 with h3 | h3
   ·exact absurd h3 hne
   ·exact anc_listed h hj h3
theorem lateC_bar {n i0 : Nat} {l : List Oper} {listed : Array Bool} {j : Nat} (hB : lateC n i0 l = true) (h : closedL .any l.toArray listed) (hj : j ∈ Region.ready .any l.toArray listed) (hd : doneN n listed = false) (hn : ¬ j < n) :
  n = j ∧ ∀ i, i < n → i ≠ i0 → listed.getD i false = true := by
 obtain ⟨h1, h2⟩ := lateC_at hB h hj hn
 by_cases e : j = n
 ·exact ⟨e.symm, fun i hi hne => h1 i hi fun hh => hne hh.2⟩
 ·have : doneN n listed = true := doneN_iff.2 fun i hi => h1 i hi fun hh => e hh.1
  rw [hd] at this; cases this
theorem late_stepC {n s i0 : Nat} {l : List Oper} {T : Nat → Value → World → Prop} {w0 : World} {a0 : Act} {Q : Exit → Act → World → Prop} {A : Nat → Bool} (hsel : Region.noSelect l.toArray = true) (hn : n ≤ l.length)
  (hB : lateC n i0 l = true) (hN : nodupD (l.take n) = true) (hD : depB l.toArray n = true)
  (hlate : ∀ v w, Below w0.heap.size w0 w → (∀ i, i < n → i ≠ i0 → T i (v i) w) → ∃ u9 u, (∀ o, l[n]? = some o → (execOp (putsV (l.take n) 0 v a0).eval o).run P w = .ok (.value u9) w) ∧ (∀ o, l[i0]? = some o → (execOp (putsV (l.take n) 0 v a0).eval o).run P w = .ok (.value u) w) ∧ T i0 u w) (hA0 : A i0 = false)
  (hend : ∀ v w, Below w0.heap.size w0 w → (∀ i, i < n → T i (v i) w) → (∀ i j, i < n → j < n → i ≠ j → A i = true → A j = true → v i ≠ v j) → wpAny P .any l.toArray Q s (canonL l.length n) (putsV (l.take n) 0 v a0) w)
  {m : Nat} {listed : Array Bool} {v : Nat → Value} {w : World} (hl : left n listed = m + 1) (hc : closedL .any l.toArray listed) (hu : sufL n l.toArray listed) (hb : Below w0.heap.size w0 w)
  (ht : ∀ i, i < n → listed.getD i false = true → T i (v i) w) (hne : ∀ i j, i < n → j < n → i ≠ j → A i = true → A j = true → listed.getD i false = true → listed.getD j false = true → v i ≠ v j)
  (hj : n ∈ Region.ready .any l.toArray listed) (hall : ∀ i, i < n → i ≠ i0 → listed.getD i false = true) :
  wpOp P l.toArray Q n (wpAny P .any l.toArray Q (s + m) (listed.setIfInBounds n true)) (putsIf (l.take n) 0 (fun i => listed.getD i false) v a0) w := by
 have hlen : (l.take n).length = n := by rw [List.length_take]; omega
 obtain ⟨hi0, hnl, o, q, ho, hq, go, gq, hlook, hlookq, hdd⟩ := lateC_parts hB
 have hi0u : listed.getD i0 false = false := by
  rcases Bool.eq_false_or_eq_true (listed.getD i0 false) with h | h
  ·exfalso
   have : doneN n listed = true := doneN_iff.2 fun i hi => by
    by_cases e : i = i0
    ·subst e; exact h
    ·exact hall i hi e
   rw [left_some hl] at this; cases this
  ·exact h
 have hi0s : i0 < listed.size := by rw [hu.1]; simp; omega
 have hns : n < listed.size := by rw [hu.1]; simp; omega
 have hin0 : i0 ≠ n := by omega
 -- the rest of the first n
 have hm0 : left n (listed.setIfInBounds i0 true) = m := left_set (ops := l.toArray) hu.1 hi0 (by simp; omega) hi0u hl
 have hd0 : doneN n (listed.setIfInBounds i0 true) = true := doneN_iff.2 fun i hi => by
  by_cases e : i = i0
  ·subst e; simp [hi0s]
  ·rw [getD_set_ne false fun h => e h.symm]; exact hall i hi e
 have hm : m = 0 := by
  rw [← hm0]; unfold left
  exact List.countP_eq_zero.2 fun i hi => by simp [doneN_iff.1 hd0 i (List.mem_range.1 hi)]
 subst hm
 obtain ⟨u9, u, hs, hx, hTu⟩ := hlate v w hb fun i hi hne => ht i hi (hall i hi hne)
 replace hs := hs o ho
 replace hx := hx q hq
 have hsel' : ∀ cs b, o.op ≠ .select cs b := fun cs b => Region.noSelect_spec hsel n o cs b (by simpa using ho)
 have hselq : ∀ cs b, q.op ≠ .select cs b := fun cs b => Region.noSelect_spec hsel i0 q cs b (by simpa using hq)
 have hpre0 : ∀ p ∈ predsOf .any l.toArray i0, listed.getD p false = true := fun p hp => by
  have := depB_pred hD hi0 hp
  exact hall p (by omega) (by omega)
 -- what both look at
 have hagn : ∀ (x : Nat → Value) (b : Nat → Bool), (∀ i, i ≠ i0 → i < n → b i = true) → (∀ i, i ≠ i0 → x i = v i) → ∀ t ∈ o.looksAt l.toArray, (putsIf (l.take n) 0 b x a0).tmps[t]? = (putsV (l.take n) 0 v a0).tmps[t]? := by
  intro x b hbi hxv t ht'
  have h1 := get_puts (v := x) (b := b) (t := t) (l.take n) 0 a0 a0 rfl fun i o' ho' hd' => by
   have hin : i < n := by rw [← hlen]; exact (List.getElem?_eq_some_iff.1 ho').1
   rw [Nat.zero_add]
   refine hbi i (fun e => ?_) hin
   subst e
   rw [List.getElem?_take, if_pos hin, hq] at ho'
   obtain rfl := Option.some.inj ho'
   exact hlook t ht' hd'
  have h2 := get_puts (v := v) (b := fun i => decide (i ≠ i0)) (t := t) (l.take n) 0 a0 a0 rfl fun i o' ho' hd' => by
   have hin : i < n := by rw [← hlen]; exact (List.getElem?_eq_some_iff.1 ho').1
   rw [Nat.zero_add]
   refine decide_eq_true fun e => ?_
   subst e
   rw [List.getElem?_take, if_pos hin, hq] at ho'
   obtain rfl := Option.some.inj ho'
   exact hlook t ht' hd'
  have h3 := get_puts (v := x) (b := fun i => decide (i ≠ i0)) (t := t) (l.take n) 0 a0 a0 rfl fun i o' ho' hd' => by
   have hin : i < n := by rw [← hlen]; exact (List.getElem?_eq_some_iff.1 ho').1
   rw [Nat.zero_add]
   refine decide_eq_true fun e => ?_
   subst e
   rw [List.getElem?_take, if_pos hin, hq] at ho'
   obtain rfl := Option.some.inj ho'
   exact hlook t ht' hd'
  rw [h1, ← h3, putsIf_congr (v := x) (v' := v) (b := fun i => decide (i ≠ i0)) (b' := fun i => decide (i ≠ i0)) (l.take n) 0 a0 (fun i _ _ => ⟨rfl, fun hh => hxv i (of_decide_eq_true hh)⟩), h2]
 -- what the other order says
 let v' : Nat → Value := fun i => if i = i0 then u else v i
 have hend' := hend v' w hb (fun i hi => by
  by_cases e : i = i0
  ·subst e; simpa [v'] using hTu
  ·simpa [v', e] using ht i hi (hall i hi e)) (fun i j hi hj' hij hai haj => by
  have e1 : i ≠ i0 := fun e => by subst e; rw [hA0] at hai; cases hai
  have e2 : j ≠ i0 := fun e => by subst e; rw [hA0] at haj; cases haj
  simpa [v', e1, e2] using hne i j hi hj' hij hai haj (hall i hi e1) (hall j hj' e2))
 have hcan : canonL l.length n = listed.setIfInBounds i0 true := by
  have := canon_of (ops := l.toArray) (n := n) (listed := listed.setIfInBounds i0 true) ⟨by simpa using hu.1, fun k hk hks => by rw [getD_set_ne true (by omega)]; exact hu.2 k hk hks⟩ hd0
  rw [this]; simp
 rw [hcan] at hend'
 have hrn : n ∈ Region.ready .any l.toArray (listed.setIfInBounds i0 true) := ready_mono hj (by omega)
 have hcn : closedL .any l.toArray (listed.setIfInBounds n true) := hc.set hj
 have hri : i0 ∈ Region.ready .any l.toArray (listed.setIfInBounds n true) := by
  refine ready_mono (mem_ready.2 ⟨?_, q, by simpa using hq, fun e he hb' => hpre0 _ ?_⟩) (by omega)
  ·have : listed.getD i0 true = listed.getD i0 false := by simp [hi0s]
   rw [this]; exact hi0u
  ·unfold predsOf
   simp only [show l.toArray[i0]? = some q by simpa using hq, List.mem_map, List.mem_filter]
   exact ⟨e, ⟨by simpa using he, hb'⟩, rfl⟩
 -- the store's turn
 unfold wpOp
 simp only [show l.toArray[n]? = some o by simpa using ho]
 have hwo : ∀ Y, Region.wanted o Y = true := fun Y => by unfold Region.wanted; rw [go]
 have hwq : ∀ Y, Region.wanted q Y = true := fun Y => by unfold Region.wanted; rw [gq]
 have ag1 := hagn v (fun i => listed.getD i false) (fun i h1 h2 => hall i h2 h1) (fun i _ => rfl)
 rw [hwo, if_pos rfl]
 cases s with
 | zero =>
  exfalso
  have := hend'.1
  rw [this] at hrn; cases hrn
 | succ s =>
  have h2 := hend'.2 n hrn
  unfold wpOp at h2
  simp only [show l.toArray[n]? = some o by simpa using ho] at h2
  rw [hwo, if_pos rfl] at h2
  have ag2 := hagn v' (fun _ => true) (fun i _ _ => rfl) (fun i h1 => by simp [v', h1])
  rw [putsIf_all (l.take n) 0 a0 fun i _ _ => rfl] at ag2
  rcases h2 with h2 | h2
  case inr =>
   refine .inr ⟨?_, h2.2⟩
   have h3 := h2.1
   unfold Oper.asks at h3 ⊢
   rw [exec_same hsel' ag2] at h3
   rw [exec_same hsel' ag1]
   exact h3
  refine .inl ?_
  unfold Oper.wp at h2 ⊢
  rw [exec_same hsel' ag2, hs] at h2
  rw [exec_same hsel' ag1, hs]
  simp only [Oper.upon] at h2 ⊢
  -- the late one's turn
  refine ⟨fun h0 => absurd h0 (List.ne_nil_of_mem hri), fun i hi => ?_⟩
  obtain rfl : i = i0 := by
   by_cases hin : i < n
   ·rcases Decidable.em (i = i0) with e | e
    ·exact e
    ·exfalso
     have := (mem_ready.1 hi).1
     rw [getD_set_ne true (by omega)] at this
     have h4 := unl this
     rw [hall i hin e] at h4; cases h4
   ·exfalso
    obtain ⟨h4, h5⟩ := lateC_at hB hcn hi hin
    by_cases e : i = n
    ·subst e
     have := (mem_ready.1 hi).1
     simp [hns] at this
    ·have := h4 i0 hi0 fun hh => e hh.1
     rw [getD_set_ne false (by omega), hi0u] at this; cases this
  unfold wpOp
  simp only [show l.toArray[i]? = some q by simpa using hq]
  rw [hwq, if_pos rfl]
  refine .inl ?_
  have hag0 : ∀ t ∈ q.looksAt l.toArray, ((putsIf (l.take n) 0 (fun i => listed.getD i false) v a0).put o.dst u9).tmps[t]? = (putsV (l.take n) 0 v a0).tmps[t]? := fun t ht' => by
   rw [act_get (hlookq t ht')]
   exact get_puts (l.take n) 0 a0 a0 rfl fun k o' ho' hd' => by
    have hin : k < n := by rw [← hlen]; exact (List.getElem?_eq_some_iff.1 ho').1
    have ho2 : l.toArray[k]? = some o' := by rw [List.getElem?_take, if_pos hin] at ho'; simpa using ho'
    rw [Nat.zero_add]
    exact hpre0 k (depB_looks hD hi0 hin (by simpa using hq) ho2 ht' hd')
  unfold Oper.wp
  rw [exec_same hselq hag0, hx]
  simp only [Oper.upon]
  have e := put_at (v := v) (v' := v') (b := fun i => listed.getD i false) (b' := fun k => (listed.setIfInBounds i true).getD k false) (j := i) (u := u) hi0u (by simp [hi0s]) (by simp [v'])
   (fun k hk => ⟨getD_set_ne false fun e => hk e.symm, by simp [v', hk]⟩) (l.take n) 0 a0 q hN (Nat.zero_le _) (by rw [Nat.sub_zero, List.getElem?_take, if_pos hi0]; exact hq)
  rw [act_comm (.inl hdd), e, putsIf_all (l.take n) 0 a0 fun k _ h5 => doneN_iff.1 hd0 k (by omega), Array.setIfInBounds_comm _ _ (by omega)]
  exact h2
theorem wpAny_tc {n s i0 : Nat} {l : List Oper} {T : Nat → Value → World → Prop} {w0 : World} {a0 : Act} {Q : Exit → Act → World → Prop} {A : Nat → Bool} (hT : ∀ i, Stays (T i)) (hsel : Region.noSelect l.toArray = true) (hn : n ≤ l.length)
  (hB : lateC n i0 l = true) (hN : nodupD (l.take n) = true) (hD : depB l.toArray n = true)
  (hops : ∀ j o, j < n → l[j]? = some o → ∀ v w, Below w0.heap.size w0 w → (∀ p ∈ predsOf .any l.toArray j, T p (v p) w) → TyAt P l.toArray o (putsV (l.take n) 0 v a0) w (T j))
  (hptr : ∀ j, A j = true → ∀ u w, T j u w → ∃ k, u = .pointer (some ⟨k, 0, none⟩) ∧ k < w.heap.size)
  (hnew : ∀ j o, l[j]? = some o → A j = true → o.guard = none ∧ ∃ e c t, o.op = .alloc e ∧ ∀ w, (Instr.alloc e true (.tuple #[])).run P w = .ok (.pointer (some ⟨w.heap.size, 0, none⟩)) (w.alloc (.cells c t)))
  (hlate : ∀ v w, Below w0.heap.size w0 w → (∀ i, i < n → i ≠ i0 → T i (v i) w) → ∃ u9 u, (∀ o, l[n]? = some o → (execOp (putsV (l.take n) 0 v a0).eval o).run P w = .ok (.value u9) w) ∧ (∀ o, l[i0]? = some o → (execOp (putsV (l.take n) 0 v a0).eval o).run P w = .ok (.value u) w) ∧ T i0 u w) (hA0 : A i0 = false)
  (hend : ∀ v w, Below w0.heap.size w0 w → (∀ i, i < n → T i (v i) w) → (∀ i j, i < n → j < n → i ≠ j → A i = true → A j = true → v i ≠ v j) → wpAny P .any l.toArray Q s (canonL l.length n) (putsV (l.take n) 0 v a0) w) :
  ∀ (m : Nat) (listed : Array Bool) (v : Nat → Value) (w : World), left n listed = m → closedL .any l.toArray listed → sufL n l.toArray listed → Below w0.heap.size w0 w →
   (∀ i, i < n → listed.getD i false = true → T i (v i) w) → (∀ i j, i < n → j < n → i ≠ j → A i = true → A j = true → listed.getD i false = true → listed.getD j false = true → v i ≠ v j) → wpAny P .any l.toArray Q (s + m) listed (putsIf (l.take n) 0 (fun i => listed.getD i false) v a0) w := by
 intro m
 have hlen : (l.take n).length = n := by rw [List.length_take]; omega
 induction m with
 | zero =>
  intro listed v w hl hc hu hb ht hne
  have hd := left_zero hl
  rw [putsIf_all (l.take n) 0 a0 fun i _ h2 => doneN_iff.1 hd i (by omega)]
  have e := canon_of hu hd
  rw [show l.toArray.size = l.length by simp] at e
  rw [e]
  exact hend v w hb (fun i hi => ht i hi (doneN_iff.1 hd i hi)) fun i j hi hj hij ha hb' => hne i j hi hj hij ha hb' (doneN_iff.1 hd i hi) (doneN_iff.1 hd j hj)
 | succ m ih =>
  intro listed v w hl hc hu hb ht hne
  have hnd := left_some hl
  refine ⟨fun h0 => absurd h0 (ready_some hu.1 (by simpa using hn) hD hl), fun j hj => ?_⟩
  by_cases hlt : j < n
  case neg =>
   obtain ⟨rfl, hall⟩ := lateC_bar hB hc hj hnd hlt
   exact late_stepC hsel hn hB hN hD hlate hA0 hend hl hc hu hb ht hne hj hall
  have hjn := hlt
  obtain ⟨hju, o, ho, -⟩ := mem_ready.1 hj
  have hpre := preds_of_ready hj
  have hol : l[j]? = some o := by simpa using ho
  have hjs : j < l.toArray.size := (Array.getElem?_eq_some_iff.1 ho).1
  have hty := hops j o hjn hol v w hb fun p hp => ht p (by have := depB_pred hD hjn hp; omega) (hpre p hp)
  have hag : ∀ t ∈ o.looksAt l.toArray, (putsIf (l.take n) 0 (fun i => listed.getD i false) v a0).tmps[t]? = (putsV (l.take n) 0 v a0).tmps[t]? := fun t ht' =>
   get_puts (l.take n) 0 a0 a0 rfl fun i o' ho' hd' => by
    have hin : i < n := by rw [← hlen]; exact (List.getElem?_eq_some_iff.1 ho').1
    have ho2 : l.toArray[i]? = some o' := by rw [List.getElem?_take, if_pos hin] at ho'; simpa using ho'
    rw [Nat.zero_add]
    exact hpre i (depB_looks hD hjn hin ho ho2 ht' hd')
  have step : ∀ u w', Below w.heap.size w w' → T j u w' → (A j = true → u = .pointer (some ⟨w.heap.size, 0, none⟩)) → wpAny P .any l.toArray Q (s + m) (listed.setIfInBounds j true) ((putsIf (l.take n) 0 (fun i => listed.getD i false) v a0).put o.dst u) w' := by
   intro u w' hw' hu' hun
   have e := put_at (v := v) (v' := fun i => if i = j then u else v i) (b := fun i => listed.getD i false) (b' := fun i => (listed.setIfInBounds j true).getD i false) (j := j) (u := u) (unl hju) (by simp [hu.1]; simpa using hjs) (by simp)
    (fun i hi => ⟨getD_set_ne false fun e => hi e.symm, by simp [hi]⟩) (l.take n) 0 a0 o hN (Nat.zero_le _) (by rw [Nat.sub_zero, List.getElem?_take, if_pos hjn]; exact hol)
   rw [e]
   refine ih _ _ w' (left_set (ops := l.toArray) hu.1 hjn hjs (unl hju) hl) (hc.set hj) ⟨by simpa using hu.1, fun k hk hks => by rw [getD_set_ne true (by omega)]; exact hu.2 k hk hks⟩ (hb.trans (hw'.mono hb.size)) (fun i hi hli => ?_) ?_
   ·by_cases e : i = j
    ·subst e; simpa using hu'
    ·rw [getD_set_ne false fun e' => e e'.symm] at hli
     simp only [if_neg e]
     exact hT i _ _ _ hw' (ht i hi hli)
   intro i k hi hk hik hAi hAk hli hlk
   by_cases e : i = j
   ·subst e
    have e2 : k ≠ i := fun e => hik e.symm
    rw [getD_set_ne false fun e' => e2 e'.symm] at hlk
    simp only [if_neg e2, if_pos]
    obtain ⟨b, hb1, hb2⟩ := hptr k hAk _ _ (ht k hk hlk)
    rw [hb1, hun hAi]
    intro he
    simp only [Value.pointer.injEq, Option.some.injEq, Addr.mk.injEq, and_true] at he
    omega
   ·rw [getD_set_ne false fun e' => e e'.symm] at hli
    by_cases e2 : k = j
    ·subst e2
     simp only [if_neg e, if_pos]
     obtain ⟨b, hb1, hb2⟩ := hptr i hAi _ _ (ht i hi hli)
     rw [hb1, hun hAk]
     intro he
     simp only [Value.pointer.injEq, Option.some.injEq, Addr.mk.injEq, and_true] at he
     omega
    ·rw [getD_set_ne false fun e' => e2 e'.symm] at hlk
     simp only [if_neg e, if_neg e2]
     exact hne i k hi hk hik hAi hAk hli hlk
  unfold wpOp
  simp only [ho]
  unfold TyAt at hty
  rw [← wanted_same hag] at hty
  by_cases hw : Region.wanted o (yielded l.toArray (putsIf (l.take n) 0 (fun i => listed.getD i false) v a0).tmps) = true
  ·simp only [hw, if_true] at hty ⊢
   refine .inl ?_
   unfold Oper.wp
   rw [exec_same (fun cs b => Region.noSelect_spec hsel j o cs b ho) hag]
   have hal : A j = true → ∀ u w', (execOp (putsV (l.take n) 0 v a0).eval o).run P w = .ok (.value u) w' → u = .pointer (some ⟨w.heap.size, 0, none⟩) := fun hA u w' hr => by
    obtain ⟨_, e, c, t, he, hal⟩ := hnew j o hol hA
    rw [alloc_run he hal] at hr
    simp only [Result.ok.injEq, Next.value.injEq] at hr
    exact hr.1.symm
   have hal2 : A j = true → ∀ w', (execOp (putsV (l.take n) 0 v a0).eval o).run P w ≠ .ok .skip w' := fun hA w' hr => by
    obtain ⟨_, e, c, t, he, hal⟩ := hnew j o hol hA
    rw [alloc_run he hal] at hr
    cases hr
   have hal3 : A j = true → ∀ f args w', (execOp (putsV (l.take n) 0 v a0).eval o).run P w ≠ .ok (.enter f args) w' := fun hA f args w' hr => by
    obtain ⟨_, e, c, t, he, hal⟩ := hnew j o hol hA
    rw [alloc_run he hal] at hr
    cases hr
   generalize (execOp (putsV (l.take n) 0 v a0).eval o).run P w = r at *
   cases r with
   | ok nx w' =>
    cases nx <;> simp only [tyUpon] at hty <;> simp only [Oper.upon]
    case value u => exact step u w' hty.1 hty.2 fun hA => hal hA u w' rfl
    case skip => exact step undef w' hty.1 hty.2 fun hA => absurd rfl (hal2 hA w')
    case enter f args =>
     obtain ⟨rfl, hcall⟩ := hty
     exact hcall.mono fun e w'' ⟨u, he, h1, h2⟩ => by subst he; exact step u w'' h2 h1 fun hA => absurd rfl (hal3 hA f args _)
   | halt x w' => simp only [tyUpon] at hty
  ·simp only [hw] at hty ⊢
   exact step undef w (Below.refl _ _) hty fun hA => by
    obtain ⟨hg, _⟩ := hnew j o hol hA
    exact absurd (by unfold Region.wanted; rw [hg]) hw
def tyCl (n i0 : Nat) (l : List Oper) : Bool :=
 Region.noSelect l.toArray && decide (n ≤ l.length) && lateC n i0 l && nodupD (l.take n) && depB l.toArray n && seqB .any l.toArray (l.length - n) n (canonL l.length n)
/-- **A region whose first n operations each give a value of a property; then the others, in their order.** -/
theorem region_tc (n i0 : Nat) (T : Nat → Value → World → Prop) (A : Nat → Bool) {id : Nat} {Q : Exit → Act → World → Prop} {a : Act} {w : World} {l : List Oper} (hm : P.follows .mixedOrders = true) (hB : tyCl n i0 l = true) (hT : ∀ i, Stays (T i))
  (hops : ∀ j o, j < n → l[j]? = some o → ∀ v w1, Below w.drew.heap.size w.drew w1 → (∀ p ∈ predsOf .any l.toArray j, T p (v p) w1) → TyAt P l.toArray o (putsV (l.take n) 0 v a) w1 (T j))
  (hptr : ∀ j, A j = true → ∀ u w, T j u w → ∃ k, u = .pointer (some ⟨k, 0, none⟩) ∧ k < w.heap.size)
  (hnew : ∀ j o, l[j]? = some o → A j = true → o.guard = none ∧ ∃ e c t, o.op = .alloc e ∧ ∀ w, (Instr.alloc e true (.tuple #[])).run P w = .ok (.pointer (some ⟨w.heap.size, 0, none⟩)) (w.alloc (.cells c t)))
  (hlate : ∀ v w2, Below w.drew.heap.size w.drew w2 → (∀ i, i < n → i ≠ i0 → T i (v i) w2) → ∃ u9 u, (∀ o, l[n]? = some o → (execOp (putsV (l.take n) 0 v a).eval o).run P w2 = .ok (.value u9) w2) ∧ (∀ o, l[i0]? = some o → (execOp (putsV (l.take n) 0 v a).eval o).run P w2 = .ok (.value u) w2) ∧ T i0 u w2) (hA0 : A i0 = false)
  (hend : ∀ v w1, Below w.drew.heap.size w.drew w1 → (∀ i, i < n → T i (v i) w1) → (∀ i j, i < n → j < n → i ≠ j → A i = true → A j = true → v i ≠ v j) → wpList P l.toArray Q (l.drop n) (putsV (l.take n) 0 v a) w1) : (Code.region id l.toArray true).wp P Q a w := by
 simp only [tyCl, Bool.and_eq_true, decide_eq_true_eq] at hB
 obtain ⟨⟨⟨⟨⟨hs, hn⟩, hb⟩, hN⟩, hD⟩, hq⟩ := hB
 refine wp_region_any hm ?_
 have hrep : ∀ i, (Array.replicate l.length false).getD i false = false := fun i => by
  rcases Nat.lt_or_ge i l.length with h' | h' <;> simp [h']
 have h0 : closedL .any l.toArray (Array.replicate l.length false) := fun j o _ hl => by rw [hrep] at hl; cases hl
 have hleft : left n (Array.replicate l.length false) = n := by
  unfold left
  rw [List.countP_eq_length.2 fun i _ => by rw [hrep]; rfl, List.length_range]
 have h2 := wpAny_tc (i0 := i0) (A := A) (P := P) (s := l.length - n) (Q := Q) (a0 := a) hT hs hn hb hN hD hops hptr hnew hlate hA0 (fun v w1 h1 h2 hdis => by
   have h3 := wpAny_of_seq (md := .any) (P := P) (Q' := Q) (l.drop n) n (canonL l.length n) (putsV (l.take n) 0 v a) w1 (fun j hj => by simp [List.getElem?_drop]) (by rw [List.length_drop]; exact hq) (hend v w1 h1 h2 hdis)
   rw [List.length_drop] at h3
   exact h3) n (Array.replicate l.length false) (fun _ => undef) w.drew hleft h0 ⟨by simp, fun j _ hj => by simp at hj; simp [hj]⟩ (Below.refl _ _) (fun i _ hl => by rw [hrep] at hl; cases hl) (fun i j _ _ _ _ _ hl => by rw [hrep] at hl; cases hl)
 rw [putsIf_none (l.take n) 0 a fun i _ _ => hrep i, Nat.sub_add_cancel hn] at h2
 simpa using h2
/-- region_tc, with its properties as a list; A: the operations that make boxes. -/
theorem region_tcl (n i0 : Nat) (L : List (Value → World → Prop)) (A : List Nat) {id : Nat} {Q : Exit → Act → World → Prop} {a : Act} {w : World} {l : List Oper} (hm : P.follows .mixedOrders = true) (hB : tyCl n i0 l = true) (hT : ∀ i, Stays (L.getD i (fun _ _ => True)))
  (hops : hopsR P l.toArray (fun i => L.getD i (fun _ _ => True)) w.drew (fun v => putsV (l.take n) 0 v a) (l.take n) 0)
  (hptr : ∀ j, A.contains j = true → ∀ u w, L.getD j (fun _ _ => True) u w → ∃ k, u = .pointer (some ⟨k, 0, none⟩) ∧ k < w.heap.size)
  (hnew : newR P l A)
  (hlate : ∀ v w2, Below w.drew.heap.size w.drew w2 → (∀ i, i < n → i ≠ i0 → L.getD i (fun _ _ => True) (v i) w2) → ∃ u9 u, (∀ o, l[n]? = some o → (execOp (putsV (l.take n) 0 v a).eval o).run P w2 = .ok (.value u9) w2) ∧ (∀ o, l[i0]? = some o → (execOp (putsV (l.take n) 0 v a).eval o).run P w2 = .ok (.value u) w2) ∧ L.getD i0 (fun _ _ => True) u w2) (hA0 : A.contains i0 = false)
  (hend : ∀ v w1, Below w.drew.heap.size w.drew w1 → (∀ i, i < n → L.getD i (fun _ _ => True) (v i) w1) → (∀ i j, i < n → j < n → i ≠ j → A.contains i = true → A.contains j = true → v i ≠ v j) → wpList P l.toArray Q (l.drop n) (putsV (l.take n) 0 v a) w1) : (Code.region id l.toArray true).wp P Q a w :=
 region_tc n i0 (fun i => L.getD i (fun _ _ => True)) (fun i => A.contains i) hm hB hT (fun j o hj ho v w1 hb hp => by
  have := hops_of (l.take n) 0 hops j o (by rw [List.getElem?_take, if_pos hj]; exact ho) v w1 hb (by rw [Nat.zero_add]; exact hp)
  rwa [Nat.zero_add] at this) hptr (fun j o ho hA => newR_spec hnew j o ho hA) hlate hA0 hend
/-- .. that makes no box. -/
theorem region_tel (n i0 : Nat) (L : List (Value → World → Prop)) {id : Nat} {Q : Exit → Act → World → Prop} {a : Act} {w : World} {l : List Oper} (hm : P.follows .mixedOrders = true) (hB : tyCl n i0 l = true) (hT : ∀ i, Stays (L.getD i (fun _ _ => True)))
  (hops : hopsR P l.toArray (fun i => L.getD i (fun _ _ => True)) w.drew (fun v => putsV (l.take n) 0 v a) (l.take n) 0)
  (hlate : ∀ v w2, Below w.drew.heap.size w.drew w2 → (∀ i, i < n → i ≠ i0 → L.getD i (fun _ _ => True) (v i) w2) → ∃ u9 u, (∀ o, l[n]? = some o → (execOp (putsV (l.take n) 0 v a).eval o).run P w2 = .ok (.value u9) w2) ∧ (∀ o, l[i0]? = some o → (execOp (putsV (l.take n) 0 v a).eval o).run P w2 = .ok (.value u) w2) ∧ L.getD i0 (fun _ _ => True) u w2)
  (hend : ∀ v w1, Below w.drew.heap.size w.drew w1 → (∀ i, i < n → L.getD i (fun _ _ => True) (v i) w1) → wpList P l.toArray Q (l.drop n) (putsV (l.take n) 0 v a) w1) : (Code.region id l.toArray true).wp P Q a w :=
 region_tcl n i0 L [] hm hB hT hops (fun j h => by simp at h) trivial hlate rfl fun v w1 h1 h2 _ => hend v w1 h1 h2
end
end Go.Proofs.YthffglapmkkohaaGreatDoor
namespace Go.Proofs.YthffglapmkkohaaGreatDoor
open Go.RowKit
attribute [local irreducible] lo hs sm s64 c64 d64 b64 mh ml pd pc qd qc val hiB str cmpI srD lz nb zl zh zs fe rowV tabV gv bsV tabM turM mulM sumM oneM appV formM dotL sumL mulL nulL kvX smK pvX rdX frX
theorem vl_form9 {w : World} {v : Value} {m k : Nat} {V : Nat → Nat → Rat} (h : VLs w v ((List.range m).map fun i => tabV k (V i))) : ∃ ao c, v = .slice ao m c ∧ ∀ i, i < m → ∃ g u, ao = some ⟨g, 0, none⟩ ∧ w.cell? ⟨g, i, none⟩ = some u ∧ SlQ w u (tabV k (V i)) := by
 obtain ⟨ao, c, g, rfl, h1, h2⟩ := h
 have hl : ((List.range m).map fun i => tabV k (V i)).length = m := by simp
 refine ⟨ao, c, by rw [hl], fun i hi => ?_⟩
 obtain ⟨u, h3, h4⟩ := h2 i (by rw [hl]; exact hi)
 rw [List.getElem_map, List.getElem_range] at h4
 exact ⟨g, u, (h1 (by rw [hl]; omega)).1, h3, h4⟩
theorem il_form9 {w : World} {v : Value} {pv : List Nat} {n : Nat} (h : ILs w v (pv.map Int.ofNat)) (hn : pv.length = n) : ∃ ao c, v = .slice ao n c ∧ ∀ i, (hi : i < pv.length) → ∃ g, ao = some ⟨g, 0, none⟩ ∧ w.cell? ⟨g, i, none⟩ = some (.int .i64 (pv[i] : Int)) := by
 obtain ⟨ao, c, g, rfl, h1, h2⟩ := h
 have hl : (pv.map Int.ofNat).length = n := by simp [hn]
 refine ⟨ao, c, by rw [hl], fun i hi => ?_⟩
 have h3 := h2 i (by rw [hl]; omega)
 rw [List.getElem_map] at h3
 exact ⟨g, (h1 (by rw [hl]; omega)).1, h3⟩
theorem slq_fsE {w : World} {g n c : Nat} {l : List Rat} (h : SlQ w (.slice (some ⟨g, 0, none⟩) n c) l) (h0 : 0 < l.length) : FS w g l := by
 obtain ⟨g2, e, _, f⟩ := slq_pos h h0
 obtain rfl : g = g2 := by simpa using e
 exact f
theorem mem_take9 {pv : List Nat} {j p : Nat} (hp : p < pv.length) : j ∈ pv.take (p + 1) ↔ j ∈ pv.take p ∨ pv[p] = j := by
 rw [List.take_succ_eq_append_getElem hp, List.mem_append, List.mem_singleton]
 constructor
 ·rintro (h | h); exact .inl h; exact .inr h.symm
 ·rintro (h | h); exact .inl h; exact .inr h.symm
theorem pv_get9 (fr : List Nat) (i : Nat) (h : i < fr.length) : fr[i] = fr.getD i 0 := by
 rw [List.getD_eq_getElem?_getD, List.getElem?_eq_getElem h]; rfl
theorem ekernel_l1 (zr zc : Int) (la ca : Option Addr) (lx ly nc cc : Nat) (HFw : ∀ (p0 : Value) (w : World), FWs w p0 [lx] → Calls Tryz.prog 38 #[p0] w fun e w' => e = .returned (.bool false) ∧ Below w.heap.size w w') (KT : World → Prop) (hKT : Keeps KT) (HW : ∀ w, KT w → Calls Tryz.prog 39 #[] w fun xe w' => xe = .returned (.bool true) ∧ Below w.heap.size w w') (w : World) (kKT : KT w) :
  Calls Tryz.prog 7 #[.agg #[.int .u8 zr, .int .u8 zc, .slice la lx ly], .slice ca nc cc] w fun e w' => e = .returned (.bool true) ∧ Below w.heap.size w w' := by
 replace HFw := Lib.hid HFw
 replace hKT := Lib.hid hKT
 replace HW := Lib.hid HW
 have hL0 : GL w w [] := GL.start w
 obtain ⟨x1, hweq, hL0⟩ := GL.named (hL0.new rfl [.int .u8 zr, .int .u8 zc, .slice la lx ly] 51)
 go_enter Tryz.func7, Tryz.ntmps7
 go_upto_region 1 with fail
 have hZ0 := cells_of _ 0 [] rfl (hL0.get _ _ mZ)
 simp only [zF, Nat.reduceAdd] at hZ0
 clear hweq
 obtain ⟨x2, hweq, hL0⟩ := GL.named (hL0.new rfl [.int .u8 zr, .int .u8 zc, .slice la lx ly] 51)
 have hN0 := cells_of _ 0 [] rfl (hL0.get _ _ (mK mZ))
 simp only [zF, Nat.reduceAdd] at hN0
 have hbv1 : FWs x2 (.slice (some ⟨x1.heap.size, 0, none⟩) 1 1) [lx] := fws_one (hL0.get _ _ mZ)
 replace hbv1 := Lib.hid hbv1
 go_wp2_with fail
 clear hN0
 with_reducible refine Calls.mono (HFw.out (.slice (some ⟨x1.heap.size, 0, none⟩) 1 1) _ hbv1.out) ?_
 rintro e x3 ⟨rfl, hb⟩
 replace hL0 := hL0.call hb
 clear hb hweq hZ0 hbv1
 go_wp2_with fail
 with_reducible refine Calls.mono (HW.out _ (hKT.out.at hL0.bl kKT)) ?_
 rintro e x4 ⟨rfl, hb⟩
 replace hL0 := hL0.call hb
 clear hb
 go_wp2_with fail
 exact bodyPost_ret (v := .bool true) (by simp [results, Tryz.results7, go_sem]) rfl ⟨rfl, hL0.bl⟩
theorem ekernel_l2 (zr zc : Int) (la ca : Option Addr) (lx ly nc cc : Nat) (HFw : ∀ (p0 : Value) (w : World), FWs w p0 [lx] → Calls Tryz.prog 38 #[p0] w fun e w' => e = .returned (.bool true) ∧ Below w.heap.size w w') (KT : World → Prop) (hKT : Keeps KT) (HW : ∀ w, KT w → Calls Tryz.prog 39 #[] w fun xe w' => xe = .returned (.bool true) ∧ Below w.heap.size w w') (l_nc : decide ((8 : Int) < ((nc : Nat) : Int)) = true) (k_nc : decide (8 < nc) = true) (w : World) (kKT : KT w) :
  Calls Tryz.prog 7 #[.agg #[.int .u8 zr, .int .u8 zc, .slice la lx ly], .slice ca nc cc] w fun e w' => e = .returned (.bool true) ∧ Below w.heap.size w w' := by
 replace HFw := Lib.hid HFw
 replace hKT := Lib.hid hKT
 replace HW := Lib.hid HW
 have hL0 : GL w w [] := GL.start w
 obtain ⟨x1, hweq, hL0⟩ := GL.named (hL0.new rfl [.int .u8 zr, .int .u8 zc, .slice la lx ly] 51)
 go_enter Tryz.func7, Tryz.ntmps7
 go_upto_region 1 with fail
 have hZ0 := cells_of _ 0 [] rfl (hL0.get _ _ mZ)
 simp only [zF, Nat.reduceAdd] at hZ0
 clear hweq
 obtain ⟨x2, hweq, hL0⟩ := GL.named (hL0.new rfl [.int .u8 zr, .int .u8 zc, .slice la lx ly] 51)
 have hN0 := cells_of _ 0 [] rfl (hL0.get _ _ (mK mZ))
 simp only [zF, Nat.reduceAdd] at hN0
 have hbv1 : FWs x2 (.slice (some ⟨x1.heap.size, 0, none⟩) 1 1) [lx] := fws_one (hL0.get _ _ mZ)
 replace hbv1 := Lib.hid hbv1
 go_wp2_with fail
 clear hN0
 with_reducible refine Calls.mono (HFw.out (.slice (some ⟨x1.heap.size, 0, none⟩) 1 1) _ hbv1.out) ?_
 rintro e x3 ⟨rfl, hb⟩
 replace hL0 := hL0.call hb
 clear hb hweq hZ0 hbv1
 go_wp2_with fail
 with_reducible refine Calls.mono (HW.out _ (hKT.out.at hL0.bl kKT)) ?_
 rintro e x4 ⟨rfl, hb⟩
 replace hL0 := hL0.call hb
 clear hb
 go_wp2_with fail
 exact bodyPost_ret (v := .bool true) (by simp [results, Tryz.results7, go_sem]) rfl ⟨rfl, hL0.bl⟩
theorem ekernel_law (zr zc : Int) (la ca : Option Addr) (lx ly nc cc : Nat) (n k m np : Nat) (x : Mx) (ql : List (Int × Int)) (pv : List Nat) (V S : Nat → Nat → Rat) (W : Nat → Rat)
  (HFw : ∀ (p0 : Value) (w : World), FWs w p0 [lx] → Calls Tryz.prog 38 #[p0] w fun e w' => e = .returned (.bool true) ∧ Below w.heap.size w w')
  (KA : World → Prop) (hKA : Keeps KA) (HMo : ∀ (w : World), KA w → Calls Tryz.prog 23 #[.agg #[.int .u8 zr, .int .u8 zc, .slice la lx ly]] w fun e w' => ∃ pv, e = .returned pv ∧ MT w' pv x ∧ Below w.heap.size w w')
  (HKe : ∀ p w, MT w p x → Calls Tryz.prog 44 #[p] w fun e w' => (∃ v, e = .returned (.tuple #[v, .int .i64 0]) ∧ VLs w' v ((List.range m).map fun i => tabV k (V i))) ∧ Below w.heap.size w w')
  (HRd : ∀ p w, MT w p x → Calls Tryz.prog 45 #[p] w fun e w' => (∃ b N s, e = .returned (.tuple #[.agg #[.int .i64 (n : Int), .int .i64 (k : Int), .slice (some ⟨b, 0, none⟩) N N], s, .int .i64 0]) ∧ ILs w' s (pv.map Int.ofNat)) ∧ Below w.heap.size w w')
  (HAx : ∀ i, i < m → ∀ p q w, PT w p (tabV k (V i)) → PT w q (tabV k (S i)) → Calls Tryz.prog 47 #[fracV (W i), p, q] w fun e w' => ∃ pv, e = .returned (.tuple #[pv, .int .i64 0]) ∧ PT w' pv (tabV k (S (i + 1))) ∧ Below w.heap.size w w')
  (HAp : ∀ i, i < m → ∀ p q w, MT w p x → PT w q (tabV k (V i)) → Calls Tryz.prog 48 #[p, q] w fun e w' => ∃ pv, e = .returned (.tuple #[pv, .int .i64 0]) ∧ PT w' pv (nulL n) ∧ Below w.heap.size w w')
  (HAq : ∀ p q w, MT w p x → PT w q (tabV k (S m)) → Calls Tryz.prog 48 #[p, q] w fun e w' => ∃ pv, e = .returned (.tuple #[pv, .int .i64 0]) ∧ PT w' pv (nulL n) ∧ Below w.heap.size w w')
  (HSm : ∀ p q w, PT w p (nulL n) → PT w q (nulL n) → Calls Tryz.prog 18 #[p, q] w fun e w' => e = .returned (.bool true) ∧ Below w.heap.size w w')
  (KT : World → Prop) (hKT : Keeps KT) (HW : ∀ w, KT w → Calls Tryz.prog 39 #[] w fun xe w' => xe = .returned (.bool true) ∧ Below w.heap.size w w')
  (hxr : (x.r : Int) = (n : Int)) (hxc : (x.c : Int) = (k : Int)) (hn : n ≤ 6) (hk : k ≤ 6) (hm : (freeL pv k).length = m) (hnp : pv.length = np) (hp6 : np ≤ 6) (hql : ql.length = nc) (hnc : nc ≤ 8)
  (hW : ∀ i, i < m → W i = if i < nc then qE ql i else (i : Rat)) (hV : ∀ i l, i < m → l < m → V i ((freeL pv k).getD l 0) = if l = i then 1 else 0) (hS0 : tabV k (S 0) = List.replicate k 0) (hm6 : m ≤ 6)
  (l_nc : decide ((8 : Int) < ((nc : Nat) : Int)) = false) (k_nc : decide (8 < nc) = false) (w : World) (kKA : KA w) (kq : QV w (.slice ca nc cc) ql) (kKT : KT w) :
  Calls Tryz.prog 7 #[.agg #[.int .u8 zr, .int .u8 zc, .slice la lx ly], .slice ca nc cc] w fun e w' => e = .returned (.bool true) ∧ Below w.heap.size w w' := by
 replace HFw := Lib.hid HFw
 replace hKA := Lib.hid hKA
 replace HMo := Lib.hid HMo
 replace HKe := Lib.hid HKe
 replace HRd := Lib.hid HRd
 replace HAx := Lib.hid HAx
 replace HAp := Lib.hid HAp
 replace HAq := Lib.hid HAq
 replace HSm := Lib.hid HSm
 replace hKT := Lib.hid hKT
 replace HW := Lib.hid HW
 replace hxr := Lib.hid hxr
 replace hxc := Lib.hid hxc
 replace hn := Lib.hid hn
 replace hk := Lib.hid hk
 replace hm := Lib.hid hm
 replace hnp := Lib.hid hnp
 replace hp6 := Lib.hid hp6
 replace hql := Lib.hid hql
 replace hnc := Lib.hid hnc
 replace hW := Lib.hid hW
 replace hV := Lib.hid hV
 replace hS0 := Lib.hid hS0
 replace hm6 := Lib.hid hm6
 obtain ⟨ao9, c9, he9, -, -, hqv⟩ := kq
 obtain ⟨rfl, -, rfl⟩ : ca = ao9 ∧ nc = ql.length ∧ cc = c9 := by simpa using he9
 clear he9
 replace hqv := Lib.hid hqv
 have hL0 : GL w w [] := GL.start w
 obtain ⟨x1, hweq, hL0⟩ := GL.named (hL0.new rfl [.int .u8 zr, .int .u8 zc, .slice la lx ly] 51)
 go_enter Tryz.func7, Tryz.ntmps7
 go_upto_region 1 with fail
 have hZ0 := cells_of _ 0 [] rfl (hL0.get _ _ mZ)
 simp only [zF, Nat.reduceAdd] at hZ0
 clear hweq
 obtain ⟨x2, hweq, hL0⟩ := GL.named (hL0.new rfl [.int .u8 zr, .int .u8 zc, .slice la lx ly] 51)
 have hN0 := cells_of _ 0 [] rfl (hL0.get _ _ (mK mZ))
 simp only [zF, Nat.reduceAdd] at hN0
 have hbv1 : FWs x2 (.slice (some ⟨x1.heap.size, 0, none⟩) 1 1) [lx] := fws_one (hL0.get _ _ mZ)
 replace hbv1 := Lib.hid hbv1
 go_wp2_with fail
 clear hN0
 with_reducible refine Calls.mono (HFw.out (.slice (some ⟨x1.heap.size, 0, none⟩) 1 1) _ hbv1.out) ?_
 rintro e x3 ⟨rfl, hb⟩
 replace hL0 := hL0.call hb
 clear hb hweq hZ0 hbv1
 have hN0 := cells_of _ 0 [] rfl (hL0.get _ _ (mK mZ))
 simp only [zF, Nat.reduceAdd] at hN0
 go_wp2_with fail
 clear hN0
 with_reducible refine Calls.mono (HMo.out _ (hKA.out.at hL0.bl kKA)) ?_
 rintro e x4 ⟨v0, rfl, q0, hb⟩
 replace hL0 := hL0.call hb
 clear hb
 obtain ⟨g1, d1, c1, rfl, hm1, hcp⟩ := mt_form q0 hxr.out hxc.out
 clear q0
 replace hcp := Lib.hid hcp
 replace hL0 := hL0.new rfl [.int .i64 (n : Int), .int .i64 (k : Int), .slice g1 d1 c1] 56
 have hb := (Below.refl x4.heap.size x4).alloc (Nat.le_refl _) (.cells #[.int .i64 (n : Int), .int .i64 (k : Int), .slice g1 d1 c1] 56)
 generalize hweq : x4.alloc (.cells #[.int .i64 (n : Int), .int .i64 (k : Int), .slice g1 d1 c1] 56) = x5 at hL0 hb
 replace hm1 := hm1.below hb
 clear hb
 have hA := hL0.fc
 simp only [zF, Nat.reduceAdd] at hA
 go_wp2_with fail
 with_reducible refine Calls.mono (HKe.out _ _ (mt_of hm1 hcp.out hxr.out hxc.out)) ?_
 rintro e x6 ⟨⟨lv, rfl, hVL⟩, hb⟩
 replace hL0 := hL0.call hb
 replace hm1 := hm1.below hb
 clear hA hb hweq
 obtain ⟨lo2, lc2, rfl, -⟩ := vl_form9 hVL
 have hA := hL0.fc
 simp only [zF, Nat.reduceAdd] at hA
 go_wp2_with fail
 with_reducible refine Calls.mono (HRd.out _ _ (mt_of hm1 hcp.out hxr.out hxc.out)) ?_
 rintro e x7 ⟨⟨rb, rN, sv, rfl, hIL⟩, hb⟩
 replace hL0 := hL0.call hb
 replace hm1 := hm1.below hb
 replace hVL := hVL.below hb
 clear hA hb
 obtain ⟨po, pc2, rfl, -⟩ := il_form9 hIL hnp.out
 replace hL0 := hL0.new rfl [.int .i64 (n : Int), .int .i64 (k : Int), .slice (some ⟨rb, 0, none⟩) rN rN] 56
 have hb := (Below.refl x7.heap.size x7).alloc (Nat.le_refl _) (.cells #[.int .i64 (n : Int), .int .i64 (k : Int), .slice (some ⟨rb, 0, none⟩) rN rN] 56)
 generalize hweq : x7.alloc (.cells #[.int .i64 (n : Int), .int .i64 (k : Int), .slice (some ⟨rb, 0, none⟩) rN rN] 56) = y0 at hL0 hb
 replace hm1 := hm1.below hb
 replace hVL := hVL.below hb
 replace hIL := hIL.below hb
 clear hb
 go_wp2_with fail
 clear hweq
 go_loopg [11, 12] k (fun gk fv kv wr => ∃ (j : Nat) (zj : Int) (fp : Option Addr) (ft fc : Nat), j + gk = k ∧ fv = .slice fp ft fc ∧ kv = .int .i64 zj ∧ zj = (j : Int) ∧ ft = (freeL pv j).length ∧ wr.ownsRow y0.heap.size 3 1 (.slice fp ft fc) ft (pvE (freeL pv j)) ∧ Below y0.heap.size y0 wr)
 case atStart => exact ⟨0, 0, none, 0, 0, Nat.zero_add k, rfl, by first | rfl | go_num, rfl, rfl, World.ownsRow_nil _ _ _ _, Below.refl _ _⟩
 case round =>
  obtain ⟨j, zj, fp, ft, fc, hjk, rfl, rfl, hzj, hft, hown, hb⟩ := hrel
  replace hft := Lib.hid hft
  have hL1 := hL0.call hb
  have hA := hL1.fc
  simp only [zF, Nat.reduceAdd] at hA
  rcases Nat.lt_or_ge j k with hj | hj
  ·subst hzj
   have k1 : (j : Int) < (k : Int) := by omega
   have k0 : (0 : Int) ≤ (j : Int) := Int.natCast_nonneg _
   have kb : (j : Int) ≤ 6 := by have := hk.out; omega
   replace hown := Lib.hid hown
   go_wp2_with fail
   obtain ⟨wo, hwo⟩ : ∃ wo, wo = wr := ⟨_, rfl⟩
   subst hwo
   clear hA
   go_loopg [13, 14] np (fun gk2 bv iv wr2 => ∃ (p : Nat) (zp : Int) (b : Bool), p + gk2 = np ∧ bv = .bool b ∧ iv = .int .i64 zp ∧ zp = (p : Int) ∧ (b = true ↔ j ∈ pv.take p) ∧ wr2 = wo)
   case atStart => exact ⟨0, 0, false, Nat.zero_add np, rfl, by first | rfl | go_num, rfl, by simp, rfl⟩
   case round =>
    obtain ⟨p, zp, b, hpn, rfl, rfl, hzp, hbj, rfl⟩ := hrel
    rcases Nat.lt_or_ge p np with hp | hp
    ·subst hzp
     have m1 : (p : Int) < (np : Int) := by omega
     have m0 : (0 : Int) ≤ (p : Int) := Int.natCast_nonneg _
     have mb : (p : Int) ≤ 6 := by have := hp6.out; omega
     have hpp : p < pv.length := by rw [hnp.out]; exact hp
     obtain ⟨po9, pc9, hf9, hpc⟩ := il_form9 (hIL.below hb) hnp.out
     obtain ⟨rfl, rfl⟩ : po = po9 ∧ pc2 = pc9 := by simpa using hf9
     obtain ⟨pg, hpg, hcl⟩ := hpc p hpp
     subst hpg
     clear hf9 hpc
     have htk := mem_take9 (j := j) hpp
     obtain ⟨q, hq⟩ : ∃ q, q = pv[p] := ⟨_, rfl⟩
     rw [← hq] at hcl htk
     replace htk := Lib.hid htk
     replace hpp := Lib.hid hpp
     clear hq
     cases b with
     | true =>
      go_wp2_with fail
      go_roundg (np - (p + 1))
      case measure => omega
      case rel => exact ⟨p + 1, _, true, by omega, rfl, by first | rfl | go_num, by omega, ⟨fun _ => htk.out.2 (.inl (hbj.1 (by first | trivial | rfl))), fun _ => by first | trivial | rfl⟩, rfl⟩
     | false =>
      have hnj : ¬ j ∈ pv.take p := fun h => by have := hbj.2 h; simp at this
      replace hnj := Lib.hid hnj
      clear hbj
      by_cases hqj : q = j
      ·have e1 : ((q : Int) == (j : Int)) = true := by rw [hqj]; simp
       have e2 : (q : Int) = (j : Int) := by rw [hqj]
       replace e2 := Lib.hid e2
       replace hqj := Lib.hid hqj
       go_wp2_with fail
       go_roundg (np - (p + 1))
       case measure => omega
       case rel => exact ⟨p + 1, _, _, by omega, rfl, by first | rfl | go_num, by omega, ⟨fun _ => htk.out.2 (.inr hqj.out), fun _ => by first | rfl | simpa using e1⟩, rfl⟩
      ·have e1 : ((q : Int) == (j : Int)) = false := by simp; omega
       have e2 : ¬ (q : Int) = (j : Int) := by omega
       replace hqj := Lib.hid hqj
       go_wp2_with fail
       go_roundg (np - (p + 1))
       case measure => omega
       case rel => exact ⟨p + 1, _, _, by omega, rfl, by first | rfl | go_num, by omega, ⟨fun h => by first | cases h | (exfalso; simp at h; exact e2 h), fun h => absurd h fun h => (htk.out.1 h).elim hnj.out hqj.out⟩, rfl⟩
    ·obtain rfl : np = p := by omega
     subst hzp
     have m1 : ¬ (np : Int) < (np : Int) := by omega
     have hbj2 : b = true ↔ j ∈ pv := by rw [hbj, ← hnp.out, List.take_length]
     clear hbj
     cases b with
     | true =>
      have hfi : freeL pv (j + 1) = freeL pv j := free_in (hbj2.1 (by first | trivial | rfl))
      replace hfi := Lib.hid hfi
      clear hbj2
      go_wp2_with fail
      go_roundg (k - (j + 1))
      case measure => omega
      case rel => exact ⟨j + 1, _, fp, ft, fc, by omega, rfl, by first | rfl | go_num, by omega, by rw [hfi.out]; exact hft.out, by rw [hfi.out]; exact hown.out, hb⟩
     | false =>
      have hfo : freeL pv (j + 1) = freeL pv j ++ [j] := free_out fun h => by have := hbj2.2 h; simp at this
      replace hfo := Lib.hid hfo
      clear hbj2
      have hft6 : ft ≤ 1000 := by rw [hft.out]; have := List.length_filter_le (fun k => decide (k ∉ pv)) (List.range j); rw [List.length_range] at this; have h9 : (freeL pv j).length ≤ j := this; omega
      have hM := (GL.start wr).new rfl [.int .i64 (j : Int)] 3
      generalize hweq : wr.alloc (.cells #[.int .i64 (j : Int)] 3) = yd at hM
      have hcu := (hM.get _ _ mZ).cell 0 (by simp)
      simp only [List.getElem_cons_zero] at hcu
      have hwy := hM.bl
      have hown2 := own_chs (S := fun _ => False) hown.out (Chs.of_below hwy) (fun _ _ h => h)
      have hb2 := hb.trans (hwy.mono hb.size)
      replace hcu := Lib.hid hcu
      replace hown2 := Lib.hid hown2
      clear hM hwy
      go_wp2_with (at_builtin; refine wp_appendI rfl _ _ rfl y0.heap.size (.slice fp ft fc) ft (pvE (freeL pv j)) rfl hown2.out ⟨_, 0, none⟩ (j : Int) 1 rfl hcu.out (by omega) hb2.size ?_)
      intro v' w8 h8 hgr hor
      obtain ⟨va, vc, rfl⟩ := own_form12 h8
      have hlt9 := hown2.out.lt
      have hb8 := hb2.trans ((Chs.of_grown hgr).below hb2.size fun z hz e => by have := (hlt9 z e.symm).1; omega)
      replace h8 := Lib.hid h8
      clear hgr hor hlt9 hown2 hcu hweq hb2
      go_wp2_with fail
      go_roundg (k - (j + 1))
      case measure => omega
      case rel => exact ⟨j + 1, _, va, ft + 1, vc, by omega, rfl, by first | rfl | go_num, by omega, by rw [hfo.out, List.length_append, ← hft.out]; rfl, by rw [hfo.out]; have := h8.out; unfold pvE at this ⊢; rw [List.map_append]; exact this, hb8⟩
  ·obtain rfl : k = j := by omega
   subst hzj
   have k1 : ¬ (k : Int) < (k : Int) := by omega
   rw [hft.out] at hown
   have hFL := ils_own hown fc
   have hftm : ft = m := by rw [hft.out]; exact hm.out
   rw [hm.out] at hFL
   obtain rfl : m = ft := hftm.symm
   clear hown hft hftm
   replace hm1 := hm1.below hb
   replace hVL := hVL.below hb
   clear hIL hL0 hb
   have hL0 := hL1
   clear hL1
   have HZ := Lib.hid (fun w => zeroG (n := n) (by have := hn.out; omega) w)
   have hmk := fun W => makeV W (k : Int) k rfl (by have := hk.out; omega)
   have ho1 : ∃ o : Rat, o = 1 := ⟨_, rfl⟩
   go_wp2_with fail
   with_reducible refine Calls.mono (HZ.out _) ?_
   rintro e z1 ⟨zv, rfl, hZ, hb⟩
   replace hL0 := hL0.call hb
   replace hm1 := hm1.below hb
   replace hVL := hVL.below hb
   replace hFL := hFL.below hb
   clear hA hb HZ
   obtain ⟨zo, zc2, rfl⟩ := ptn_form hZ (nul_len9 n)
   have hA := hL0.fc
   simp only [zF, Nat.reduceAdd] at hA
   replace hL0 := hL0.new rfl (frCs (List.replicate k 0)) 36
   have hb := (Below.refl z1.heap.size z1).alloc (Nat.le_refl _) (.cells (frCs (List.replicate k 0)).toArray 36)
   generalize hweq : z1.alloc (.cells (frCs (List.replicate k 0)).toArray 36) = z2 at hL0 hb
   replace hm1 := hm1.below hb
   replace hVL := hVL.below hb
   replace hFL := hFL.below hb
   replace hZ := hZ.below hb
   clear hb
   have hS := slq_new0 (hL0.get _ _ mZ)
   rw [← hS0.out] at hS
   go_wp2_with fail
   clear hA hweq hmk
   have hL9 := hL0
   obtain ⟨gz, hgz⟩ : ∃ gz, gz = z1.heap.size := ⟨_, rfl⟩
   rw [← hgz] at hS hL0 hL9 ⊢
   clear hgz
   go_loopg [17, 18] m (fun gk sv iv wr => ∃ (i : Nat) (zi : Int) (so : Option Addr) (sc : Nat), i + gk = m ∧ sv = .slice so k sc ∧ iv = .int .i64 zi ∧ zi = (i : Int) ∧ PT wr (.slice so k sc) (tabV k (S i)) ∧ Below z2.heap.size z2 wr)
   case atStart => exact ⟨0, 0, _, _, Nat.zero_add m, rfl, by first | rfl | go_num, rfl, hS, Below.refl _ _⟩
   case round =>
    clear hS
    obtain ⟨i, zi, so, sc, him, rfl, rfl, hzi, hS, hb⟩ := hrel
    have hL1 := hL0.call hb
    have hA := hL1.fc
    simp only [zF, Nat.reduceAdd] at hA
    rcases Nat.lt_or_ge i m with hi | hi
    ·subst hzi
     have m1 : (i : Int) < (m : Int) := by omega
     have m0 : (0 : Int) ≤ (i : Int) := Int.natCast_nonneg _
     have mb : (i : Int) ≤ 6 := by have := hm6.out; omega
     have hk0 : 0 < k := by have := hm.out; rcases Nat.eq_zero_or_pos k with e | e; subst e; rw [show freeL pv 0 = [] from rfl] at this; simp at this; omega; exact e
     obtain ⟨lo9, lc9, hlf, hle⟩ := vl_form9 (hVL.below hb)
     obtain ⟨rfl, rfl⟩ : lo2 = lo9 ∧ lc2 = lc9 := by simpa using hlf
     obtain ⟨gl, u, hgl, hcu, hpu⟩ := hle i hi
     subst hgl
     clear hlf hle
     obtain ⟨gu, guc, rfl⟩ := ptp9_form hpu (tabV_len _ _) hk0
     replace hk0 := Lib.hid hk0
     go_upto_region 24 with fail
     go_region
     have hbD := (Below.refl wr.heap.size wr).drew
     replace hb := hb.trans (hbD.mono hb.size)
     replace hS := hS.below hbD
     replace hpu := hpu.below hbD
     replace hcu := keepsC hbD hcu
     clear hbD hA hL1
     generalize wr.drew = y1 at hb hS hpu hcu ⊢
     have hL1 := hL0.call hb
     have hA := hL1.fc
     simp only [zF, Nat.reduceAdd] at hA
     go_wp2_with fail
     clear hA
     go_loopg [19] m (fun gk2 lv wr2 => ∃ (l : Nat) (zl9 : Int), l + gk2 = m ∧ lv = .int .i64 zl9 ∧ zl9 = (l : Int) ∧ Below y1.heap.size y1 wr2)
     case atStart => exact ⟨0, 0, Nat.zero_add m, by first | rfl | go_num, rfl, Below.refl _ _⟩
     case round =>
      obtain ⟨l, zl9, hlm, rfl, hzl, hb2⟩ := hrel
      rcases Nat.lt_or_ge l m with hl | hl
      ·subst hzl
       have n1 : (l : Int) < (m : Int) := by omega
       have n0 : (0 : Int) ≤ (l : Int) := Int.natCast_nonneg _
       have nb : (l : Int) ≤ 6 := by have := hm6.out; omega
       have hlF : l < (freeL pv k).length := by rw [hm.out]; exact hl
       obtain ⟨fo9, fc9, hff, hfe⟩ := il_form9 (((hFL.below hb).below hb2)) hm.out
       obtain ⟨rfl, rfl⟩ : fp = fo9 ∧ fc = fc9 := by simpa using hff
       obtain ⟨gf, hgf, hcf⟩ := hfe l hlF
       subst hgf
       clear hff hfe
       have hVf := hV.out i l hi hl
       have hfk : (freeL pv k).getD l 0 < k := by rw [← pv_get9 _ _ hlF]; exact (free_mem.1 (List.getElem_mem hlF)).1
       rw [pv_get9 _ _ hlF] at hcf
       obtain ⟨f, hf⟩ : ∃ f, f = (freeL pv k).getD l 0 := ⟨_, rfl⟩
       rw [← hf] at hVf hfk hcf
       clear hf hlF
       have f1 : (f : Int) < (k : Int) := by omega
       have f0 : (0 : Int) ≤ (f : Int) := Int.natCast_nonneg _
       have fb : (f : Int) ≤ 6 := by have := hk.out; omega
       have hcu2 := keepsC hb2 hcu
       obtain ⟨p0, p1, p2, p3, p4⟩ := fsc (slq_fsE (hpu.below hb2) (by rw [tabV_len]; exact hk0.out)) f (by rw [tabV_len]; exact hfk)
       rw [gv_tab hfk] at p0 p1 p2 p3 p4
       obtain ⟨q, hq⟩ : ∃ q, q = V i f := ⟨_, rfl⟩
       rw [← hq] at p0 p1 p2 p3 p4 hVf
       clear hq hfk
       have hold := Lib.hid (And.intro p0 (And.intro p1 (And.intro p2 (And.intro p3 (And.intro p4 (And.intro hcf hcu2))))))
       clear p0 p1 p2 p3 p4 hcf hcu2
       have hM := (GL.start wr).new rfl [.int .u64 0, .string ⟨#[]⟩, .bool false, .int .u64 0, .string ⟨#[]⟩] 36
       generalize hweq : wr.alloc (.cells #[.int .u64 0, .string ⟨#[]⟩, .bool false, .int .u64 0, .string ⟨#[]⟩] 36) = y2 at hM
       have hA2 := hM.fc
       simp only [zF, Nat.reduceAdd] at hA2
       have hP0 := hM.put 0 wr.heap.size _ rfl [.int .u64 0, .string ⟨#[]⟩, .bool false, .int .u64 0, .string ⟨#[]⟩] rfl
       obtain ⟨y2b, hy0⟩ : ∃ y, setAll y2 wr.heap.size 0 [.int .u64 0, .string ⟨#[]⟩, .bool false, .int .u64 0, .string ⟨#[]⟩] = y := ⟨_, rfl⟩
       rw [hy0] at hP0
       simp only [setAll, Nat.zero_add, Nat.reduceAdd] at hy0
       simp only [List.set_cons_zero] at hP0
       clear hM
       have hM := hP0
       clear hP0
       by_cases hli : l = i
       ·have e1 : ((l : Int) == (i : Int)) = true := by rw [hli]; simp
        have e2 : (l : Int) = (i : Int) := by rw [hli]
        rw [if_pos hli] at hVf
        replace e2 := Lib.hid e2
        replace hli := Lib.hid hli
        have HI : ∀ w, Calls Tryz.prog 12 #[.int .i64 1] w fun xe w' => xe = .returned (fracV q) ∧ Below w.heap.size w w' := fun w => by rw [hVf]; exact intF 1 (by decide) (by decide) w
        replace HI := Lib.hid HI
        replace hVf := Lib.hid hVf
        go_wp2_with fail
        with_reducible refine Calls.mono (HI.out _) ?_
        rintro e y3 ⟨rfl, hb3⟩
        replace hM := hM.call hb3
        clear hb3 hweq HI hA2 hy0
        have hP := hM.put 0 wr.heap.size _ rfl [.int .u64 ((zl q.num : Nat) : Int), .string (zh q.num), .bool (zs q.num), .int .u64 ((lo (fe q) : Nat) : Int), .string (hs (fe q))] rfl
        obtain ⟨y4, hy⟩ : ∃ y, setAll y3 wr.heap.size 0 [.int .u64 ((zl q.num : Nat) : Int), .string (zh q.num), .bool (zs q.num), .int .u64 ((lo (fe q) : Nat) : Int), .string (hs (fe q))] = y := ⟨_, rfl⟩
        rw [hy] at hP
        simp only [setAll, Nat.zero_add, Nat.reduceAdd] at hy
        simp only [List.set_cons_zero] at hP
        have hB0 := hM.fc
        simp only [zF, Nat.reduceAdd] at hB0
        obtain ⟨p0, p1, p2, p3, p4, hcf, hcu2⟩ := hold.out
        have hBL := hP.bl
        replace p0 := keepsC hBL p0
        replace p1 := keepsC hBL p1
        replace p2 := keepsC hBL p2
        replace p3 := keepsC hBL p3
        replace p4 := keepsC hBL p4
        replace hcf := keepsC hBL hcf
        replace hcu2 := keepsC hBL hcu2
        have hB := hP.fc
        simp only [zF, Nat.reduceAdd] at hB
        have hne : ∀ W, (binOp .neq 36 (fracV q) (fracV q)).run Tryz.prog W = .ok (.bool false) W := fun W => by have := run_neqF q q true (by simp) W; exact this
        go_upto_region 32 with fail
        go_region
        replace hb2 := hb2.trans ((hBL.trans (Below.refl _ _).drew).mono hb2.size)
        clear p0 p1 p2 p3 p4 hcf hcu2 hB hold hM
        go_wp2_with fail
        go_roundg (m - (l + 1))
        case measure => omega
        case rel => exact ⟨l + 1, _, by omega, by first | rfl | go_num, by omega, hb2⟩
       ·have e1 : ((l : Int) == (i : Int)) = false := by simp; omega
        have e2 : ¬ (l : Int) = (i : Int) := by omega
        rw [if_neg hli] at hVf
        replace hVf := Lib.hid hVf
        replace hli := Lib.hid hli
        obtain ⟨p0, p1, p2, p3, p4, hcf, hcu2⟩ := hold.out
        have hBL := hM.bl
        replace p0 := keepsC hBL p0
        replace p1 := keepsC hBL p1
        replace p2 := keepsC hBL p2
        replace p3 := keepsC hBL p3
        replace p4 := keepsC hBL p4
        replace hcf := keepsC hBL hcf
        replace hcu2 := keepsC hBL hcu2
        have hB := hM.fc
        simp only [zF, Nat.reduceAdd] at hB
        have hne : ∀ W, (binOp .neq 36 (fracV q) (.agg #[.int .u64 0, .string ⟨#[]⟩, .bool false, .int .u64 0, .string ⟨#[]⟩])).run Tryz.prog W = .ok (.bool false) W := fun W => by have := run_neZ q true (by simp [hVf.out]) W; exact this
        go_upto_region 32 with fail
        go_region
        replace hb2 := hb2.trans ((hBL.trans (Below.refl _ _).drew).mono hb2.size)
        clear p0 p1 p2 p3 p4 hcf hcu2 hB hold hM
        go_wp2_with fail
        go_roundg (m - (l + 1))
        case measure => omega
        case rel => exact ⟨l + 1, _, by omega, by first | rfl | go_num, by omega, hb2⟩
      ·obtain rfl : m = l := by omega
       subst hzl
       have n1 : ¬ (m : Int) < (m : Int) := by omega
       replace hb := hb.trans (hb2.mono hb.size)
       replace hS := hS.below hb2
       replace hpu := hpu.below hb2
       replace hcu := keepsC hb2 hcu
       clear hb2 hL1
       have hL1 := hL0.call hb
       obtain ⟨qi, hqi⟩ : ∃ q : Rat, q = ((i : Int) : Rat) := ⟨_, rfl⟩
       have HI : ∀ w, Calls Tryz.prog 12 #[.int .i64 (i : Int)] w fun xe w' => xe = .returned (fracV qi) ∧ Below w.heap.size w w' := fun w => by rw [hqi]; exact intF (i : Int) (by omega) (by omega) w
       replace HI := Lib.hid HI
       replace hqi := Lib.hid hqi
       go_wp2_with fail
       with_reducible refine Calls.mono (HI.out _) ?_
       rintro e y5 ⟨rfl, hb3⟩
       replace hb := hb.trans (hb3.mono hb.size)
       replace hS := hS.below hb3
       replace hpu := hpu.below hb3
       replace hcu := keepsC hb3 hcu
       clear hb3 HI hL1
       have hM := (GL.start y5).new rfl [.int .u64 ((zl qi.num : Nat) : Int), .string (zh qi.num), .bool (zs qi.num), .int .u64 ((lo (fe qi) : Nat) : Int), .string (hs (fe qi))] 36
       generalize hweq : y5.alloc (.cells #[.int .u64 ((zl qi.num : Nat) : Int), .string (zh qi.num), .bool (zs qi.num), .int .u64 ((lo (fe qi) : Nat) : Int), .string (hs (fe qi))] 36) = y6 at hM
       rcases Nat.lt_or_ge i nc with hic | hic
       case' inl =>
        have r1 : (i : Int) < (nc : Int) := by omega
        obtain ⟨qa, rfl, hsl⟩ := hqv.out (by rw [hql.out]; omega)
        have hki : i < ql.length := by rw [hql.out]; exact hic
        replace hsl := hsl.below ((hL0.call hb).call hM.bl).bl
        have d0 := hsl.c0 i hki
        have d1 := hsl.c1 i hki
        obtain ⟨⟨b1, b2⟩, b3, b4⟩ := hsl.rg ql[i] (List.getElem_mem hki)
        have HQ := qof_any ql[i].1 ql[i].2 b1 b2 b3 b4
        obtain ⟨q, hqq⟩ : ∃ q, q = qm ql[i] := ⟨_, rfl⟩
        rw [show qmade ql[i].1 ql[i].2.toNat = qm ql[i] from rfl, ← hqq] at HQ
        rw [← qE_in hki] at hqq
        generalize ql[i].1 = zn at *
        generalize ql[i].2 = zd at *
        have hWq : W i = q := by rw [hW.out i hi, if_pos hic, hqq]
        replace HQ := Lib.hid HQ
        rw [add_one] at d1
        clear hsl b1 b2 b3 b4 hki hqq
        replace hWq := Lib.hid hWq
        go_wp2_with fail
        with_reducible refine Calls.mono (HQ.out _) ?_
        rintro e y7 ⟨rfl, hb3⟩
        replace hM := hM.call hb3
        clear hb3 d0 d1 HQ hweq
        have hP := hM.put 0 y5.heap.size _ rfl [.int .u64 ((zl q.num : Nat) : Int), .string (zh q.num), .bool (zs q.num), .int .u64 ((lo (fe q) : Nat) : Int), .string (hs (fe q))] rfl
        obtain ⟨y8, hy⟩ : ∃ y, setAll y7 y5.heap.size 0 [.int .u64 ((zl q.num : Nat) : Int), .string (zh q.num), .bool (zs q.num), .int .u64 ((lo (fe q) : Nat) : Int), .string (hs (fe q))] = y := ⟨_, rfl⟩
        rw [hy] at hP
        simp only [setAll, Nat.zero_add, Nat.reduceAdd] at hy
        simp only [List.set_cons_zero] at hP
        have hB0 := hM.fc
        simp only [zF, Nat.reduceAdd] at hB0
        go_upto_region 37 with fail
        clear hB0 hy hM
        have hM := hP
        clear hP
       case' inr =>
        have r1 : ¬ (i : Int) < (nc : Int) := by omega
        obtain ⟨q, hq9⟩ : ∃ q, q = qi := ⟨_, rfl⟩
        have hWq : W i = q := by rw [hW.out i hi, if_neg (by omega), hq9, hqi.out]; rfl
        subst hq9
        replace hWq := Lib.hid hWq
        go_upto_region 37 with fail
        skip
        obtain ⟨y8, hy8⟩ : ∃ y, y = y6 := ⟨_, rfl⟩
        subst hy8
       all_goals
        replace hb := hb.trans (hM.bl.mono hb.size)
        replace hS := hS.below hM.bl
        replace hpu := hpu.below hM.bl
        replace hcu := keepsC hM.bl hcu
        have hL1 := hL0.call hb
        have hm2 := hm1.below hb
        have HA := HAx.out i hi
        rw [hWq.out] at HA
        replace HA := Lib.hid HA
        go_upto_region 37 with fail
        refine region_tel 10 9 [EV (.agg #[.int .u64 ((zl q.num : Nat) : Int), .string (zh q.num), .bool (zs q.num), .int .u64 ((lo (fe q) : Nat) : Int), .string (hs (fe q))]), EV (.slice (some ⟨gl, 0, none⟩) m lc2), EV (.int .i64 (i : Int)), EV (.pointer (some ⟨gl, i, none⟩)), EV (.slice (some ⟨gu, 0, none⟩) k guc), EV (.slice so k sc), PE (tabV k (S (i + 1))) 0, PE (tabV k (S (i + 1))) 0, PP (tabV k (S (i + 1))), EV (.int .i64 0)] (by kernel_rfl) (by kernel_rfl) ?_ ?_ ?_ ?_
        ·exact (stays_cons (stays_eq _) (stays_cons (stays_eq _) (stays_cons (stays_eq _) (stays_cons (stays_eq _) (stays_cons (stays_eq _) (stays_cons (stays_eq _) (stays_cons (stays_pe _ _) (stays_cons (stays_pe _ _) (stays_cons (stays_pt _) (stays_cons (stays_eq _) stays_nil))))))))))
        ·simp only [List.take_succ_cons, List.take_zero, hopsR, and_true]
         refine ⟨?_, ?_, ?_, ?_, ?_, ?_, ?_, ?_, ?_, ?_⟩ <;> intro fv w1 hb1 hp
         all_goals (simp only [putsV, Act.put, zP, Nat.zero_add, Nat.reduceAdd])
         ·refine tyAt_none rfl ?_
          have hc := (hM.call (below_drew hb1)).fc
          simp only [zF, Nat.reduceAdd] at hc
          simp [tyUpon, execOp, go_sem, Act.eval, hc, Below.refl]
         ·refine tyAt_none rfl ?_
          simp [tyUpon, execOp, go_sem, Act.eval, Below.refl]
         ·refine tyAt_none rfl ?_
          simp [tyUpon, execOp, go_sem, Act.eval, Below.refl]
         ·have h1 : (EV (.slice (some ⟨gl, 0, none⟩) m lc2)) (fv 1) w1 := hp 1 (LC (by kernel_rfl))
          have h2 : (EV (.int .i64 (i : Int))) (fv 2) w1 := hp 2 (LC (by kernel_rfl))
          refine tyAt_none rfl ?_
          simp [tyUpon, execOp, go_sem, Act.eval, h1, h2, m0, m1, Below.refl]
         ·have h3 : (EV (.pointer (some ⟨gl, i, none⟩))) (fv 3) w1 := hp 3 (LC (by kernel_rfl))
          refine tyAt_none rfl ?_
          have hc := keepsC (below_drew hb1) hcu
          simp [tyUpon, execOp, go_sem, Act.eval, h3, hc, Below.refl]
         ·refine tyAt_none rfl ?_
          simp [tyUpon, execOp, go_sem, Act.eval, Below.refl]
         ·have h0 : (EV (.agg #[.int .u64 ((zl q.num : Nat) : Int), .string (zh q.num), .bool (zs q.num), .int .u64 ((lo (fe q) : Nat) : Int), .string (hs (fe q))])) (fv 0) w1 := hp 0 (LC (by kernel_rfl))
          have h4 : (EV (.slice (some ⟨gu, 0, none⟩) k guc)) (fv 4) w1 := hp 4 (LC (by kernel_rfl))
          have h5 : (EV (.slice so k sc)) (fv 5) w1 := hp 5 (LC (by kernel_rfl))
          refine tyAt_none rfl ?_
          refine ty_call (f := 47) (args := #[.agg #[.int .u64 ((zl q.num : Nat) : Int), .string (zh q.num), .bool (zs q.num), .int .u64 ((lo (fe q) : Nat) : Int), .string (hs (fe q))], .slice (some ⟨gu, 0, none⟩) k guc, .slice so k sc]) (by simp [execOp, go_sem, Act.eval, h0, h4, h5]) ?_
          exact (HA.out (.slice (some ⟨gu, 0, none⟩) k guc) (.slice so k sc) w1 (PT.below hpu (below_drew hb1)) (PT.below hS (below_drew hb1))).mono fun e w2 ⟨pv, h1, h2, h3⟩ => ⟨_, h1, ⟨pv, rfl, h2⟩, h3⟩
         ·have h6 : (PE (tabV k (S (i + 1))) 0) (fv 6) w1 := hp 6 (LC (by kernel_rfl))
          refine tyAt_none rfl ?_
          simp [tyUpon, execOp, go_sem, Act.eval, Below.refl]
          exact h6
         ·have h7 : (PE (tabV k (S (i + 1))) 0) (fv 7) w1 := hp 7 (LC (by kernel_rfl))
          refine tyAt_none rfl ?_
          obtain ⟨pa9, pe9, pz9⟩ := h7
          simp [tyUpon, execOp, go_sem, Act.eval, pe9, Below.refl]
          exact pz9
         ·have h7 : (PE (tabV k (S (i + 1))) 0) (fv 7) w1 := hp 7 (LC (by kernel_rfl))
          refine tyAt_none rfl ?_
          obtain ⟨pa9, pe9, pz9⟩ := h7
          simp [tyUpon, execOp, go_sem, Act.eval, pe9, Below.refl]
        ·intro fv w1 hb1 hv
         obtain ⟨u7, e7, -⟩ : PE (tabV k (S (i + 1))) 0 (fv 7) w1 := hv 7 (by omega) (by omega)
         refine ⟨fv 8, .int .i64 0, fun o ho => ?_, fun o ho => ?_, rfl⟩
         ·obtain rfl := Option.some.inj ho
          simp [putsV, Act.put, execOp, go_sem, Act.eval]
         ·obtain rfl := Option.some.inj ho
          simp [putsV, Act.put, execOp, go_sem, Act.eval, e7]
        ·intro fv u1 hb1 hv
         have e0 : fv 0 = _ := hv 0 (by omega)
         have e1 : fv 1 = _ := hv 1 (by omega)
         have e2 : fv 2 = _ := hv 2 (by omega)
         have e3 : fv 3 = _ := hv 3 (by omega)
         have e4 : fv 4 = _ := hv 4 (by omega)
         have e5 : fv 5 = _ := hv 5 (by omega)
         obtain ⟨u6, e6, -⟩ := hv 6 (by omega)
         obtain ⟨u7, e7, -⟩ := hv 7 (by omega)
         have eP : PP _ (fv 8) u1 := hv 8 (by omega)
         obtain ⟨so3, sc3, e8⟩ := ptn_form eP (tabV_len _ _)
         rw [e8] at eP
         have e9 : fv 9 = _ := hv 9 (by omega)
         simp only [List.take_succ_cons, List.take_zero, putsV, Act.put, zP, List.drop_succ_cons, List.drop_zero, Nat.zero_add, Nat.reduceAdd, e0, e1, e2, e3, e4, e5, e6, e7, e8, e9]
         have hb9 := below_drew hb1
         clear hv hb1 e0 e1 e2 e3 e4 e5 e6 e7 e8 e9 fv
         have e9 := eP
         clear eP
         replace hb := hb.trans (hb9.mono hb.size)
         replace hpu := hpu.below hb9
         replace hcu := keepsC hb9 hcu
         have hm3 := hm2.below hb9
         clear hm2 hS hM HA hL1 hb9
         have hL1 := hL0.call hb
         have hA := hL1.fc
         simp only [zF, Nat.reduceAdd] at hA
         skip
         go_upto_region 38 with fail
         refine region_tel 9 8 [EV (.agg #[.int .i64 (n : Int), .int .i64 (k : Int), .slice g1 d1 c1]), EV (.slice (some ⟨gl, 0, none⟩) m lc2), EV (.int .i64 (i : Int)), EV (.pointer (some ⟨gl, i, none⟩)), EV (.slice (some ⟨gu, 0, none⟩) k guc), PE (nulL n) 0, PE (nulL n) 0, PP (nulL n), EV (.int .i64 0)] (by kernel_rfl) (by kernel_rfl) ?_ ?_ ?_ ?_
         ·exact (stays_cons (stays_eq _) (stays_cons (stays_eq _) (stays_cons (stays_eq _) (stays_cons (stays_eq _) (stays_cons (stays_eq _) (stays_cons (stays_pe _ _) (stays_cons (stays_pe _ _) (stays_cons (stays_pt _) (stays_cons (stays_eq _) stays_nil)))))))))
         ·simp only [List.take_succ_cons, List.take_zero, hopsR, and_true]
          refine ⟨?_, ?_, ?_, ?_, ?_, ?_, ?_, ?_, ?_⟩ <;> intro fv w1 hb1 hp
          all_goals (simp only [putsV, Act.put, zP, Nat.zero_add, Nat.reduceAdd])
          ·refine tyAt_none rfl ?_
           have hc := (hL1.call (below_drew hb1)).fc
           simp only [zF, Nat.reduceAdd] at hc
           simp [tyUpon, execOp, go_sem, Act.eval, hc, Below.refl]
          ·refine tyAt_none rfl ?_
           simp [tyUpon, execOp, go_sem, Act.eval, Below.refl]
          ·refine tyAt_none rfl ?_
           simp [tyUpon, execOp, go_sem, Act.eval, Below.refl]
          ·have h1 : (EV (.slice (some ⟨gl, 0, none⟩) m lc2)) (fv 1) w1 := hp 1 (LC (by kernel_rfl))
           have h2 : (EV (.int .i64 (i : Int))) (fv 2) w1 := hp 2 (LC (by kernel_rfl))
           refine tyAt_none rfl ?_
           simp [tyUpon, execOp, go_sem, Act.eval, h1, h2, m0, m1, Below.refl]
          ·have h3 : (EV (.pointer (some ⟨gl, i, none⟩))) (fv 3) w1 := hp 3 (LC (by kernel_rfl))
           refine tyAt_none rfl ?_
           have hc := keepsC (below_drew hb1) hcu
           simp [tyUpon, execOp, go_sem, Act.eval, h3, hc, Below.refl]
          ·have h0 : (EV (.agg #[.int .i64 (n : Int), .int .i64 (k : Int), .slice g1 d1 c1])) (fv 0) w1 := hp 0 (LC (by kernel_rfl))
           have h4 : (EV (.slice (some ⟨gu, 0, none⟩) k guc)) (fv 4) w1 := hp 4 (LC (by kernel_rfl))
           refine tyAt_none rfl ?_
           refine ty_call (f := 48) (args := #[.agg #[.int .i64 (n : Int), .int .i64 (k : Int), .slice g1 d1 c1], .slice (some ⟨gu, 0, none⟩) k guc]) (by simp [execOp, go_sem, Act.eval, h0, h4]) ?_
           exact (HAp.out i hi (.agg #[.int .i64 (n : Int), .int .i64 (k : Int), .slice g1 d1 c1]) (.slice (some ⟨gu, 0, none⟩) k guc) w1 (mt_of (PT.below hm3 (below_drew hb1)) hcp.out hxr.out hxc.out) (PT.below hpu (below_drew hb1))).mono fun e w2 ⟨pv, h1, h2, h3⟩ => ⟨_, h1, ⟨pv, rfl, h2⟩, h3⟩
          ·have h5 : (PE (nulL n) 0) (fv 5) w1 := hp 5 (LC (by kernel_rfl))
           refine tyAt_none rfl ?_
           simp [tyUpon, execOp, go_sem, Act.eval, Below.refl]
           exact h5
          ·have h6 : (PE (nulL n) 0) (fv 6) w1 := hp 6 (LC (by kernel_rfl))
           refine tyAt_none rfl ?_
           obtain ⟨pa9, pe9, pz9⟩ := h6
           simp [tyUpon, execOp, go_sem, Act.eval, pe9, Below.refl]
           exact pz9
          ·have h6 : (PE (nulL n) 0) (fv 6) w1 := hp 6 (LC (by kernel_rfl))
           refine tyAt_none rfl ?_
           obtain ⟨pa9, pe9, pz9⟩ := h6
           simp [tyUpon, execOp, go_sem, Act.eval, pe9, Below.refl]
         ·intro fv w1 hb1 hv
          obtain ⟨u6, e6, -⟩ : PE (nulL n) 0 (fv 6) w1 := hv 6 (by omega) (by omega)
          refine ⟨fv 7, .int .i64 0, fun o ho => ?_, fun o ho => ?_, rfl⟩
          ·obtain rfl := Option.some.inj ho
           simp [putsV, Act.put, execOp, go_sem, Act.eval]
          ·obtain rfl := Option.some.inj ho
           simp [putsV, Act.put, execOp, go_sem, Act.eval, e6]
         ·intro fw u2 hb1 hv
          skip
          have e0 : fw 0 = _ := hv 0 (by omega)
          have e1 : fw 1 = _ := hv 1 (by omega)
          have e2 : fw 2 = _ := hv 2 (by omega)
          have e3 : fw 3 = _ := hv 3 (by omega)
          have e4 : fw 4 = _ := hv 4 (by omega)
          obtain ⟨u5, e5, -⟩ := hv 5 (by omega)
          obtain ⟨u6, e6, -⟩ := hv 6 (by omega)
          have eP : PP _ (fw 7) u2 := hv 7 (by omega)
          obtain ⟨to3, tc3, e7⟩ := ptn_form eP (nul_len9 n)
          rw [e7] at eP
          have e8 : fw 8 = _ := hv 8 (by omega)
          simp only [List.take_succ_cons, List.take_zero, putsV, Act.put, zP, List.drop_succ_cons, List.drop_zero, Nat.zero_add, Nat.reduceAdd, e0, e1, e2, e3, e4, e5, e6, e7, e8]
          have hb9 := below_drew hb1
          clear hv hb1 e0 e1 e2 e3 e4 e5 e6 e7 e8 fw
          have z7 := eP
          clear eP
          replace hb := hb.trans (hb9.mono hb.size)
          replace e9 := e9.below hb9
          clear hm3 hcu hpu hL1 hb9
          have hL1 := hL0.call hb
          have hz2 := hZ.below hb
          go_wp2_with fail
          with_reducible refine Calls.mono (HSm.out _ _ _ z7 hz2) ?_
          rintro e u3 ⟨rfl, hb3⟩
          replace hb := hb.trans (hb3.mono hb.size)
          replace e9 := e9.below hb3
          clear z7 hz2 hb3
          go_wp2_with fail
          go_roundg (m - (i + 1))
          case measure => omega
          case rel => exact ⟨i + 1, _, so3, sc3, by omega, rfl, by first | rfl | go_num, by omega, e9, hb⟩
    ·obtain rfl : m = i := by omega
     subst hzi
     have m1 : ¬ (m : Int) < (m : Int) := by omega
     have hm2 := hm1.below hb
     have hZ2 := hZ.below hb
     go_wp2_with fail
     with_reducible refine Calls.mono (HAq.out (.agg #[.int .i64 (n : Int), .int .i64 (k : Int), .slice g1 d1 c1]) (.slice so k sc) _ (mt_of hm2 hcp.out hxr.out hxc.out) hS) ?_
     rintro e v1 ⟨tv, rfl, htv, hb3⟩
     replace hL1 := hL1.call hb3
     replace hZ2 := hZ2.below hb3
     clear hA hb3 hm2
     obtain ⟨to3, tc3, rfl⟩ := ptn_form htv (nul_len9 n)
     have hA := hL1.fc
     simp only [zF, Nat.reduceAdd] at hA
     go_wp2_with fail
     with_reducible refine Calls.mono (HSm.out _ _ _ htv hZ2) ?_
     rintro e v2 ⟨rfl, hb3⟩
     replace hL1 := hL1.call hb3
     clear hA hb3 htv hZ2
     have hA := hL1.fc
     simp only [zF, Nat.reduceAdd] at hA
     go_wp2_with fail
     with_reducible refine Calls.mono (HW.out _ (hKT.out.at hL1.bl kKT)) ?_
     rintro e v3 ⟨rfl, hb3⟩
     replace hL1 := hL1.call hb3
     clear hA hb3
     go_wp2_with fail
     exact bodyPost_ret (v := .bool true) (by simp [results, Tryz.results7, go_sem]) rfl ⟨rfl, hL1.bl⟩
end Go.Proofs.YthffglapmkkohaaGreatDoor
namespace Go.Proofs.YthffglapmkkohaaGreatDoor
open Go.RowKit
attribute [local irreducible] lo hs sm s64 c64 d64 b64 mh ml pd pc qd qc val hiB str cmpI srD lz nb zl zh zs fe rowV tabV gv bsV turM mulM sumM oneM appV formM tabM dotL sumL mulL nulL
theorem mMOf_w (zr zc : Int) (al : Option Addr) (nl cl sa sb : Nat) (x : Mx) (KA : World → Prop) (hKA : Keeps KA) (HS : ∀ (w : World), KA w → Calls Tryz.prog 40 #[.agg #[.int .u8 zr, .int .u8 zc, .slice al nl cl], .int .i64 (sa : Int), .int .i64 (sb : Int)] w fun e w' => ∃ pv, e = .returned pv ∧ MT w' pv x ∧ Below w.heap.size w w') (ea : Int.tmod zr 7 = (sa : Int)) (eb : Int.tmod zc 7 = (sb : Int)) (sa4 : (sa : Int) ≤ 6) (sb4 : (sb : Int) ≤ 6) (hx1 : (x.r : Int) = (sa : Int)) (hx2 : (x.c : Int) = (sb : Int)) (w : World) (kKA : KA w) :
  Calls Tryz.prog 23 #[.agg #[.int .u8 zr, .int .u8 zc, .slice al nl cl]] w fun e w' => ∃ pv, e = .returned pv ∧ MT w' pv x ∧ Below w.heap.size w w' := by
 replace hKA := Lib.hid hKA
 replace HS := Lib.hid HS
 have hL0 : GL w w [] := GL.start w
 have hT : PTs w [] := PTs.nil w
 have sa0 : (0 : Int) ≤ (sa : Int) := Int.natCast_nonneg _
 have sb0 : (0 : Int) ≤ (sb : Int) := Int.natCast_nonneg _
 replace hx1 := Lib.hid hx1
 replace hx2 := Lib.hid hx2
 replace hT := ((hT.new (.cells #[.int .u8 zr, .int .u8 zc, .slice al nl cl] 51)).new (.cells #[.int .i64 0, .int .i64 0, .slice none 0 0] 56))
 replace hL0 := ((hL0.new rfl [.int .u8 zr, .int .u8 zc, .slice al nl cl] 51).new (K := w.heap.size + 1) (szA _ _) [.int .i64 0, .int .i64 0, .slice none 0 0] 56)
 generalize hweq : ((w.alloc (.cells #[.int .u8 zr, .int .u8 zc, .slice al nl cl] 51)).alloc (.cells #[.int .i64 0, .int .i64 0, .slice none 0 0] 56)) = x1 at hL0 hT
 go_enter Tryz.func23, Tryz.ntmps23
 have hN0 := cells_of _ 0 [] rfl (hL0.get _ _ (mK mZ))
 simp only [zF, Nat.reduceAdd] at hN0
 go_wp2_with fail
 clear hN0
 with_reducible refine Calls.mono (HS.out _ (hKA.out.at (hL0.bl) kKA)) ?_
 rintro e x2 ⟨v0, rfl, q0, hb⟩
 replace hL0 := hL0.call hb
 replace hT := hT.call hb
 clear hb hweq
 obtain ⟨g1, d1, g1c, rfl, hm1, hcp1⟩ := mt_form q0 hx1.out hx2.out
 replace hcp1 := Lib.hid hcp1
 replace hT := hT.cons hm1
 clear hm1
 clear q0
 have hT1 := hT.putM ((((Upd.refl (w.heap.size + 1) x2).setCell 0 (.int .i64 (sa : Int))).setCell 1 (.int .i64 (sb : Int))).setCell 2 (.slice g1 d1 g1c)) (hL0.get _ _ mZ) (by intro n; simp)
 have hA := hL0.fc
 simp only [zF, Nat.reduceAdd] at hA
 have hP := hL0.put 0 (w.heap.size + 1) _ rfl [.int .i64 (sa : Int), .int .i64 (sb : Int), .slice g1 d1 g1c] rfl
 simp only [setAll, List.set_cons_zero, List.set_cons_succ] at hP
 generalize hput1 : (((x2.setCell ⟨w.heap.size + 1, 0, none⟩ (.int .i64 (sa : Int))).setCell ⟨w.heap.size + 1, 1, none⟩ (.int .i64 (sb : Int))).setCell ⟨w.heap.size + 1, 2, none⟩ (.slice g1 d1 g1c)) = x3 at hP hT1
 have hB1 := hP.fc
 simp only [zF, Nat.reduceAdd] at hB1
 replace hL0 := hP
 replace hT := hT1
 clear hT1
 go_wp2_with fail
 exact bodyPost_ret (v := .agg #[.int .i64 (sa : Int), .int .i64 (sb : Int), .slice g1 d1 g1c]) (by simp [results, Tryz.results23, go_sem, hB1]) rfl ⟨_, rfl, (mt_of (hT.get mZ) hcp1.out hx1.out hx2.out), hL0.bl⟩
end Go.Proofs.YthffglapmkkohaaGreatDoor
namespace Go.Proofs.YthffglapmkkohaaGreatDoor
open Go.RowKit
theorem t7e {z : Int} (h : 0 ≤ z) : ∃ d : Nat, Int.tmod z 7 = (d : Int) ∧ d ≤ 6 := by
 rw [Int.tmod_eq_emod_of_nonneg h]
 exact ⟨(z % 7).toNat, by omega, by omega⟩
theorem mmofE (ql : List (Int × Int)) (zr zc : Int) (al : Option Addr) (nl cl sa sb : Nat) (ea : Int.tmod zr 7 = (sa : Int)) (eb : Int.tmod zc 7 = (sb : Int)) (ha : sa ≤ 6) (hb : sb ≤ 6) (hn : nl ≤ 1000) (w : World) (hv : QV w (.slice al nl cl) ql) :
  Calls Tryz.prog 23 #[.agg #[.int .u8 zr, .int .u8 zc, .slice al nl cl]] w fun xe w' => ∃ u, xe = .returned u ∧ MT w' u (someM ql sa sb) ∧ Below w.heap.size w w' :=
 mMOf_w zr zc al nl cl sa sb (someM ql sa sb) (fun w => QV w (.slice al nl cl) ql) (QV.keeps _ _) (fun w h => msome_w ql sa sb nl zr zc al cl (by omega) (by omega) hn w h) ea eb (by omega) (by omega) rfl rfl w hv
theorem app_tab {x : Mx} {n k : Nat} {v : Nat → Rat} (h : ∀ r, r < n → (bsV k fun t => ent x r t * v t) = 0) : appV n k x (tabV k v) = nulL n :=
 tab_ext fun r hr => (bs_congr fun t ht => by rw [gv_tab ht]).trans (h r hr)
/-- The weights of the kernel's vectors. -/
def wtE (ql : List (Int × Int)) (nc : Nat) (d i : Nat) : Rat := if i < nc then qE ql i else ((i + d : Nat) : Rat)
theorem wt_sz {ql : List (Int × Int)} (h : ∀ p ∈ ql, QR p) (nc d i : Nat) (hi : i + d ≤ 100) : Sz (wtE ql nc d i) 1 := by
 unfold wtE
 split
 ·exact qE_sz h i
 ·refine szc _ ?_ ?_
  ·rw [Rat.num_natCast]; omega
  ·rw [Rat.den_natCast]; decide
theorem ker_bd {i : Nat} (h : i ≤ 6) : i * (55282 + 2) + 1 ≤ 400000 := by
 omega
theorem ekernel_any (l0 l1 : List (Int × Int)) (x0 y0 : Int) (a0 a1 : Option Addr) (n0 c0 n1 c1 : Nat) (b0 : 0 ≤ x0) (b1 : 0 ≤ y0) (w : World)
  (h0 : QV w (.slice a0 n0 c0) l0) (h1 : QV w (.slice a1 n1 c1) l1) (ht : Tab w) :
  Calls Tryz.prog 7 #[.agg #[.int .u8 x0, .int .u8 y0, .slice a0 n0 c0], .slice a1 n1 c1] w fun e w' => e = .returned (.bool true) ∧ Below w.heap.size w w' := by
 by_cases g1 : n0 ≤ 40
 case neg => exact ekernel_l1 x0 y0 a0 a1 n0 c0 n1 c1 (fun v w h => efew_any [n0] false ⟨(fun h => by cases h), fun h => absurd (h n0 (by simp)) g1⟩ (by simp) v w h) Tab Keeps.tab eworks_any w ht
 have HF := fun (v : Value) (w : World) (h : FWs w v [n0]) => efew_any [n0] true ⟨fun _ l hl => by
  rw [List.mem_singleton.1 hl]; exact g1, fun _ => rfl⟩ (by simp) v w h
 by_cases g2 : 8 < n1
 ·exact ekernel_l2 x0 y0 a0 a1 n0 c0 n1 c1 HF Tab Keeps.tab eworks_any (decide_eq_true (by omega)) (decide_eq_true g2) w ht
 obtain ⟨na, ea, na6⟩ := t7e b0
 obtain ⟨nb, eb, nb6⟩ := t7e b1
 have gx := someM_gm (qv_rg h0) na nb
 have HMo := fun w hv => mmofE l0 x0 y0 a0 n0 c0 na nb ea eb na6 nb6 (by omega) w hv
 generalize someM l0 na nb = x at gx HMo
 have hfx : freeL (pvX x) nb = frX x := by unfold frX; rw [gx.c]
 have hfl := fr_len gx
 have hW : ∀ i, i < (frX x).length → Sz (wtE l1 n1 0 i) 1 := fun i hi => wt_sz (qv_rg h1) n1 0 i (by omega)
 have hZ : ∀ j, j < nb → Sz ((fun _ => 0 : Nat → Rat) j) 1 := fun _ _ => szc 0 (by decide) (by decide)
 have hVs : ∀ i, i < (frX x).length → ∀ j, j < nb → Sz (kvX x i j) 55282 := fun i hi j _ => kvX_sz gx nb6 hi j
 have hSs : ∀ i, i ≤ (frX x).length → ∀ j, j < nb → Sz (smK (fun _ => 0) (wtE l1 n1 0) (kvX x) i j) 400000 := fun i hi j hj => (smK_sz hZ hW hVs i hi j hj).mono (ker_bd (by omega))
 exact ekernel_law x0 y0 a0 a1 n0 c0 n1 c1 na nb (frX x).length (pvX x).length x l1 (pvX x) (kvX x) (smK (fun _ => 0) (wtE l1 n1 0) (kvX x)) (wtE l1 n1 0)
  HF (fun w => QV w (.slice a0 n0 c0) l0) (QV.keeps _ _) HMo
  (fun p w h => KernE gx (by omega) nb6 p w h)
  (fun p w h => RedE9 gx (by omega) nb6 p w h)
  (fun i hi p q w hp hq => AxpyE (n := nb) (M := 400000) (tabV_len _ _) (tabV_len _ _) (by omega) (by omega) ((hW i hi).mono (by omega)) (tab_all fun j hj => (hVs i hi j hj).mono (by omega)) (tab_all fun j hj => hSs i (by omega) j hj) (tab_ext fun j hj => by rw [gv_tab hj, gv_tab hj]; rfl) p q w hp hq)
  (fun i hi p q w hp hq => ApplyE gx (by omega) nb6 (M := 400000) (tabV_len _ _) (tab_all fun j hj => (hVs i hi j hj).mono (by omega)) (by omega) (by omega) (app_tab fun r hr => ker_app gx hi r hr) p q w hp hq)
  (fun p q w hp hq => ApplyE gx (by omega) nb6 (M := 400000) (tabV_len _ _) (tab_all fun j hj => hSs _ (Nat.le_refl _) j hj) (by omega) (by omega) (app_tab fun r hr => by
   rw [smK_app (fun t => ent x r t) (fun i hi => ker_app gx hi r hr) _ (Nat.le_refl _)]
   exact (bs_congr (g := fun _ => 0) fun t _ => by show _ * 0 = _; grind).trans (bs_zero _)) p q w hp hq)
  (fun p q w hp hq => sameT (GV.nul na) (by omega) p q w hp hq)
  Tab Keeps.tab eworks_any
  (by rw [gx.r]) (by rw [gx.c]) na6 nb6 (by rw [hfx]) rfl (by omega) (qv_len h1) (by omega)
  (fun i hi => rfl) (fun i l hi hl => by rw [hfx]; exact kv_at hi hl) (rep_tab nb).symm (by omega)
  (decide_eq_false (by omega)) (decide_eq_false g2) w h0 h1 ht
end Go.Proofs.YthffglapmkkohaaGreatDoor
namespace Go.Proofs.YthffglapmkkohaaGreatDoor
open Go.ChangeShapes Go.WideShapes Go.ChangeAt Go.RowKit
theorem own : ownKnob Tryz.prog.godebug = none := by kernel_rfl
theorem laidOut : laidOutB Tryz.prog = true := by kernel_rfl
theorem cells24 : Tryz.prog.cellsOf 30 = 1 := by kernel_rfl
/-- The variables that every row of this layer lists. -/
def laidAll : List (String × DataW Unit) := [("math/bits.deBruijn32tab", Rows.laid_math_bits_deBruijn32tab), ("math/bits.deBruijn64tab", Rows.laid_math_bits_deBruijn64tab), ("internal/strconv.uint64pow10", Rows.laid_internal_strconv_uint64pow10)]
theorem gPow : Tryz.prog.globalNamed "internal/strconv.uint64pow10" = some 3 := by kernel_rfl
theorem gPowType : (Tryz.prog.globals[3]?).map (·.type) = some 257 := by kernel_rfl
theorem cells20 : Tryz.prog.cellsOf 257 = 20 := by kernel_rfl
theorem tab_of {W : World} (h : laidMetH Tryz.prog laidAll W) : Tab W := by
 have h1 := laidMetH.filter (fun x => x.1 == "internal/strconv.uint64pow10") h
 have e : laidAll.filter (fun x => x.1 == "internal/strconv.uint64pow10") = [("internal/strconv.uint64pow10", Rows.laid_internal_strconv_uint64pow10)] := by kernel_rfl
 rw [e, MakeChecks.laidMetH_plain _ _ _ (by kernel_rfl)] at h1
 exact Lib.tabIs_of_head (rest := []) gPow gPowType Tryz.underlying257 Tryz.underlying30 cells24 cells20 (show laidMet Tryz.prog (("internal/strconv.uint64pow10", Lib.tabData .u64 Lib.pow10Tab) :: []) W from h1)
end Go.Proofs.YthffglapmkkohaaGreatDoor
namespace Go.Proofs.YthffglapmkkohaaGreatDoor
open Go.ChangeShapes Go.WideShapes Go.ChangeAt Go.RowKit Go.Joins
theorem cellsQ : Tryz.prog.cellsOf 40 = 2 := by kernel_rfl
theorem cellsI : Tryz.prog.cellsOf 2 = 1 := by kernel_rfl
theorem cellsU : Tryz.prog.cellsOf 38 = 1 := by kernel_rfl
end Go.Proofs.YthffglapmkkohaaGreatDoor
namespace Go.Proofs.YthffglapmkkohaaGreatDoor
open Go.ChangeShapes Go.WideShapes Go.ChangeAt Go.RowKit Go.Joins
section
variable {H : Type} {enc : TypeId × Value → H} {P : Program} {w : World} {base : Nat} {spare : Nat → Bool} {held : Bool}
end
theorem addaddV (a : Addr) (i j : Nat) : (a.add i).add j = a.add (i + j) := by
 unfold Addr.add
 by_cases h : i = 0
 ·subst h; simp
 ·by_cases h2 : j = 0
  ·subst h2; simp [h]
  ·simp [h, h2, Nat.add_assoc]
theorem qv_of {H : Type} {enc : TypeId × Value → H} {W : World} {base : Nat} {v : Value} {d : DataW H} {p : List MemPlace} (hv : Value.okWide Tryz.prog W .any base 22 v)
  (h : DataW.Trod enc Tryz.prog W 0 (fun _ => true) true 22 v d p) : ∃ a n c l, v = .slice a n c ∧ QV W (.slice a n c) l := by
 obtain ⟨a0, len, cap, rfl⟩ := okWide_slice Tryz.underlying22 hv
 obtain ⟨fuel, hf⟩ := h
 rcases Go.Deep.open_slice_pairs Tryz.underlying22 Tryz.underlying40 cellsQ rfl rfl cellsI cellsU hf with ⟨hcs, hx⟩ | ⟨a, len', cap', m, n, V0, V1, D0, D1, P0, P1, hcs, _, hl, _, hm, hx, hcell⟩
 ·simp [Value.cells] at hcs
  obtain ⟨rfl, rfl, rfl⟩ := hcs
  exact ⟨none, 0, 0, [], rfl, none, 0, rfl, Nat.le_refl _, fun _ => rfl, fun h => absurd h (Nat.lt_irrefl _)⟩
 ·simp [Value.cells] at hcs
  obtain ⟨rfl, rfl, rfl⟩ := hcs
  simp only [if_true] at hm
  by_cases h0 : len = 0
  ·subst h0
   exact ⟨some a, 0, cap, [], rfl, some a, cap, rfl, Nat.zero_le _, (fun h => by cases h), fun h => absurd h (Nat.lt_irrefl _)⟩
  have each : ∀ i, i < len → ∃ z : Int × Int, W.cell? (a.add (i * 2)) = some (.int .i64 z.1) ∧ W.cell? ((a.add (i * 2)).add 1) = some (.int .u32 z.2) ∧ (-9223372036854775808 ≤ z.1 ∧ z.1 < 9223372036854775808) ∧ 0 ≤ z.2 ∧ z.2 < 4294967296 := by
   intro i hi
   obtain ⟨e0, e1, g0, g1⟩ := hcell i (by omega)
   obtain ⟨x, y0, -, f0⟩ := DataW.trod_int Tryz.underlying2 g0
   obtain ⟨y, y1, -, f1⟩ := DataW.trod_int Tryz.underlying38 g1
   simp only [List.cons.injEq, and_true] at y0 y1
   rw [y0] at e0
   rw [y1] at e1
   have b0 := bounds_i64 f0
   have b1 := bounds_u32 f1
   exact ⟨(x, y), e0, by rw [addaddV]; exact e1, by omega, by omega⟩
  obtain ⟨q, hq⟩ := Go.Deep.choose_lt each
  refine ⟨some a, len, cap, (List.range len).map q, rfl, some a, cap, by simp, by simpa using hl, (fun h => by cases h), fun _ => ⟨a, rfl, fun i hi => ?_, fun i hi => ?_, fun z hz => ?_, ?_⟩⟩
  ·have hi' : i < len := by simpa using hi
   have := (hq i hi').1
   simpa using this
  ·have hi' : i < len := by simpa using hi
   have := (hq i hi').2.1
   simpa using this
  ·obtain ⟨i, hi, rfl⟩ := List.mem_map.1 hz
   exact (hq i (List.mem_range.1 hi)).2.2
  ·have e := (hq 0 (by omega)).1
   have := World.block_lt_of_cell? W _ e
   rw [add_blk] at this
   exact this
end Go.Proofs.YthffglapmkkohaaGreatDoor
namespace Go.Proofs.YthffglapmkkohaaGreatDoor
open Go.ChangeShapes Go.WideShapes Go.ChangeAt Go.RowKit Go.Joins
section
variable {H : Type} {enc : TypeId × Value → H} {P : Program} {w : World} {base : Nat} {spare : Nat → Bool} {held : Bool}
end
theorem qv_of_trod {H : Type} {enc : TypeId × Value → H} {W : World} {fuel : Nat} {v : Value} {y : DataW H × List MemPlace}
  (hf : DataW.trod enc Tryz.prog W 0 (fun _ => true) true fuel 22 [v] = some y) : ∃ a n c l, v = .slice a n c ∧ QV W (.slice a n c) l := by
 obtain ⟨d, p⟩ := y
 rcases Go.Deep.open_slice_pairs Tryz.underlying22 Tryz.underlying40 cellsQ rfl rfl cellsI cellsU hf with ⟨hcs, hx⟩ | ⟨a, len, cap, m, n, V0, V1, D0, D1, P0, P1, hcs, _, hl, _, hm, hx, hcell⟩
 ·simp only [List.cons.injEq, and_true] at hcs
  subst hcs
  exact ⟨none, 0, 0, [], rfl, none, 0, rfl, Nat.le_refl _, fun _ => rfl, fun h => absurd h (Nat.lt_irrefl _)⟩
 ·simp only [List.cons.injEq, and_true] at hcs
  subst hcs
  simp only [if_true] at hm
  by_cases h0 : len = 0
  ·subst h0
   exact ⟨some a, 0, cap, [], rfl, some a, cap, rfl, Nat.zero_le _, (fun h => by cases h), fun h => absurd h (Nat.lt_irrefl _)⟩
  have each : ∀ i, i < len → ∃ z : Int × Int, W.cell? (a.add (i * 2)) = some (.int .i64 z.1) ∧ W.cell? ((a.add (i * 2)).add 1) = some (.int .u32 z.2) ∧ (-9223372036854775808 ≤ z.1 ∧ z.1 < 9223372036854775808) ∧ 0 ≤ z.2 ∧ z.2 < 4294967296 := by
   intro i hi
   obtain ⟨e0, e1, g0, g1⟩ := hcell i (by omega)
   obtain ⟨x, y0, -, f0⟩ := DataW.trod_int Tryz.underlying2 g0
   obtain ⟨y, y1, -, f1⟩ := DataW.trod_int Tryz.underlying38 g1
   simp only [List.cons.injEq, and_true] at y0 y1
   rw [y0] at e0
   rw [y1] at e1
   have b0 := bounds_i64 f0
   have b1 := bounds_u32 f1
   exact ⟨(x, y), e0, by rw [addaddV]; exact e1, by omega, by omega⟩
  obtain ⟨q, hq⟩ := Go.Deep.choose_lt each
  refine ⟨some a, len, cap, (List.range len).map q, rfl, some a, cap, by simp, by simpa using hl, (fun h => by cases h), fun _ => ⟨a, rfl, fun i hi => ?_, fun i hi => ?_, fun z hz => ?_, ?_⟩⟩
  ·have hi' : i < len := by simpa using hi
   have := (hq i hi').1
   simpa using this
  ·have hi' : i < len := by simpa using hi
   have := (hq i hi').2.1
   simpa using this
  ·obtain ⟨i, hi, rfl⟩ := List.mem_map.1 hz
   exact (hq i (List.mem_range.1 hi)).2.2
  ·have e := (hq 0 (by omega)).1
   have := World.block_lt_of_cell? W _ e
   rw [add_blk] at this
   exact this
theorem cellsM : Tryz.prog.cellsOf 51 = 3 := by kernel_rfl
theorem m_of {H : Type} {enc : TypeId × Value → H} {W : World} {base : Nat} {v : Value} {d : DataW H} {p : List MemPlace} (hv : Value.okWide Tryz.prog W .any base 51 v)
  (h : DataW.Trod enc Tryz.prog W 0 (fun _ => true) true 51 v d p) : ∃ (x y : Int) (a : Option Addr) (n c : Nat) (l : List (Int × Int)), v = .agg #[.int .u8 x, .int .u8 y, .slice a n c] ∧ (0 ≤ x ∧ x < 256) ∧ (0 ≤ y ∧ y < 256) ∧ QV W (.slice a n c) l := by
 obtain ⟨v0, v1, v2, y0, y1, y2, m, rfl, rfl, rfl, h0, h1, h2⟩ := open_agg3 Tryz.underlying51 (by kernel_rfl) cellsM hv h
 obtain ⟨x, e0, -, f0⟩ := DataW.trod_int Tryz.underlying5 h0
 obtain ⟨y, e1, -, f1⟩ := DataW.trod_int Tryz.underlying5 h1
 simp only [List.cons.injEq, and_true] at e0 e1
 subst e0 e1
 obtain ⟨a, n, c, l, rfl, hq⟩ := qv_of_trod h2
 have b0 := bounds_u8 f0
 have b1 := bounds_u8 f1
 exact ⟨x, y, a, n, c, l, rfl, by omega, by omega, hq⟩
end Go.Proofs.YthffglapmkkohaaGreatDoor
