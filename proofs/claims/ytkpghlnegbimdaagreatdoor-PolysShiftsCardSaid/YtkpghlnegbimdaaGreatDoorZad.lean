/-
  The law answers true at every input, and leaves its arguments as they were: a part of the proof. CONDITIONS: the package-level tables start as the program's text lays them (the card ties them).
-/
import Derived.Test.YtkpghlnegbimdaaGreatDoorZac
import Derived.Test.YtkpghlnegbimdaaGreatDoorRows
set_option linter.unusedVariables false
set_option linter.unusedSimpArgs false
set_option maxHeartbeats 16000000
set_option maxRecDepth 100000
namespace Go.Proofs.YtkpghlnegbimdaaGreatDoor
open Go.RowKit
section
variable {P : Program} {ops : Array Oper} {C : World → Prop}
/-- What an operation does: its value has the property in the world that it leaves. -/
def tyUpon (P : Program) (w : World) (T : Value → World → Prop) : Result Next → Prop
 | .ok (.value u) w' => Below w.heap.size w w' ∧ T u w'
 | .ok .skip w' => Below w.heap.size w w' ∧ T undef w'
 | .ok (.enter f args) w' => w' = w ∧ Calls P f args w (fun e w'' => ∃ u, e = .returned u ∧ T u w'' ∧ Below w.heap.size w w'')
 | _ => False
def TyAt (P : Program) (ops : Array Oper) (o : Oper) (a : Act) (w : World) (T : Value → World → Prop) : Prop :=
 if Region.wanted o (yielded ops a.tmps) then tyUpon P w T ((execOp a.eval o).run P w) else T undef w
theorem tyAt_none {o : Oper} {a : Act} {w : World} {T : Value → World → Prop} (hg : o.guard = none) (h : tyUpon P w T ((execOp a.eval o).run P w)) : TyAt P ops o a w T := by
 unfold TyAt
 rw [if_pos (by unfold Region.wanted; rw [hg])]
 exact h
/-- A call whose contract gives the property. -/
theorem ty_call {o : Oper} {a : Act} {w : World} {T : Value → World → Prop} {f : FuncId} {args : Array Value} (hr : (execOp a.eval o).run P w = .ok (.enter f args) w) (h : Calls P f args w fun e w'' => ∃ u, e = .returned u ∧ T u w'' ∧ Below w.heap.size w w'') : tyUpon P w T ((execOp a.eval o).run P w) := by
 rw [hr]; exact ⟨rfl, h⟩
/-- The frame with the values of the operations that have come up. -/
def putsIf : List Oper → Nat → (Nat → Bool) → (Nat → Value) → Act → Act
 | [], _, _, _, a => a
 | o :: l, k, b, v, a => putsIf l (k + 1) b v (if b k then a.put o.dst (v k) else a)
def putsV : List Oper → Nat → (Nat → Value) → Act → Act
 | [], _, _, a => a
 | o :: l, k, v, a => putsV l (k + 1) v (a.put o.dst (v k))
theorem putsIf_all {v : Nat → Value} {b : Nat → Bool} : ∀ (l : List Oper) (k : Nat) (a : Act), (∀ i, k ≤ i → i < k + l.length → b i = true) → putsIf l k b v a = putsV l k v a
 | [], _, _, _ => rfl
 | o :: l, k, a, h => by
  rw [putsIf, putsV, if_pos (h k (Nat.le_refl k) (by rw [List.length_cons]; omega))]
  exact putsIf_all l (k + 1) _ fun i h1 h2 => h i (by omega) (by rw [List.length_cons]; omega)
theorem putsIf_none {v : Nat → Value} {b : Nat → Bool} : ∀ (l : List Oper) (k : Nat) (a : Act), (∀ i, k ≤ i → i < k + l.length → b i = false) → putsIf l k b v a = a
 | [], _, _, _ => rfl
 | o :: l, k, a, h => by
  rw [putsIf, if_neg (by rw [h k (Nat.le_refl k) (by rw [List.length_cons]; omega)]; exact Bool.false_ne_true)]
  exact putsIf_none l (k + 1) _ fun i h1 h2 => h i (by omega) (by rw [List.length_cons]; omega)
theorem putsIf_congr {v v' : Nat → Value} {b b' : Nat → Bool} : ∀ (l : List Oper) (k : Nat) (a : Act), (∀ i, k ≤ i → i < k + l.length → b i = b' i ∧ (b i = true → v i = v' i)) → putsIf l k b v a = putsIf l k b' v' a
 | [], _, _, _ => rfl
 | o :: l, k, a, h => by
  obtain ⟨h1, h2⟩ := h k (Nat.le_refl k) (by rw [List.length_cons]; omega)
  rw [putsIf, putsIf]
  have e : (if b k = true then a.put o.dst (v k) else a) = (if b' k = true then a.put o.dst (v' k) else a) := by
   rw [← h1]
   by_cases hb : b k = true
   ·rw [if_pos hb, if_pos hb, h2 hb]
   ·rw [if_neg hb, if_neg hb]
  rw [e]
  exact putsIf_congr l (k + 1) _ fun i h1 h2 => h i (by omega) (by rw [List.length_cons]; omega)
/-- No two of them write one slot. -/
def apartD (d : Option Tmp) (l : List Oper) : Bool := l.all fun o => match d, o.dst with
 | some x, some y => !(x == y)
 | _, _ => true
def nodupD : List Oper → Bool
 | [] => true
 | o :: l => apartD o.dst l && nodupD l
theorem apartD_spec {d : Option Tmp} {l : List Oper} (h : apartD d l = true) {o : Oper} (ho : o ∈ l) {x : Tmp} (hx : d = some x) : o.dst ≠ some x := by
 intro e
 have := (List.all_eq_true.1 h) o ho
 subst hx
 simp only [e] at this
 simp at this
theorem put_late {v : Nat → Value} {b : Nat → Bool} {d : Option Tmp} {u : Value} : ∀ (l : List Oper) (k : Nat) (a : Act), apartD d l = true → putsIf l k b v (a.put d u) = (putsIf l k b v a).put d u
 | [], _, _, _ => rfl
 | o :: l, k, a, h => by
  have h0 := h
  simp only [apartD, List.all_cons, Bool.and_eq_true] at h
  rw [putsIf, putsIf]
  by_cases hb : b k = true
  ·rw [if_pos hb, if_pos hb]
   have : (a.put d u).put o.dst (v k) = (a.put o.dst (v k)).put d u := by
    cases d with
    | none => rfl
    | some x =>
     cases ho : o.dst with
     | none => rfl
     | some y =>
      have hne : y ≠ x := fun e => apartD_spec h0 List.mem_cons_self rfl (by rw [ho, e])
      exact Act.put_comm a u (v k) (fun d hd e => hne (Option.some.inj (e.trans hd.symm)))
   rw [this]
   exact put_late l (k + 1) _ h.2
  ·rw [if_neg hb, if_neg hb]; exact put_late l (k + 1) _ h.2
theorem put_at {v v' : Nat → Value} {b b' : Nat → Bool} {j : Nat} {u : Value} (hb : b j = false) (hb' : b' j = true) (hv : v' j = u) (hbb : ∀ i, i ≠ j → b' i = b i ∧ v' i = v i) :
  ∀ (l : List Oper) (k : Nat) (a : Act) (o : Oper), nodupD l = true → k ≤ j → l[j - k]? = some o → (putsIf l k b v a).put o.dst u = putsIf l k b' v' a
 | [], _, _, _, _, _, h => by simp at h
 | o1 :: l, k, a, o, hn, hk, h => by
  simp only [nodupD, Bool.and_eq_true] at hn
  rw [putsIf, putsIf]
  by_cases e : j = k
  ·subst e
   simp only [Nat.sub_self, List.getElem?_cons_zero, Option.some.injEq] at h
   subst h
   rw [if_neg (by rw [hb]; exact Bool.false_ne_true), if_pos hb', hv, ← put_late l (j + 1) a hn.1]
   exact putsIf_congr l (j + 1) _ fun i h1 h2 => ⟨(hbb i (by omega)).1.symm, fun _ => (hbb i (by omega)).2.symm⟩
  ·have hk' : k + 1 ≤ j := by omega
   rw [show j - k = (j - (k + 1)) + 1 by omega, List.getElem?_cons_succ] at h
   obtain ⟨h1, h2⟩ := hbb k (fun e' => e e'.symm)
   rw [h1, h2]
   exact put_at hb hb' hv hbb l (k + 1) _ o hn.2 hk' h
theorem put_get (a : Act) (d : Option Tmp) (u : Value) (t : Nat) : (a.put d u).tmps[t]? = if d = some t then (if t < a.tmps.size then some u else none) else a.tmps[t]? := by
 cases d with
 | none => simp [Act.put]
 | some x =>
  simp only [Act.put, Array.getElem?_setIfInBounds, Option.some.injEq]
  by_cases h : x = t
  ·subst h; simp
  ·simp [h]
theorem get_puts {v : Nat → Value} {b : Nat → Bool} {t : Nat} : ∀ (l : List Oper) (k : Nat) (a a' : Act), a.tmps[t]? = a'.tmps[t]? → (∀ i o, l[i]? = some o → o.dst = some t → b (k + i) = true) → (putsIf l k b v a).tmps[t]? = (putsV l k v a').tmps[t]?
 | [], _, _, _, h, _ => h
 | o :: l, k, a, a', h, hd => by
  rw [putsIf, putsV]
  refine get_puts l (k + 1) _ _ ?_ fun i o' ho' hd' => by have := hd (i + 1) o' (by simpa using ho') hd'; rwa [show k + (i + 1) = k + 1 + i by omega] at this
  have hsz : t < a.tmps.size ↔ t < a'.tmps.size := by
   constructor <;> intro h1
   ·rw [Array.getElem?_eq_getElem h1] at h; exact (Array.getElem?_eq_some_iff.1 h.symm).1
   ·rw [Array.getElem?_eq_getElem h1] at h; exact (Array.getElem?_eq_some_iff.1 h).1
  by_cases e : o.dst = some t
  ·have hb := hd 0 o (by simp) e
   rw [Nat.add_zero] at hb
   rw [if_pos hb, put_get, put_get, if_pos e, if_pos e]
   by_cases h2 : t < a.tmps.size
   ·rw [if_pos h2, if_pos (hsz.1 h2)]
   ·rw [if_neg h2, if_neg fun h3 => h2 (hsz.2 h3)]
  ·by_cases hb : b k = true
   ·rw [if_pos hb, put_get, put_get, if_neg e, if_neg e]; exact h
   ·rw [if_neg hb, put_get, if_neg e]; exact h
theorem wanted_same {a a' : Act} {o : Oper} (h : ∀ t ∈ o.looksAt ops, a.tmps[t]? = a'.tmps[t]?) : Region.wanted o (yielded ops a.tmps) = Region.wanted o (yielded ops a'.tmps) := by
 unfold Region.wanted
 cases hg : o.guard with
 | none => rfl
 | some gw =>
  obtain ⟨gg, want⟩ := gw
  have hy : yielded ops a.tmps gg = yielded ops a'.tmps gg := by
   unfold yielded
   cases ht : (ops[gg]?).bind (·.dst) with
   | none => rfl
   | some t =>
    have := h t (List.mem_append_right _ (by simp [hg, ht]))
    simp [this]
  simp only [hy]
theorem exec_same {a a' : Act} {o : Oper} (hs : ∀ cs b, o.op ≠ .select cs b) (h : ∀ t ∈ o.looksAt ops, a.tmps[t]? = a'.tmps[t]?) : execOp a.eval o = execOp a'.eval o :=
 execOp_congr o hs fun x hx => by
  cases x with
  | tmp t =>
   have ht : t ∈ o.looksAt ops := List.mem_append_left _ (List.mem_filterMap.2 ⟨_, by simpa using hx, rfl⟩)
   simp only [Act.eval, Array.getD_eq_getD_getElem?, h t ht]
  | _ => rfl
/-- Each of the first n waits for earlier ones alone, and for each of them that writes a slot that it looks at. -/
def depB (ops : Array Oper) (n : Nat) : Bool :=
 (List.range n).all fun j => (predsOf .any ops j).all (fun i => decide (i < j)) && match ops[j]? with
  | some o => (o.looksAt ops).all fun t => (List.range n).all fun i => match (ops[i]?).bind (·.dst) with
    | some d => !(d == t) || (predsOf .any ops j).contains i
    | none => true
  | none => true
theorem depB_pred {n j i : Nat} (h : depB ops n = true) (hj : j < n) (hi : i ∈ predsOf .any ops j) : i < j := by
 simp only [depB, List.all_eq_true, List.mem_range, Bool.and_eq_true, decide_eq_true_eq] at h
 exact (h j hj).1 i hi
theorem depB_looks {n j i : Nat} (h : depB ops n = true) (hj : j < n) (hi : i < n) {o o' : Oper} (ho : ops[j]? = some o) (ho' : ops[i]? = some o') {t : Tmp} (ht : t ∈ o.looksAt ops) (hd : o'.dst = some t) : i ∈ predsOf .any ops j := by
 simp only [depB, List.all_eq_true, List.mem_range, Bool.and_eq_true, decide_eq_true_eq] at h
 have h1 := (h j hj).2
 rw [ho] at h1
 simp only [List.all_eq_true, List.mem_range] at h1
 have h2 := h1 t ht i hi
 rw [ho'] at h2
 simp only [Option.bind_some, hd, beq_self_eq_true, Bool.not_true, Bool.false_or] at h2
 exact List.contains_iff_mem.1 h2
/-- A property that later worlds keep. -/
def Stays (T : Value → World → Prop) : Prop := ∀ v w w', Below w.heap.size w w' → T v w → T v w'
/-- How many of the first n have not come up. -/
def left (n : Nat) (listed : Array Bool) : Nat := (List.range n).countP fun i => !listed.getD i false
theorem left_zero {n : Nat} {listed : Array Bool} (h : left n listed = 0) : doneN n listed = true := by
 refine doneN_iff.2 fun i hi => ?_
 have := (List.countP_eq_zero.1 h) i (List.mem_range.2 hi)
 simpa using this
theorem left_some {n m : Nat} {listed : Array Bool} (h : left n listed = m + 1) : doneN n listed = false := by
 refine Bool.eq_false_iff.2 fun hd => ?_
 have : left n listed = 0 := List.countP_eq_zero.2 fun i hi => by simp [doneN_iff.1 hd i (List.mem_range.1 hi)]
 omega
theorem countP_drop {p q : Nat → Bool} {j : Nat} (hpq : ∀ i, i ≠ j → q i = p i) (hp : p j = true) (hq : q j = false) : ∀ (r : List Nat), r.Nodup → j ∈ r → r.countP p = r.countP q + 1
 | [], _, h => by cases h
 | x :: r, hn, h => by
  rw [List.nodup_cons] at hn
  rcases List.mem_cons.1 h with rfl | h
  ·rw [List.countP_cons_of_pos hp, List.countP_cons_of_neg (by rw [hq]; exact Bool.false_ne_true)]
   congr 1
   refine List.countP_congr fun i hi => ?_
   rw [hpq i (fun e => hn.1 (e ▸ hi))]
  ·have hx : x ≠ j := fun e => hn.1 (e ▸ h)
   have ih := countP_drop hpq hp hq r hn.2 h
   by_cases hpx : p x = true
   ·rw [List.countP_cons_of_pos hpx, List.countP_cons_of_pos (by rw [hpq x hx]; exact hpx), ih]
   ·rw [List.countP_cons_of_neg hpx, List.countP_cons_of_neg (by rw [hpq x hx]; exact hpx), ih]
theorem left_set {n j m : Nat} {listed : Array Bool} (hs : listed.size = ops.size) (hj : j < n) (hjs : j < ops.size) (hu : listed.getD j false = false) (h : left n listed = m + 1) : left n (listed.setIfInBounds j true) = m := by
 have := countP_drop (p := fun i => !listed.getD i false) (q := fun i => !(listed.setIfInBounds j true).getD i false) (j := j) (fun i hi => by simp only [getD_set_ne false (fun e => hi e.symm)]) (by simp [hu]) (by simp [hs, hjs]) (List.range n) List.nodup_range (List.mem_range.2 hj)
 unfold left at h ⊢
 omega
theorem ready_some {n m : Nat} {listed : Array Bool} (hs : listed.size = ops.size) (hn : n ≤ ops.size) (hD : depB ops n = true) (h : left n listed = m + 1) : Region.ready .any ops listed ≠ [] := by
  have hnd := left_some h
  have ex : ∃ i, i < n ∧ listed.getD i false = false := Classical.byContradiction fun hc => by
    have : doneN n listed = true := doneN_iff.2 fun i hi => by
      cases hv : listed.getD i false with
      | true => rfl
      | false => exact absurd ⟨i, hi, hv⟩ hc
    rw [this] at hnd; cases hnd
  have key : ∀ k i, i ≤ k → i < n → listed.getD i false = false → ∃ i, i ∈ Region.ready .any ops listed := by
    intro k
    induction k with
    | zero =>
      intro i hi h1 h2
      obtain rfl : i = 0 := by omega
      have ho : 0 < ops.size := by omega
      refine ⟨0, mem_ready.2 ⟨by have h3 : 0 < listed.size := by omega
                                 simpa [h3] using h2, ops[0], Array.getElem?_eq_getElem ho, fun e he hb => ?_⟩⟩
      have : e.on ∈ predsOf .any ops 0 := by
        unfold predsOf; rw [Array.getElem?_eq_getElem ho]
        exact List.mem_map.2 ⟨e, List.mem_filter.2 ⟨by simpa using he, hb⟩, rfl⟩
      have := depB_pred hD h1 this
      omega
    | succ k ih =>
      intro i hi h1 h2
      have ho : i < ops.size := by omega
      by_cases hall : ∀ p ∈ predsOf .any ops i, listed.getD p false = true
      · refine ⟨i, mem_ready.2 ⟨by have h3 : i < listed.size := by omega
                                   simpa [h3] using h2, ops[i], Array.getElem?_eq_getElem ho, fun e he hb => hall _ ?_⟩⟩
        unfold predsOf; rw [Array.getElem?_eq_getElem ho]
        exact List.mem_map.2 ⟨e, List.mem_filter.2 ⟨by simpa using he, hb⟩, rfl⟩
      · have : ∃ p, p ∈ predsOf .any ops i ∧ listed.getD p false = false := Classical.byContradiction fun hc => hall fun p hp => by
          cases hv : listed.getD p false with
          | true => rfl
          | false => exact absurd ⟨p, hp, hv⟩ hc
        obtain ⟨p, hp, hv⟩ := this
        have := depB_pred hD h1 hp
        exact ih p (by omega) (by omega) hv
  obtain ⟨i, h1, h2⟩ := ex
  obtain ⟨i, hi⟩ := key i i (Nat.le_refl _) h1 h2
  exact List.ne_nil_of_mem hi
theorem preds_of_ready {j : Nat} {listed : Array Bool} (hj : j ∈ Region.ready .any ops listed) : ∀ p ∈ predsOf .any ops j, listed.getD p false = true := by
 obtain ⟨-, o, ho, hall⟩ := mem_ready.1 hj
 intro p hp
 unfold predsOf at hp
 simp only [ho, List.mem_map, List.mem_filter] at hp
 obtain ⟨e, ⟨he, hb⟩, rfl⟩ := hp
 exact hall e (by simpa using he) hb
theorem wpAny_ty {n s : Nat} {l : List Oper} {T : Nat → Value → World → Prop} {w0 : World} {a0 : Act} {Q : Exit → Act → World → Prop} (hT : ∀ i, Stays (T i)) (hsel : Region.noSelect l.toArray = true) (hn : n ≤ l.length)
  (hB : barB .any l.toArray n = true) (hN : nodupD (l.take n) = true) (hD : depB l.toArray n = true)
  (hops : ∀ j o, j < n → l[j]? = some o → ∀ v w, Below w0.heap.size w0 w → (∀ p ∈ predsOf .any l.toArray j, T p (v p) w) → TyAt P l.toArray o (putsV (l.take n) 0 v a0) w (T j))
  (hend : ∀ v w, Below w0.heap.size w0 w → (∀ i, i < n → T i (v i) w) → wpAny P .any l.toArray Q s (canonL l.length n) (putsV (l.take n) 0 v a0) w) :
  ∀ (m : Nat) (listed : Array Bool) (v : Nat → Value) (w : World), left n listed = m → closedL .any l.toArray listed → sufL n l.toArray listed → Below w0.heap.size w0 w →
   (∀ i, i < n → listed.getD i false = true → T i (v i) w) → wpAny P .any l.toArray Q (s + m) listed (putsIf (l.take n) 0 (fun i => listed.getD i false) v a0) w := by
 intro m
 have hlen : (l.take n).length = n := by rw [List.length_take]; omega
 induction m with
 | zero =>
  intro listed v w hl hc hu hb ht
  have hd := left_zero hl
  rw [putsIf_all (l.take n) 0 a0 fun i _ h2 => doneN_iff.1 hd i (by omega)]
  have e := canon_of hu hd
  rw [show l.toArray.size = l.length by simp] at e
  rw [e]
  exact hend v w hb fun i hi => ht i hi (doneN_iff.1 hd i hi)
 | succ m ih =>
  intro listed v w hl hc hu hb ht
  have hnd := left_some hl
  refine ⟨fun h0 => absurd h0 (ready_some hu.1 (by simpa using hn) hD hl), fun j hj => ?_⟩
  have hjn := bar hB hc hj hnd
  obtain ⟨hju, o, ho, -⟩ := mem_ready.1 hj
  have hpre := preds_of_ready hj
  have hol : l[j]? = some o := by simpa using ho
  have hjs : j < l.toArray.size := (Array.getElem?_eq_some_iff.1 ho).1
  have hty := hops j o hjn hol v w hb fun p hp => ht p (by have := depB_pred hD hjn hp; omega) (hpre p hp)
  have hag : ∀ t ∈ o.looksAt l.toArray, (putsIf (l.take n) 0 (fun i => listed.getD i false) v a0).tmps[t]? = (putsV (l.take n) 0 v a0).tmps[t]? := fun t ht' =>
   get_puts (l.take n) 0 a0 a0 rfl fun i o' ho' hd' => by
    have hin : i < n := by rw [← hlen]; exact (List.getElem?_eq_some_iff.1 ho').1
    have ho2 : l.toArray[i]? = some o' := by rw [List.getElem?_take, if_pos hin] at ho'; simpa using ho'
    rw [Nat.zero_add]
    exact hpre i (depB_looks hD hjn hin ho ho2 ht' hd')
  have step : ∀ u w', Below w.heap.size w w' → T j u w' → wpAny P .any l.toArray Q (s + m) (listed.setIfInBounds j true) ((putsIf (l.take n) 0 (fun i => listed.getD i false) v a0).put o.dst u) w' := by
   intro u w' hw' hu'
   have e := put_at (v := v) (v' := fun i => if i = j then u else v i) (b := fun i => listed.getD i false) (b' := fun i => (listed.setIfInBounds j true).getD i false) (j := j) (u := u) (unl hju) (by simp [hu.1]; simpa using hjs) (by simp)
    (fun i hi => ⟨getD_set_ne false fun e => hi e.symm, by simp [hi]⟩) (l.take n) 0 a0 o hN (Nat.zero_le _) (by rw [Nat.sub_zero, List.getElem?_take, if_pos hjn]; exact hol)
   rw [e]
   refine ih _ _ w' (left_set (ops := l.toArray) hu.1 hjn hjs (unl hju) hl) (hc.set hj) ⟨by simpa using hu.1, fun k hk hks => by rw [getD_set_ne true (by omega)]; exact hu.2 k hk hks⟩ (hb.trans (hw'.mono hb.size)) fun i hi hli => ?_
   by_cases e : i = j
   ·subst e; simpa using hu'
   ·rw [getD_set_ne false fun e' => e e'.symm] at hli
    simp only [if_neg e]
    exact hT i _ _ _ hw' (ht i hi hli)
  unfold wpOp
  simp only [ho]
  unfold TyAt at hty
  rw [← wanted_same hag] at hty
  by_cases hw : Region.wanted o (yielded l.toArray (putsIf (l.take n) 0 (fun i => listed.getD i false) v a0).tmps) = true
  ·simp only [hw, if_true] at hty ⊢
   refine .inl ?_
   unfold Oper.wp
   rw [exec_same (fun cs b => Region.noSelect_spec hsel j o cs b ho) hag]
   generalize (execOp (putsV (l.take n) 0 v a0).eval o).run P w = r at *
   cases r with
   | ok nx w' =>
    cases nx <;> simp only [tyUpon] at hty <;> simp only [Oper.upon]
    case value u => exact step u w' hty.1 hty.2
    case skip => exact step undef w' hty.1 hty.2
    case enter f args =>
     obtain ⟨rfl, hcall⟩ := hty
     exact hcall.mono fun e w'' ⟨u, he, h1, h2⟩ => by subst he; exact step u w'' h2 h1
   | halt x w' => simp only [tyUpon] at hty
  ·simp only [hw] at hty ⊢
   exact step undef w (Below.refl _ _) hty
def tyB (n : Nat) (l : List Oper) : Bool :=
 Region.noSelect l.toArray && decide (n ≤ l.length) && barB .any l.toArray n && nodupD (l.take n) && depB l.toArray n && seqB .any l.toArray (l.length - n) n (canonL l.length n)
/-- **A region whose first n operations each give a value of a property; then the others, in their order.** -/
theorem region_ty (n : Nat) (T : Nat → Value → World → Prop) {id : Nat} {Q : Exit → Act → World → Prop} {a : Act} {w : World} {l : List Oper} (hm : P.follows .mixedOrders = true) (hB : tyB n l = true) (hT : ∀ i, Stays (T i))
  (hops : ∀ j o, j < n → l[j]? = some o → ∀ v w1, Below w.drew.heap.size w.drew w1 → (∀ p ∈ predsOf .any l.toArray j, T p (v p) w1) → TyAt P l.toArray o (putsV (l.take n) 0 v a) w1 (T j))
  (hend : ∀ v w1, Below w.drew.heap.size w.drew w1 → (∀ i, i < n → T i (v i) w1) → wpList P l.toArray Q (l.drop n) (putsV (l.take n) 0 v a) w1) : (Code.region id l.toArray true).wp P Q a w := by
 simp only [tyB, Bool.and_eq_true, decide_eq_true_eq] at hB
 obtain ⟨⟨⟨⟨⟨hs, hn⟩, hb⟩, hN⟩, hD⟩, hq⟩ := hB
 refine wp_region_any hm ?_
 have hrep : ∀ i, (Array.replicate l.length false).getD i false = false := fun i => by
  rcases Nat.lt_or_ge i l.length with h' | h' <;> simp [h']
 have h0 : closedL .any l.toArray (Array.replicate l.length false) := fun j o _ hl => by rw [hrep] at hl; cases hl
 have hleft : left n (Array.replicate l.length false) = n := by
  unfold left
  rw [List.countP_eq_length.2 fun i _ => by rw [hrep]; rfl, List.length_range]
 have h2 := wpAny_ty (P := P) (s := l.length - n) (Q := Q) (a0 := a) hT hs hn hb hN hD hops (fun v w1 h1 h2 => by
   have h3 := wpAny_of_seq (md := .any) (P := P) (Q' := Q) (l.drop n) n (canonL l.length n) (putsV (l.take n) 0 v a) w1 (fun j hj => by simp [List.getElem?_drop]) (by rw [List.length_drop]; exact hq) (hend v w1 h1 h2)
   rw [List.length_drop] at h3
   exact h3) n (Array.replicate l.length false) (fun _ => undef) w.drew hleft h0 ⟨by simp, fun j _ hj => by simp at hj; simp [hj]⟩ (Below.refl _ _) (fun i _ hl => by rw [hrep] at hl; cases hl)
 rw [putsIf_none (l.take n) 0 a fun i _ _ => hrep i, Nat.sub_add_cancel hn] at h2
 simpa using h2
theorem stays_nil : ∀ i : Nat, Stays (([] : List (Value → World → Prop)).getD i (fun _ _ => True)) := fun i => by simp [Stays]
theorem stays_cons {T : Value → World → Prop} {L : List (Value → World → Prop)} (h : Stays T) (hL : ∀ i : Nat, Stays (L.getD i (fun _ _ => True))) : ∀ i : Nat, Stays ((T :: L).getD i (fun _ _ => True))
 | 0 => h
 | i + 1 => by simpa using hL i
theorem stays_eq (c : Value) : Stays (fun u _ => u = c) := fun _ _ _ _ h => h
/-- The operations, one obligation each. -/
def hopsR (P : Program) (ops : Array Oper) (T : Nat → Value → World → Prop) (w0 : World) (F : (Nat → Value) → Act) : List Oper → Nat → Prop
 | [], _ => True
 | o :: l, k => (∀ v w1, Below w0.heap.size w0 w1 → (∀ p ∈ predsOf .any ops k, T p (v p) w1) → TyAt P ops o (F v) w1 (T k)) ∧ hopsR P ops T w0 F l (k + 1)
theorem hops_of {T : Nat → Value → World → Prop} {w0 : World} {F : (Nat → Value) → Act} : ∀ (l : List Oper) (k : Nat), hopsR P ops T w0 F l k → ∀ j o, l[j]? = some o → ∀ v w1, Below w0.heap.size w0 w1 → (∀ p ∈ predsOf .any ops (k + j), T p (v p) w1) → TyAt P ops o (F v) w1 (T (k + j))
 | [], _, _, j, o, h => by simp at h
 | o' :: l, k, hh, 0, o, h => by
  simp only [List.getElem?_cons_zero, Option.some.injEq] at h
  subst h; exact hh.1
 | o' :: l, k, hh, j + 1, o, h => by
  have := hops_of l (k + 1) hh.2 j o (by simpa using h)
  rwa [show k + 1 + j = k + (j + 1) by omega] at this
/-- region_ty, with its properties as a list. -/
theorem region_tl (n : Nat) (L : List (Value → World → Prop)) {id : Nat} {Q : Exit → Act → World → Prop} {a : Act} {w : World} {l : List Oper} (hm : P.follows .mixedOrders = true) (hB : tyB n l = true) (hT : ∀ i, Stays (L.getD i (fun _ _ => True)))
  (hops : hopsR P l.toArray (fun i => L.getD i (fun _ _ => True)) w.drew (fun v => putsV (l.take n) 0 v a) (l.take n) 0)
  (hend : ∀ v w1, Below w.drew.heap.size w.drew w1 → (∀ i, i < n → L.getD i (fun _ _ => True) (v i) w1) → wpList P l.toArray Q (l.drop n) (putsV (l.take n) 0 v a) w1) : (Code.region id l.toArray true).wp P Q a w :=
 region_ty n (fun i => L.getD i (fun _ _ => True)) hm hB hT (fun j o hj ho v w1 hb hp => by
  have := hops_of (l.take n) 0 hops j o (by rw [List.getElem?_take, if_pos hj]; exact ho) v w1 hb (by rw [Nat.zero_add]; exact hp)
  rwa [Nat.zero_add] at this) hend
end
end Go.Proofs.YtkpghlnegbimdaaGreatDoor
namespace Go.Proofs.YtkpghlnegbimdaaGreatDoor
open Go.RowKit
section
variable {P : Program} {ops : Array Oper} {C : World → Prop}
theorem alloc_run {P : Program} {o : Oper} {ev : Operand → Value} {e t : TypeId} {c : Array Value} (he : o.op = .alloc e) (h : ∀ w, (Instr.alloc e true (.tuple #[])).run P w = .ok (.pointer (some ⟨w.heap.size, 0, none⟩)) (w.alloc (.cells c t))) (w : World) :
  (execOp ev o).run P w = .ok (.value (.pointer (some ⟨w.heap.size, 0, none⟩))) (w.alloc (.cells c t)) := by
 simp only [execOp, he]
 rw [Sem.run_bind, h w]
 rfl
/-- What the operations that make boxes do. -/
def newR (P : Program) (l : List Oper) : List Nat → Prop
 | [] => True
 | j :: A => (∃ o e c t, l[j]? = some o ∧ o.guard = none ∧ o.op = .alloc e ∧ ∀ w, (Instr.alloc e true (.tuple #[])).run P w = .ok (.pointer (some ⟨w.heap.size, 0, none⟩)) (w.alloc (.cells c t))) ∧ newR P l A
theorem newR_spec {P : Program} {l : List Oper} : ∀ {A : List Nat}, newR P l A → ∀ j o, l[j]? = some o → A.contains j = true → o.guard = none ∧ ∃ e c t, o.op = .alloc e ∧ ∀ w, (Instr.alloc e true (.tuple #[])).run P w = .ok (.pointer (some ⟨w.heap.size, 0, none⟩)) (w.alloc (.cells c t))
 | [], _, _, _, _, hA => by simp at hA
 | k :: A, h, j, o, ho, hA => by
  obtain ⟨⟨o', e, c, t, h1, h2, h3, h4⟩, hr⟩ := h
  rcases List.mem_cons.1 (List.contains_iff_mem.1 hA) with e1 | e1
  ·subst e1
   rw [ho] at h1
   obtain rfl := Option.some.inj h1
   exact ⟨h2, e, c, t, h3, h4⟩
  ·exact newR_spec hr j o ho (List.contains_iff_mem.2 e1)
theorem wpAny_ta {n s : Nat} {l : List Oper} {T : Nat → Value → World → Prop} {w0 : World} {a0 : Act} {Q : Exit → Act → World → Prop} {A : Nat → Bool} (hT : ∀ i, Stays (T i)) (hsel : Region.noSelect l.toArray = true) (hn : n ≤ l.length)
  (hB : barB .any l.toArray n = true) (hN : nodupD (l.take n) = true) (hD : depB l.toArray n = true)
  (hops : ∀ j o, j < n → l[j]? = some o → ∀ v w, Below w0.heap.size w0 w → (∀ p ∈ predsOf .any l.toArray j, T p (v p) w) → TyAt P l.toArray o (putsV (l.take n) 0 v a0) w (T j))
  (hptr : ∀ j, A j = true → ∀ u w, T j u w → ∃ k, u = .pointer (some ⟨k, 0, none⟩) ∧ k < w.heap.size)
  (hnew : ∀ j o, l[j]? = some o → A j = true → o.guard = none ∧ ∃ e c t, o.op = .alloc e ∧ ∀ w, (Instr.alloc e true (.tuple #[])).run P w = .ok (.pointer (some ⟨w.heap.size, 0, none⟩)) (w.alloc (.cells c t)))
  (hend : ∀ v w, Below w0.heap.size w0 w → (∀ i, i < n → T i (v i) w) → (∀ i j, i < n → j < n → i ≠ j → A i = true → A j = true → v i ≠ v j) → wpAny P .any l.toArray Q s (canonL l.length n) (putsV (l.take n) 0 v a0) w) :
  ∀ (m : Nat) (listed : Array Bool) (v : Nat → Value) (w : World), left n listed = m → closedL .any l.toArray listed → sufL n l.toArray listed → Below w0.heap.size w0 w →
   (∀ i, i < n → listed.getD i false = true → T i (v i) w) → (∀ i j, i < n → j < n → i ≠ j → A i = true → A j = true → listed.getD i false = true → listed.getD j false = true → v i ≠ v j) → wpAny P .any l.toArray Q (s + m) listed (putsIf (l.take n) 0 (fun i => listed.getD i false) v a0) w := by
 intro m
 have hlen : (l.take n).length = n := by rw [List.length_take]; omega
 induction m with
 | zero =>
  intro listed v w hl hc hu hb ht hne
  have hd := left_zero hl
  rw [putsIf_all (l.take n) 0 a0 fun i _ h2 => doneN_iff.1 hd i (by omega)]
  have e := canon_of hu hd
  rw [show l.toArray.size = l.length by simp] at e
  rw [e]
  exact hend v w hb (fun i hi => ht i hi (doneN_iff.1 hd i hi)) fun i j hi hj hij ha hb' => hne i j hi hj hij ha hb' (doneN_iff.1 hd i hi) (doneN_iff.1 hd j hj)
 | succ m ih =>
  intro listed v w hl hc hu hb ht hne
  have hnd := left_some hl
  refine ⟨fun h0 => absurd h0 (ready_some hu.1 (by simpa using hn) hD hl), fun j hj => ?_⟩
  have hjn := bar hB hc hj hnd
  obtain ⟨hju, o, ho, -⟩ := mem_ready.1 hj
  have hpre := preds_of_ready hj
  have hol : l[j]? = some o := by simpa using ho
  have hjs : j < l.toArray.size := (Array.getElem?_eq_some_iff.1 ho).1
  have hty := hops j o hjn hol v w hb fun p hp => ht p (by have := depB_pred hD hjn hp; omega) (hpre p hp)
  have hag : ∀ t ∈ o.looksAt l.toArray, (putsIf (l.take n) 0 (fun i => listed.getD i false) v a0).tmps[t]? = (putsV (l.take n) 0 v a0).tmps[t]? := fun t ht' =>
   get_puts (l.take n) 0 a0 a0 rfl fun i o' ho' hd' => by
    have hin : i < n := by rw [← hlen]; exact (List.getElem?_eq_some_iff.1 ho').1
    have ho2 : l.toArray[i]? = some o' := by rw [List.getElem?_take, if_pos hin] at ho'; simpa using ho'
    rw [Nat.zero_add]
    exact hpre i (depB_looks hD hjn hin ho ho2 ht' hd')
  have step : ∀ u w', Below w.heap.size w w' → T j u w' → (A j = true → u = .pointer (some ⟨w.heap.size, 0, none⟩)) → wpAny P .any l.toArray Q (s + m) (listed.setIfInBounds j true) ((putsIf (l.take n) 0 (fun i => listed.getD i false) v a0).put o.dst u) w' := by
   intro u w' hw' hu' hun
   have e := put_at (v := v) (v' := fun i => if i = j then u else v i) (b := fun i => listed.getD i false) (b' := fun i => (listed.setIfInBounds j true).getD i false) (j := j) (u := u) (unl hju) (by simp [hu.1]; simpa using hjs) (by simp)
    (fun i hi => ⟨getD_set_ne false fun e => hi e.symm, by simp [hi]⟩) (l.take n) 0 a0 o hN (Nat.zero_le _) (by rw [Nat.sub_zero, List.getElem?_take, if_pos hjn]; exact hol)
   rw [e]
   refine ih _ _ w' (left_set (ops := l.toArray) hu.1 hjn hjs (unl hju) hl) (hc.set hj) ⟨by simpa using hu.1, fun k hk hks => by rw [getD_set_ne true (by omega)]; exact hu.2 k hk hks⟩ (hb.trans (hw'.mono hb.size)) (fun i hi hli => ?_) ?_
   ·by_cases e : i = j
    ·subst e; simpa using hu'
    ·rw [getD_set_ne false fun e' => e e'.symm] at hli
     simp only [if_neg e]
     exact hT i _ _ _ hw' (ht i hi hli)
   intro i k hi hk hik hAi hAk hli hlk
   by_cases e : i = j
   ·subst e
    have e2 : k ≠ i := fun e => hik e.symm
    rw [getD_set_ne false fun e' => e2 e'.symm] at hlk
    simp only [if_neg e2, if_pos]
    obtain ⟨b, hb1, hb2⟩ := hptr k hAk _ _ (ht k hk hlk)
    rw [hb1, hun hAi]
    intro he
    simp only [Value.pointer.injEq, Option.some.injEq, Addr.mk.injEq, and_true] at he
    omega
   ·rw [getD_set_ne false fun e' => e e'.symm] at hli
    by_cases e2 : k = j
    ·subst e2
     simp only [if_neg e, if_pos]
     obtain ⟨b, hb1, hb2⟩ := hptr i hAi _ _ (ht i hi hli)
     rw [hb1, hun hAk]
     intro he
     simp only [Value.pointer.injEq, Option.some.injEq, Addr.mk.injEq, and_true] at he
     omega
    ·rw [getD_set_ne false fun e' => e2 e'.symm] at hlk
     simp only [if_neg e, if_neg e2]
     exact hne i k hi hk hik hAi hAk hli hlk
  unfold wpOp
  simp only [ho]
  unfold TyAt at hty
  rw [← wanted_same hag] at hty
  by_cases hw : Region.wanted o (yielded l.toArray (putsIf (l.take n) 0 (fun i => listed.getD i false) v a0).tmps) = true
  ·simp only [hw, if_true] at hty ⊢
   refine .inl ?_
   unfold Oper.wp
   rw [exec_same (fun cs b => Region.noSelect_spec hsel j o cs b ho) hag]
   have hal : A j = true → ∀ u w', (execOp (putsV (l.take n) 0 v a0).eval o).run P w = .ok (.value u) w' → u = .pointer (some ⟨w.heap.size, 0, none⟩) := fun hA u w' hr => by
    obtain ⟨_, e, c, t, he, hal⟩ := hnew j o hol hA
    rw [alloc_run he hal] at hr
    simp only [Result.ok.injEq, Next.value.injEq] at hr
    exact hr.1.symm
   have hal2 : A j = true → ∀ w', (execOp (putsV (l.take n) 0 v a0).eval o).run P w ≠ .ok .skip w' := fun hA w' hr => by
    obtain ⟨_, e, c, t, he, hal⟩ := hnew j o hol hA
    rw [alloc_run he hal] at hr
    cases hr
   have hal3 : A j = true → ∀ f args w', (execOp (putsV (l.take n) 0 v a0).eval o).run P w ≠ .ok (.enter f args) w' := fun hA f args w' hr => by
    obtain ⟨_, e, c, t, he, hal⟩ := hnew j o hol hA
    rw [alloc_run he hal] at hr
    cases hr
   generalize (execOp (putsV (l.take n) 0 v a0).eval o).run P w = r at *
   cases r with
   | ok nx w' =>
    cases nx <;> simp only [tyUpon] at hty <;> simp only [Oper.upon]
    case value u => exact step u w' hty.1 hty.2 fun hA => hal hA u w' rfl
    case skip => exact step undef w' hty.1 hty.2 fun hA => absurd rfl (hal2 hA w')
    case enter f args =>
     obtain ⟨rfl, hcall⟩ := hty
     exact hcall.mono fun e w'' ⟨u, he, h1, h2⟩ => by subst he; exact step u w'' h2 h1 fun hA => absurd rfl (hal3 hA f args _)
   | halt x w' => simp only [tyUpon] at hty
  ·simp only [hw] at hty ⊢
   exact step undef w (Below.refl _ _) hty fun hA => by
    obtain ⟨hg, _⟩ := hnew j o hol hA
    exact absurd (by unfold Region.wanted; rw [hg]) hw
/-- **A region whose first n operations each give a value of a property; then the others, in their order.** -/
theorem region_ta (n : Nat) (T : Nat → Value → World → Prop) (A : Nat → Bool) {id : Nat} {Q : Exit → Act → World → Prop} {a : Act} {w : World} {l : List Oper} (hm : P.follows .mixedOrders = true) (hB : tyB n l = true) (hT : ∀ i, Stays (T i))
  (hops : ∀ j o, j < n → l[j]? = some o → ∀ v w1, Below w.drew.heap.size w.drew w1 → (∀ p ∈ predsOf .any l.toArray j, T p (v p) w1) → TyAt P l.toArray o (putsV (l.take n) 0 v a) w1 (T j))
  (hptr : ∀ j, A j = true → ∀ u w, T j u w → ∃ k, u = .pointer (some ⟨k, 0, none⟩) ∧ k < w.heap.size)
  (hnew : ∀ j o, l[j]? = some o → A j = true → o.guard = none ∧ ∃ e c t, o.op = .alloc e ∧ ∀ w, (Instr.alloc e true (.tuple #[])).run P w = .ok (.pointer (some ⟨w.heap.size, 0, none⟩)) (w.alloc (.cells c t)))
  (hend : ∀ v w1, Below w.drew.heap.size w.drew w1 → (∀ i, i < n → T i (v i) w1) → (∀ i j, i < n → j < n → i ≠ j → A i = true → A j = true → v i ≠ v j) → wpList P l.toArray Q (l.drop n) (putsV (l.take n) 0 v a) w1) : (Code.region id l.toArray true).wp P Q a w := by
 simp only [tyB, Bool.and_eq_true, decide_eq_true_eq] at hB
 obtain ⟨⟨⟨⟨⟨hs, hn⟩, hb⟩, hN⟩, hD⟩, hq⟩ := hB
 refine wp_region_any hm ?_
 have hrep : ∀ i, (Array.replicate l.length false).getD i false = false := fun i => by
  rcases Nat.lt_or_ge i l.length with h' | h' <;> simp [h']
 have h0 : closedL .any l.toArray (Array.replicate l.length false) := fun j o _ hl => by rw [hrep] at hl; cases hl
 have hleft : left n (Array.replicate l.length false) = n := by
  unfold left
  rw [List.countP_eq_length.2 fun i _ => by rw [hrep]; rfl, List.length_range]
 have h2 := wpAny_ta (A := A) (P := P) (s := l.length - n) (Q := Q) (a0 := a) hT hs hn hb hN hD hops hptr hnew (fun v w1 h1 h2 hdis => by
   have h3 := wpAny_of_seq (md := .any) (P := P) (Q' := Q) (l.drop n) n (canonL l.length n) (putsV (l.take n) 0 v a) w1 (fun j hj => by simp [List.getElem?_drop]) (by rw [List.length_drop]; exact hq) (hend v w1 h1 h2 hdis)
   rw [List.length_drop] at h3
   exact h3) n (Array.replicate l.length false) (fun _ => undef) w.drew hleft h0 ⟨by simp, fun j _ hj => by simp at hj; simp [hj]⟩ (Below.refl _ _) (fun i _ hl => by rw [hrep] at hl; cases hl) (fun i j _ _ _ _ _ hl => by rw [hrep] at hl; cases hl)
 rw [putsIf_none (l.take n) 0 a fun i _ _ => hrep i, Nat.sub_add_cancel hn] at h2
 simpa using h2
/-- region_ta, with its properties as a list; A: the operations that make boxes. -/
theorem region_tal (n : Nat) (L : List (Value → World → Prop)) (A : List Nat) {id : Nat} {Q : Exit → Act → World → Prop} {a : Act} {w : World} {l : List Oper} (hm : P.follows .mixedOrders = true) (hB : tyB n l = true) (hT : ∀ i, Stays (L.getD i (fun _ _ => True)))
  (hops : hopsR P l.toArray (fun i => L.getD i (fun _ _ => True)) w.drew (fun v => putsV (l.take n) 0 v a) (l.take n) 0)
  (hptr : ∀ j, A.contains j = true → ∀ u w, L.getD j (fun _ _ => True) u w → ∃ k, u = .pointer (some ⟨k, 0, none⟩) ∧ k < w.heap.size)
  (hnew : newR P l A)
  (hend : ∀ v w1, Below w.drew.heap.size w.drew w1 → (∀ i, i < n → L.getD i (fun _ _ => True) (v i) w1) → (∀ i j, i < n → j < n → i ≠ j → A.contains i = true → A.contains j = true → v i ≠ v j) → wpList P l.toArray Q (l.drop n) (putsV (l.take n) 0 v a) w1) : (Code.region id l.toArray true).wp P Q a w :=
 region_ta n (fun i => L.getD i (fun _ _ => True)) (fun i => A.contains i) hm hB hT (fun j o hj ho v w1 hb hp => by
  have := hops_of (l.take n) 0 hops j o (by rw [List.getElem?_take, if_pos hj]; exact ho) v w1 hb (by rw [Nat.zero_add]; exact hp)
  rwa [Nat.zero_add] at this) hptr (fun j o ho hA => newR_spec hnew j o ho hA) hend
end
end Go.Proofs.YtkpghlnegbimdaaGreatDoor
namespace Go.Proofs.YtkpghlnegbimdaaGreatDoor.Rx
open Go.RowKit
/-- The number that digits spell. -/
def tv : List Nat → Nat
 | [] => 0
 | d :: l => d + 10000 * tv l
theorem tv_nil : tv [] = 0 := rfl
/-- The digits of a number. -/
def td (n : Nat) : List Nat := if h : n = 0 then [] else n % 10000 :: td (n / 10000)
theorem td_zero : td 0 = [] := by rw [td, dif_pos rfl]
theorem td_pos {n : Nat} (h : n ≠ 0) : td n = n % 10000 :: td (n / 10000) := by rw [td, dif_neg h]
theorem td_lt (n : Nat) : ∀ d ∈ td n, d < 10000 := by
 induction n using Nat.strongRecOn with
 | _ n ih =>
  by_cases h : n = 0
  ·rw [h, td_zero]; intro d hd; cases hd
  ·rw [td_pos h]
   intro d hd
   rcases List.mem_cons.1 hd with rfl | hd
   ·omega
   ·exact ih (n / 10000) (by omega) d hd
theorem td_nil {n : Nat} : td n = [] ↔ n = 0 := by
 by_cases h : n = 0
 ·rw [h, td_zero]; simp
 ·rw [td_pos h]; simp [h]
theorem tv_append (l m : List Nat) : tv (l ++ m) = tv l + 10000 ^ l.length * tv m := by
 induction l with
 | nil => simp [tv]
 | cons d l ih => rw [List.cons_append, tv, ih, tv, List.length_cons, Nat.pow_succ, Nat.mul_add, Nat.mul_comm _ 10000, Nat.mul_assoc]; omega
theorem tv_lt {l : List Nat} (h : ∀ d ∈ l, d < 10000) : tv l < 10000 ^ l.length := by
 induction l with
 | nil => exact Nat.one_pos
 | cons d l ih =>
  have h1 := ih fun x hx => h x (List.mem_cons_of_mem _ hx)
  have h2 := h d List.mem_cons_self
  rw [tv, List.length_cons, Nat.pow_succ]
  omega
theorem tv_zeros (k : Nat) : tv (List.replicate k 0) = 0 := by
 induction k with
 | zero => rfl
 | succ k ih => rw [List.replicate_succ, tv, ih]
/-- Digits are those of their number, and zeros behind them. -/
theorem td_tv {l : List Nat} (h : ∀ d ∈ l, d < 10000) : ∃ z, l = td (tv l) ++ List.replicate z 0 := by
 induction l with
 | nil => exact ⟨0, by rw [tv, td_zero]; rfl⟩
 | cons d l ih =>
  obtain ⟨z, hz⟩ := ih fun x hx => h x (List.mem_cons_of_mem _ hx)
  have hd := h d List.mem_cons_self
  rw [tv]
  by_cases h0 : d + 10000 * tv l = 0
  ·have h1 : tv l = 0 := by omega
   rw [h1, td_zero, List.nil_append] at hz
   refine ⟨z + 1, ?_⟩
   rw [h0, td_zero, List.nil_append, List.replicate_succ, ← hz, show d = 0 by omega]
  ·refine ⟨z, ?_⟩
   rw [td_pos h0, show (d + 10000 * tv l) % 10000 = d by omega, show (d + 10000 * tv l) / 10000 = tv l by omega, List.cons_append, ← hz]
theorem td_length {n k : Nat} : (td n).length ≤ k ↔ n < 10000 ^ k := by
 induction k generalizing n with
 | zero =>
  rw [Nat.pow_zero]
  constructor
  ·intro h; have := td_nil.1 (List.eq_nil_of_length_eq_zero (l := td n) (by omega)); omega
  ·intro h; rw [show n = 0 by omega, td_zero]; exact Nat.le_refl _
 | succ k ih =>
  by_cases h : n = 0
  ·rw [h, td_zero]; exact ⟨fun _ => Nat.pow_pos (by omega), fun _ => Nat.zero_le _⟩
  ·rw [td_pos h, List.length_cons, Nat.pow_succ]
   have := ih (n := n / 10000)
   constructor
   ·intro h1; have := this.1 (by omega); omega
   ·intro h1; have := this.2 (by omega); omega
theorem tv_snoc (l : List Nat) (d : Nat) : tv (l ++ [d]) = tv l + 10000 ^ l.length * d := by rw [tv_append]; simp [tv]
theorem tv_take_getElem {l : List Nat} {k : Nat} (h : k < l.length) : tv (l.take (k + 1)) = tv (l.take k) + 10000 ^ k * l[k] := by
 rw [List.take_succ_eq_append_getElem h, tv_snoc, List.length_take, Nat.min_eq_left (Nat.le_of_lt h)]
theorem td_last {n : Nat} (h : td n ≠ []) : (td n).getLast h ≠ 0 := by
 induction n using Nat.strongRecOn with
 | _ n ih =>
  have h0 : n ≠ 0 := fun e => h (td_nil.2 e)
  by_cases h1 : n / 10000 = 0
  ·simp only [td_pos h0, h1, td_zero, List.getLast_singleton]; omega
  ·have h2 : td (n / 10000) ≠ [] := fun e => h1 (td_nil.1 e)
   have := ih (n / 10000) (by omega) h2
   simp only [td_pos h0]
   rwa [List.getLast_cons h2]
/-- A digit, or 0 behind the last one. -/
def dg (l : List Nat) (i : Nat) : Nat := l.getD i 0
theorem dg_lt {l : List Nat} (h : ∀ d ∈ l, d < 10000) (i : Nat) : dg l i < 10000 := by
 unfold dg
 rcases Nat.lt_or_ge i l.length with hi | hi
 ·simp [hi]; exact h _ (List.getElem_mem hi)
 ·simp [hi]
theorem dg_in {l : List Nat} {i : Nat} (h : i < l.length) : dg l i = l[i] := by unfold dg; simp [h]
theorem dg_out {l : List Nat} {i : Nat} (h : l.length ≤ i) : dg l i = 0 := by unfold dg; simp [h]
theorem tv_take (l : List Nat) (k : Nat) : tv (l.take (k + 1)) = tv (l.take k) + 10000 ^ k * dg l k := by
 rcases Nat.lt_or_ge k l.length with h | h
 ·rw [tv_take_getElem h, dg_in h]
 ·rw [dg_out h, List.take_of_length_le (by omega), List.take_of_length_le h]; omega
/-- A slice of ints that can be read. -/
structure Sd (w : World) (a : Addr) (l : List Nat) : Prop where
 cell : ∀ (i : Nat) (h : i < l.length), w.cell? (a.add i) = some (.int .i64 ((l[i] : Nat) : Int))
 blk : a.block < w.heap.size
theorem addB (a : Addr) (i : Nat) : (a.add i).block = a.block := by unfold Addr.add; split <;> rfl
theorem Sd.below {w w' : World} {a : Addr} {l : List Nat} (h : Sd w a l) (hb : Below w.heap.size w w') : Sd w' a l :=
 ⟨fun i hi => (hb.cell (p := a.add i) (by rw [addB]; exact h.blk)).trans (h.cell i hi), Nat.lt_of_lt_of_le h.blk hb.size⟩
theorem Sd.left {w : World} {a : Addr} {l m : List Nat} (h : Sd w a (l ++ m)) : Sd w a l :=
 ⟨fun i hi => by rw [h.cell i (by rw [List.length_append]; omega), List.getElem_append_left hi], h.blk⟩
def Sl (w : World) (v : Value) (l : List Nat) : Prop := (∃ ao c, v = .slice ao 0 c ∧ l = [] ∧ (ao = none → c = 0)) ∨ ∃ a c, v = .slice (some a) l.length c ∧ l.length ≤ c ∧ Sd w a l
theorem Sl.below {w w' : World} {v : Value} {l : List Nat} (h : Sl w v l) (hb : Below w.heap.size w w') : Sl w' v l := by
 rcases h with h | ⟨a, c, h1, h2, h3⟩
 ·exact .inl h
 ·exact .inr ⟨a, c, h1, h2, h3.below hb⟩
theorem Sl.form {w : World} {v : Value} {l : List Nat} (h : Sl w v l) : ∃ ao c, v = .slice ao l.length c := by
 rcases h with ⟨ao, c, rfl, rfl, -⟩ | ⟨a, c, rfl, _⟩
 ·exact ⟨_, _, rfl⟩
 ·exact ⟨_, _, rfl⟩
theorem Sl.nil (w : World) : Sl w (.slice none 0 0) [] := .inl ⟨_, _, rfl, rfl, fun _ => rfl⟩
theorem Sl.drew {w : World} {v : Value} {l : List Nat} (h : Sl w v l) : Sl w.drew v l := by
 rcases h with h | ⟨a, c, h1, h2, h3⟩
 ·exact .inl h
 ·exact .inr ⟨a, c, h1, h2, h3.cell, h3.blk⟩
abbrev iv (d : Nat) : Value := .int .i64 (d : Int)
end Go.Proofs.YtkpghlnegbimdaaGreatDoor.Rx
namespace Go.Proofs.YtkpghlnegbimdaaGreatDoor.Rx
open Go.RowKit
attribute [local irreducible] tv dg
def lenOf : Value → Nat | .slice _ n _ => n | _ => 0
theorem trim_nil (ao : Option Addr) (c : Nat) (w : World) :
  Calls Tryz.prog 178 #[.slice ao 0 c] w fun e w' => e = .returned (.slice ao 0 c) ∧ w = w' := by
 go_enter Tryz.func178, Tryz.ntmps178
 go_wp2_with fail
 go_loopw [0] (fun v wr => v = .slice ao 0 c ∧ wr = w) (fun v _ => lenOf v)
 case atStart => exact ⟨rfl, rfl⟩
 case round =>
  obtain ⟨rfl, rfl⟩ := hrel
  go_wp2_with fail
  go_ret
  exact ⟨rfl, rfl⟩
theorem trim_row (a : Addr) (c m z : Nat) (l : List Nat) (hm : l.length = m) (hc : m + z ≤ c) (hB : m + z < 9223372036854775807) (hlast : ∀ h : l ≠ [], l.getLast h ≠ 0) (w : World) (h : Sd w a (l ++ List.replicate z 0)) :
  Calls Tryz.prog 178 #[.slice (some a) (m + z) c] w fun e w' => e = .returned (.slice (some a) m c) ∧ w = w' := by
 have hz : ∀ k, k < z → w.cell? (a.add (m + k)) = some (.int .i64 0) := fun k hk => by
  rw [h.cell (m + k) (by simp; omega), List.getElem_append_right (by omega)]; simp
 have hl : ∀ p, m = p + 1 → ∃ d : Nat, d ≠ 0 ∧ w.cell? (a.add p) = some (.int .i64 (d : Int)) := fun p hp => by
  have hne : l ≠ [] := fun e => by rw [e] at hm; simp at hm; omega
  refine ⟨l.getLast hne, hlast hne, ?_⟩
  rw [h.cell p (by simp; omega), List.getElem_append_left (by omega), List.getLast_eq_getElem hne]
  simp [hm, hp]
 clear h hlast hm
 replace hz := Lib.hid hz
 replace hl := Lib.hid hl
 go_enter Tryz.func178, Tryz.ntmps178
 go_wp2_with fail
 go_loopw [0] (fun v wr => ∃ k, k ≤ z ∧ v = .slice (some a) (m + k) c ∧ wr = w) (fun v _ => lenOf v)
 case atStart => exact ⟨z, Nat.le_refl _, rfl, rfl⟩
 case round =>
  obtain ⟨k, hk, rfl, rfl⟩ := hrel
  cases k with
  | zero =>
   rw [Nat.add_zero]
   cases m with
   | zero =>
    go_wp2_with fail
    go_ret
    exact ⟨rfl, rfl⟩
   | succ p =>
    obtain ⟨d, hd, hcell⟩ := hl.out p rfl
    have hd1 : ((d : Int) == 0) = false := beq_eq_false_iff_ne.2 (by omega)
    go_wp2_with fail
    go_ret
    exact ⟨rfl, rfl⟩
  | succ j =>
   have hcell := hz.out j (by omega)
   rw [show m + (j + 1) = (m + j) + 1 from by omega]
   obtain ⟨q, hq⟩ : ∃ q, q = m + j := ⟨_, rfl⟩
   rw [← hq] at hcell ⊢
   have hqc : q + 1 ≤ c := by omega
   have hqB : q + 1 < 9223372036854775807 := by omega
   replace hq := Lib.hid hq
   go_wp2_with fail
   go_roundw
   case rel => exact ⟨j, by omega, by rw [hq.out], trivial⟩
   case measure => simp [lenOf]
/-- trim: the digits of a number. -/
theorem trim_any (v : Value) (l : List Nat) (hd : ∀ d ∈ l, d < 10000) (hB : l.length < 9223372036854775807) (w : World) (h : Sl w v l) :
  Calls Tryz.prog 178 #[v] w fun e w' => ∃ v', e = .returned v' ∧ Sl w v' (td (tv l)) ∧ w = w' := by
 obtain ⟨z, hz⟩ := td_tv hd
 rcases h with ⟨ao, c, rfl, rfl, hc0⟩ | ⟨a, c, rfl, h2, h3⟩
 ·refine (trim_nil ao c w).mono ?_
  rintro e w' ⟨rfl, rfl⟩
  exact ⟨_, rfl, .inl ⟨ao, c, rfl, by rw [tv_nil, td_zero], hc0⟩, rfl⟩
 ·have hlen : l.length = (td (tv l)).length + z := by
   have := congrArg List.length hz
   rwa [List.length_append, List.length_replicate] at this
  rw [hz] at h3
  rw [hlen] at h2 hB ⊢
  refine (trim_row a c _ z (td (tv l)) rfl h2 hB (fun h => td_last h) w h3).mono ?_
  rintro e w' ⟨rfl, rfl⟩
  exact ⟨_, rfl, .inr ⟨a, c, rfl, by omega, h3.left⟩, rfl⟩
end Go.Proofs.YtkpghlnegbimdaaGreatDoor.Rx
namespace Go.Proofs.YtkpghlnegbimdaaGreatDoor.Rx
open Go.RowKit
attribute [local irreducible] tv dg
/-- What the digits so far spell, with what is left. -/
theorem td_step {n k : Nat} (hk : k < (td n).length) : n / 10000 ^ k ≠ 0 ∧ (td n)[k] = n / 10000 ^ k % 10000 := by
 induction k generalizing n with
 | zero =>
  have h0 : n ≠ 0 := fun e => by rw [e, td_zero] at hk; exact absurd hk (by simp)
  simp only [Nat.pow_zero, Nat.div_one]
  refine ⟨h0, ?_⟩
  simp only [td_pos h0, List.getElem_cons_zero]
 | succ k ih =>
  have h0 : n ≠ 0 := fun e => by rw [e, td_zero] at hk; exact absurd hk (by simp)
  have hk' : k < (td (n / 10000)).length := by rw [td_pos h0, List.length_cons] at hk; omega
  have := ih hk'
  rw [Nat.div_div_eq_div_mul, Nat.mul_comm, ← Nat.pow_succ] at this
  refine ⟨this.1, ?_⟩
  simp only [td_pos h0, List.getElem_cons_succ]
  exact this.2
theorem td_end {n k : Nat} (hk : (td n).length ≤ k) : n / 10000 ^ k = 0 := Nat.div_eq_of_lt (td_length.1 hk)
end Go.Proofs.YtkpghlnegbimdaaGreatDoor.Rx
namespace Go.Proofs.YtkpghlnegbimdaaGreatDoor.Rx
open Go.RowKit
attribute [local irreducible] tv dg
/-- What Add's rounds keep. -/
structure AddS (A B S : List Nat) (i c : Nat) : Prop where
 len : S.length = i
 lt : ∀ d ∈ S, d < 10000
 car : c ≤ 1
 eq : tv S + 10000 ^ i * c = tv (A.take i) + tv (B.take i)
theorem AddS.step {A B S : List Nat} {i c : Nat} (h : AddS A B S i c) (hA : ∀ d ∈ A, d < 10000) (hB : ∀ d ∈ B, d < 10000) :
  AddS A B (S ++ [(dg A i + dg B i + c) % 10000]) (i + 1) ((dg A i + dg B i + c) / 10000) := by
 have h1 := dg_lt hA i
 have h2 := dg_lt hB i
 have h3 := h.car
 refine ⟨by rw [List.length_append, h.len]; rfl, fun d hd => ?_, by omega, ?_⟩
 ·rcases List.mem_append.1 hd with hd | hd
  ·exact h.lt d hd
  ·rw [List.mem_singleton.1 hd]; omega
 ·rw [tv_snoc, h.len, tv_take, tv_take, Nat.pow_succ]
  have h4 := h.eq
  generalize dg A i = x at *
  generalize dg B i = y at *
  have h5 : (x + y + c) % 10000 + 10000 * ((x + y + c) / 10000) = x + y + c := by omega
  have h6 : 10000 ^ i * ((x + y + c) % 10000) + 10000 ^ i * 10000 * ((x + y + c) / 10000) = 10000 ^ i * x + 10000 ^ i * y + 10000 ^ i * c := by
   rw [Nat.mul_assoc, ← Nat.mul_add, h5, Nat.mul_add, Nat.mul_add]
  generalize 10000 ^ i * ((x + y + c) % 10000) = p at *
  generalize 10000 ^ i * 10000 * ((x + y + c) / 10000) = q at *
  omega
end Go.Proofs.YtkpghlnegbimdaaGreatDoor.Rx
namespace Go.Proofs.YtkpghlnegbimdaaGreatDoor.Rx
open Go.RowKit
attribute [local irreducible] tv dg
theorem add0 (g i : Nat) : (⟨g, 0, none⟩ : Addr).add i = ⟨g, i, none⟩ := by
 unfold Addr.add
 split <;> simp_all
/-- Block g holds just these ints. -/
def IB (w : World) (g : Nat) (l : List Nat) : Prop := w.heap[g]? = some (.cells (l.map iv).toArray 3 (0, 0))
section
variable {w w' : World} {g : Nat} {l : List Nat}
theorem IB.lt (h : IB w g l) : g < w.heap.size := (Array.getElem?_eq_some_iff.1 h).1
theorem IB.cell (h : IB w g l) (i : Nat) (hi : i < l.length) : w.cell? ⟨g, i, none⟩ = some (.int .i64 ((l[i] : Nat) : Int)) := by
 rw [cell_of_row w g i _ _ _ h]; simp [hi]
theorem IB.frozen (h : IB w g l) (i : Nat) : w.frozen? ⟨g, i, none⟩ = false := frozen_of_row w g i _ _ h
theorem IB.set (h : IB w g l) (i : Nat) (d : Nat) : IB (w.setCell ⟨g, i, none⟩ (.int .i64 (d : Int))) g (l.set i d) := by
 unfold IB at *
 rw [heap_setCell_same w g i _ _ _ h]
 congr 2
 rw [List.map_set]; simp
theorem IB.keep (h : IB w g l) (hk : w'.heap[g]? = w.heap[g]?) : IB w' g l := hk.trans h
theorem IB.below {B : Nat} (h : IB w g l) (hb : Below B w w') (hg : g < B) : IB w' g l := h.keep (hb.block g hg)
theorem IB.drewN (h : IB w g l) (n : Nat) : IB (w.drewN n) g l := h
end
/-- Zeros, as make lays them. -/
def zobjI (n : Nat) : Obj := .cells ((List.replicate n 0).map iv).toArray 3
theorem IB.zeros (w : World) (n : Nat) : IB (w.alloc (zobjI n)) w.heap.size (List.replicate n 0) := heap_alloc_new w _
theorem tv_set {l : List Nat} {j : Nat} (h : j < l.length) (d : Nat) : tv (l.set j d) + 10000 ^ j * l[j] = tv l + 10000 ^ j * d := by
 induction l generalizing j with
 | nil => exact absurd h (by simp)
 | cons x l ih =>
  cases j with
  | zero => simp only [List.set_cons_zero, List.getElem_cons_zero, tv, Nat.pow_zero, Nat.one_mul]; omega
  | succ j =>
   have hj : j < l.length := by simpa using h
   have := ih (j := j) hj
   simp only [List.set_cons_succ, List.getElem_cons_succ, tv, Nat.pow_succ]
   rw [Nat.mul_comm (10000 ^ j) 10000, Nat.mul_assoc, Nat.mul_assoc]
   generalize 10000 ^ j * l[j] = p at *
   generalize 10000 ^ j * d = q at *
   omega
/-- What Mul's inner rounds keep. -/
structure MulS (A B X : List Nat) (i k c : Nat) : Prop where
 len : X.length = A.length + B.length
 lt : ∀ d ∈ X, d < 10000
 car : c < 10000
 eq : tv X + 10000 ^ (i + k) * c = tv (A.take i) * tv B + 10000 ^ i * (dg A i * tv (B.take k))
theorem MulS.step {A B X : List Nat} {i k c : Nat} (h : MulS A B X i k c) (hA : ∀ d ∈ A, d < 10000) (hB : ∀ d ∈ B, d < 10000) (hj : i + k < X.length) {s : Nat} (hs : s = X[i + k] + dg A i * dg B k + c) :
  s < 100000000 ∧ MulS A B (X.set (i + k) (s % 10000)) i (k + 1) (s / 10000) := by
 have h1 := dg_lt hA i
 have h2 := dg_lt hB k
 have h3 := h.car
 have hx := h.lt _ (List.getElem_mem hj)
 have hp : dg A i * dg B k ≤ 9999 * 9999 := Nat.mul_le_mul (by omega) (by omega)
 have hs1 : s < 100000000 := by omega
 refine ⟨hs1, by rw [List.length_set]; exact h.len, fun d hd => ?_, by omega, ?_⟩
 ·rcases List.mem_or_eq_of_mem_set hd with hd | hd
  ·exact h.lt d hd
  ·omega
 ·have e1 := tv_set hj (s % 10000)
  have e2 := h.eq
  rw [tv_take, ← Nat.add_assoc, Nat.pow_succ]
  have e3 : s % 10000 + 10000 * (s / 10000) = X[i + k] + dg A i * dg B k + c := by omega
  have e4 : 10000 ^ (i + k) * (s % 10000) + 10000 ^ (i + k) * 10000 * (s / 10000) = 10000 ^ (i + k) * X[i + k] + 10000 ^ (i + k) * (dg A i * dg B k) + 10000 ^ (i + k) * c := by
   rw [Nat.mul_assoc, ← Nat.mul_add, e3, Nat.mul_add, Nat.mul_add]
  have e5 : 10000 ^ i * (dg A i * (tv (B.take k) + 10000 ^ k * dg B k)) = 10000 ^ i * (dg A i * tv (B.take k)) + 10000 ^ (i + k) * (dg A i * dg B k) := by
   rw [Nat.mul_add, Nat.mul_add, Nat.pow_add, Nat.mul_left_comm (dg A i), Nat.mul_assoc (10000 ^ i)]
  rw [e5]
  generalize 10000 ^ (i + k) * (s % 10000) = p1 at *
  generalize 10000 ^ (i + k) * 10000 * (s / 10000) = p2 at *
  generalize 10000 ^ (i + k) * X[i + k] = p3 at *
  generalize 10000 ^ (i + k) * (dg A i * dg B k) = p4 at *
  generalize 10000 ^ (i + k) * c = p5 at *
  generalize 10000 ^ i * (dg A i * tv (B.take k)) = p6 at *
  generalize tv (A.take i) * tv B = p7 at *
  generalize tv (X.set (i + k) (s % 10000)) = p8 at *
  generalize tv X = p9 at *
  omega
/-- Behind b's digits one carry may be left, and no more. -/
theorem MulS.carry {A B X : List Nat} {i k c : Nat} (h : MulS A B X i k c) (hA : ∀ d ∈ A, d < 10000) (hB : ∀ d ∈ B, d < 10000) (hi : i < A.length) (hk : B.length + 1 ≤ k) : c = 0 := by
 rcases Nat.eq_zero_or_pos c with h0 | h0
 ·exact h0
 ·have e := h.eq
  have e2 : tv (A.take i) * tv B + 10000 ^ i * (dg A i * tv (B.take k)) = tv (A.take (i + 1)) * tv B := by
   rw [List.take_of_length_le (l := B) (by omega), tv_take, Nat.add_mul, Nat.mul_assoc]
  have e3 : tv (A.take (i + 1)) < 10000 ^ (i + 1) := by
   have := tv_lt (l := A.take (i + 1)) fun d hd => hA d (List.mem_of_mem_take hd)
   rwa [List.length_take, Nat.min_eq_left (by omega)] at this
  have e4 := tv_lt hB
  have e5 : tv (A.take (i + 1)) * tv B < 10000 ^ (i + 1) * 10000 ^ B.length := Nat.lt_of_le_of_lt (Nat.mul_le_mul_left _ (Nat.le_of_lt e4)) (Nat.mul_lt_mul_of_pos_right e3 (Nat.pow_pos (by omega)))
  rw [← Nat.pow_add] at e5
  have e6 : 10000 ^ (i + 1 + B.length) ≤ 10000 ^ (i + k) := Nat.pow_le_pow_right (by omega) (by omega)
  have e7 : 10000 ^ (i + k) ≤ 10000 ^ (i + k) * c := Nat.le_mul_of_pos_right _ h0
  omega
theorem MulS.done {A B X : List Nat} {i k : Nat} (h : MulS A B X i k 0) (hk : B.length ≤ k) : MulS A B X (i + 1) 0 0 := by
 refine ⟨h.len, h.lt, by omega, ?_⟩
 have e := h.eq
 rw [List.take_of_length_le hk] at e
 rw [List.take_zero, tv_take, Nat.add_mul, Nat.mul_assoc]
 rw [Nat.mul_zero, Nat.add_zero] at e ⊢
 rw [e]
 have : tv [] = 0 := by unfold tv; rfl
 rw [this, Nat.mul_zero, Nat.mul_zero, Nat.add_zero]
theorem MulS.start (A B : List Nat) : MulS A B (List.replicate (A.length + B.length) 0) 0 0 0 := by
 refine ⟨List.length_replicate, fun d hd => by rw [(List.mem_replicate.1 hd).2]; omega, by omega, ?_⟩
 have : tv [] = 0 := by unfold tv; rfl
 rw [tv_zeros, List.take_zero, List.take_zero, this]
 simp
end Go.Proofs.YtkpghlnegbimdaaGreatDoor.Rx
namespace Go.Proofs.YtkpghlnegbimdaaGreatDoor.Rx
open Go.RowKit
attribute [local irreducible] tv dg
/-- A slice that holds a number's digits. -/
abbrev Rn (w : World) (v : Value) (n : Nat) : Prop := Sl w v (td n)
end Go.Proofs.YtkpghlnegbimdaaGreatDoor.Rx
namespace Go.Proofs.YtkpghlnegbimdaaGreatDoor.Rx
open Go.RowKit
attribute [local irreducible] tv dg cmpI
end Go.Proofs.YtkpghlnegbimdaaGreatDoor.Rx
namespace Go.Proofs.YtkpghlnegbimdaaGreatDoor.Rx
open Go.RowKit
attribute [local irreducible] tv dg cmpI
/-- What Sub's rounds keep. -/
structure SubS (A B S : List Nat) (i c : Nat) : Prop where
 len : S.length = i
 lt : ∀ d ∈ S, d < 10000
 car : c ≤ 1
 eq : tv (A.take i) + 10000 ^ i * c = tv S + tv (B.take i)
theorem SubS.step {A B S : List Nat} {i c d c' : Nat} (h : SubS A B S i c) (hd : d < 10000) (hc : c' ≤ 1) (he : d + dg B i + c = dg A i + 10000 * c') : SubS A B (S ++ [d]) (i + 1) c' := by
 refine ⟨by rw [List.length_append, h.len]; rfl, fun x hx => ?_, hc, ?_⟩
 ·rcases List.mem_append.1 hx with hx | hx
  ·exact h.lt x hx
  ·rw [List.mem_singleton.1 hx]; exact hd
 ·rw [tv_snoc, h.len, tv_take, tv_take, Nat.pow_succ]
  have h4 := h.eq
  have h6 : 10000 ^ i * d + 10000 ^ i * dg B i + 10000 ^ i * c = 10000 ^ i * dg A i + 10000 ^ i * 10000 * c' := by
   rw [Nat.mul_assoc, ← Nat.mul_add, ← Nat.mul_add, ← Nat.mul_add, he]
  generalize 10000 ^ i * d = p1 at *
  generalize 10000 ^ i * dg B i = p2 at *
  generalize 10000 ^ i * c = p3 at *
  generalize 10000 ^ i * dg A i = p4 at *
  generalize 10000 ^ i * 10000 * c' = p5 at *
  omega
theorem SubS.done {A B S : List Nat} {c : Nat} (h : SubS A B S A.length c) (hB : B.length ≤ A.length) (hle : tv B ≤ tv A) : tv S = tv A - tv B := by
 have e := h.eq
 rw [List.take_of_length_le (Nat.le_refl _), List.take_of_length_le hB] at e
 have h1 := tv_lt h.lt
 rw [h.len] at h1
 have hc := h.car
 rcases Nat.eq_zero_or_pos c with h0 | h0
 ·rw [h0, Nat.mul_zero] at e; omega
 ·rw [show c = 1 by omega, Nat.mul_one] at e; omega
end Go.Proofs.YtkpghlnegbimdaaGreatDoor.Rx
namespace Go.Proofs.YtkpghlnegbimdaaGreatDoor.Rx
open Go.RowKit
open Go.Lib (decDigits)
attribute [local irreducible] tv dg cmpI
/-- What Text has written behind digit i. -/
def TS (n i : Nat) (T : List UInt8) : Prop := (i < (td n).length ∧ decDigits n = decDigits (n / 10000 ^ i) ++ T) ∨ (i = (td n).length ∧ T = decDigits n)
theorem TS.start {n : Nat} (h : 0 < (td n).length) : TS n 0 [] := .inl ⟨h, by simp⟩
theorem TS.step {n i : Nat} {T : List UInt8} (h : TS n i T) (hl : i < (td n).length) (hi : i + 1 < (td n).length) : TS n (i + 1) (pad 4 ((td n)[i]'hl) ++ T) := by
 rcases h with ⟨h1, h2⟩ | ⟨h1, h2⟩
 ·refine .inl ⟨hi, ?_⟩
  have hd := (td_step h1).2
  have hq := (td_step hi).1
  have e : n / 10000 ^ i = n / 10000 ^ (i + 1) * 10 ^ 4 + (td n)[i] := by
   rw [hd, Nat.pow_succ, ← Nat.div_div_eq_div_mul]
   show _ = _ * 10000 + _
   omega
  have hlt : (td n)[i] < 10 ^ 4 := td_lt n _ (List.getElem_mem _)
  have := dec_mul_add 4 (n / 10000 ^ (i + 1)) ((td n)[i]) (by omega) hlt
  rw [h2, e, this, List.append_assoc]
 ·omega
theorem TS.last {n i : Nat} {T : List UInt8} (h : TS n i T) (hl : i < (td n).length) (hi : i + 1 = (td n).length) : 0 < (td n)[i]'hl ∧ TS n (i + 1) (decDigits ((td n)[i]'hl) ++ T) := by
 rcases h with ⟨h1, h2⟩ | ⟨h1, h2⟩
 ·have hd := td_step h1
  have h0 : n / 10000 ^ (i + 1) = 0 := td_end (by omega)
  have e : n / 10000 ^ i = (td n)[i] := by
   rw [hd.2]
   rw [Nat.pow_succ, ← Nat.div_div_eq_div_mul] at h0
   omega
  refine ⟨by rw [← e]; omega, .inr ⟨hi, ?_⟩⟩
  rw [h2, e]
 ·omega
theorem TS.len {n i : Nat} {T : List UInt8} (h : TS n i T) : T.length ≤ (decDigits n).length := by
 rcases h with ⟨h1, h2⟩ | ⟨h1, h2⟩
 ·rw [h2, List.length_append]; omega
 ·rw [h2]; exact Nat.le_refl _
end Go.Proofs.YtkpghlnegbimdaaGreatDoor.Rx
namespace Go.Proofs.YtkpghlnegbimdaaGreatDoor.Rx
open Go.RowKit
attribute [local irreducible] lo hs tv dg cmpI txt
end Go.Proofs.YtkpghlnegbimdaaGreatDoor.Rx
namespace Go.Proofs.YtkpghlnegbimdaaGreatDoor.Rx
open Go.RowKit
attribute [local irreducible] tv dg cmpI txt
/-- What is appended, chunk by chunk. -/
structure PS (l : List UInt8) (S : List Nat) (t e : Nat) : Prop where
 len : S.length = t
 lt : ∀ d ∈ S, d < 10000
 pos : e = l.length - 4 * t
 eq : tv S + 10000 ^ t * dval (l.take e) = dval l
theorem PS.step {l : List UInt8} {S : List Nat} {t e : Nat} (h : PS l S t e) (hd : ∀ c ∈ l, isDig c) (he : 0 < e) :
  dval ((l.drop (e - 4)).take (e - (e - 4))) < 10000 ∧ PS l (S ++ [dval ((l.drop (e - 4)).take (e - (e - 4)))]) (t + 1) (e - 4) := by
 have hle : e ≤ l.length := by have := h.pos; omega
 have hch : ((l.drop (e - 4)).take (e - (e - 4))).length = e - (e - 4) := by rw [List.length_take, List.length_drop]; omega
 have hlt : dval ((l.drop (e - 4)).take (e - (e - 4))) < 10000 := by
  have h1 := dval_lt (l := (l.drop (e - 4)).take (e - (e - 4))) fun c hc => hd c (List.mem_of_mem_drop (List.mem_of_mem_take hc))
  rw [hch] at h1
  exact Nat.lt_of_lt_of_le h1 (Nat.le_trans (Nat.pow_le_pow_right (by omega) (show e - (e - 4) ≤ 4 by omega)) (by decide))
 refine ⟨hlt, by rw [List.length_append, h.len]; rfl, fun d hx => ?_, by have := h.pos; omega, ?_⟩
 ·rcases List.mem_append.1 hx with hx | hx
  ·exact h.lt d hx
  ·rw [List.mem_singleton.1 hx]; exact hlt
 ·have e1 : l.take e = l.take (e - 4) ++ (l.drop (e - 4)).take (e - (e - 4)) := by
   have := List.take_add (l := l) (i := e - 4) (j := e - (e - 4))
   rw [show e - 4 + (e - (e - 4)) = e by omega] at this
   exact this
  have e2 := h.eq
  rw [e1, dval_append, hch] at e2
  rw [tv_snoc, h.len, Nat.pow_succ]
  generalize dval ((l.drop (e - 4)).take (e - (e - 4))) = d at *
  rcases Nat.lt_or_ge e 4 with h4 | h4
  ·have h0 : dval (l.take (e - 4)) = 0 := by rw [show e - 4 = 0 by omega, List.take_zero, dval_nil]
   rw [h0, Nat.zero_mul, Nat.zero_add] at e2
   rw [h0, Nat.mul_zero]; omega
  ·rw [show e - (e - 4) = 4 by omega] at e2
   rw [Nat.mul_add, Nat.mul_comm (dval _) (10 ^ 4), ← Nat.mul_assoc, show (10 : Nat) ^ 4 = 10000 by rfl] at e2
   omega
theorem PS.start (l : List UInt8) : PS l [] 0 l.length := ⟨rfl, (fun d hd => by cases hd), by omega, by rw [tv_nil, List.take_length]; simp⟩
end Go.Proofs.YtkpghlnegbimdaaGreatDoor.Rx
namespace Go.Proofs.YtkpghlnegbimdaaGreatDoor
open Go.RowKit Go.Proofs.YtkpghlnegbimdaaGreatDoor.Rx
attribute [local irreducible] lo hs sm s64 c64 d64 b64 mh ml pd pc qd qc val hiB str cmpI srD lz nb dval
theorem sl_upd {w w' : World} {k : Nat} {c : List Value} {v : Value} {l : List Nat} (h : Sl w v l) (hu : Upd k w w') (hd : Hd w k c) (hc : ∀ v ∈ c, ∀ n, v ≠ .int .i64 n) : Sl w' v l := by
 rcases h with h | ⟨a, c1, h1, h2, h3⟩
 ·exact .inl h
 ·refine .inr ⟨a, c1, h1, h2, fun i hi => ?_, by rw [hu.size]; exact h3.blk⟩
  have hx := h3.cell i hi
  exact (World.cell?_of_block (w := w) (hu.block _ (hd.no_int hc hx))).trans hx
end Go.Proofs.YtkpghlnegbimdaaGreatDoor
namespace Go.Proofs.YtkpghlnegbimdaaGreatDoor
open Go.RowKit Go.Proofs.YtkpghlnegbimdaaGreatDoor.Rx
/-- A struct of the reference that stands for an integer. -/
def RZ (w : World) (v : Value) (z : Int) : Prop := ∃ u, v = .agg #[.bool (decide (z < 0)), u] ∧ Rn w u z.natAbs
theorem RZ.below {w w' : World} {v : Value} {z : Int} (h : RZ w v z) (hb : Below w.heap.size w w') : RZ w' v z := by
 obtain ⟨u, h1, h2⟩ := h
 exact ⟨u, h1, Sl.below h2 hb⟩
theorem RZ.of {w : World} {b : Bool} {u : Value} {n : Nat} {z : Int} (h : Rn w u n) (hb : b = decide (z < 0)) (hn : n = z.natAbs) : RZ w (.agg #[.bool b, u]) z := ⟨u, by rw [hb], by rw [← hn]; exact h⟩
end Go.Proofs.YtkpghlnegbimdaaGreatDoor
namespace Go.Proofs.YtkpghlnegbimdaaGreatDoor
open Go.RowKit Go.Proofs.YtkpghlnegbimdaaGreatDoor.Rx
/-- The slices of digits that a call has got hold of. -/
def SS (W : World) (S : List (Value × Nat)) : Prop := ∀ p ∈ S, Rn W p.1 p.2
theorem SS.nil (W : World) : SS W [] := fun p hp => by cases hp
theorem SS.call {W W' : World} {S : List (Value × Nat)} (h : SS W S) (hb : Below W.heap.size W W') : SS W' S := fun p hp => Sl.below (h p hp) hb
theorem SS.new {W : World} {S : List (Value × Nat)} (h : SS W S) (o : Obj) : SS (W.alloc o) S := h.call ((Below.refl _ _).alloc (Nat.le_refl _) o)
theorem SS.cons {W : World} {S : List (Value × Nat)} (h : SS W S) {v : Value} {n : Nat} (hv : Rn W v n) : SS W ((v, n) :: S) := fun p hp => by
 rcases List.mem_cons.1 hp with rfl | hp
 ·exact hv
 ·exact h p hp
theorem SS.put {W W' : World} {S : List (Value × Nat)} (h : SS W S) {k : Nat} {c : List Value} (hu : Upd k W W') (hd : Hd W k c) (hc : ∀ v ∈ c, ∀ n, v ≠ .int .i64 n) : SS W' S := fun p hp => sl_upd (h p hp) hu hd hc
theorem SS.drew {W : World} {S : List (Value × Nat)} (h : SS W S) : SS W.drew S := fun p hp => Sl.drew (h p hp)
theorem SS.get {W : World} {S : List (Value × Nat)} (h : SS W S) {v : Value} {n : Nat} (hm : (v, n) ∈ S) : Rn W v n := h _ hm
/-- A new box. -/
def NewB (B : Nat) (c : List Value) (u : Value) (w : World) : Prop := ∃ k, u = .pointer (some ⟨k, 0, none⟩) ∧ Hd w k c ∧ B ≤ k
theorem stays_new (B : Nat) (c : List Value) : Stays (NewB B c) := fun _ _ _ hb ⟨k, h1, h2, h3⟩ => ⟨k, h1, h2.below hb, h3⟩
theorem NewB.ptr {B : Nat} {c : List Value} {u : Value} {w : World} (h : NewB B c u w) : ∃ k, u = .pointer (some ⟨k, 0, none⟩) ∧ k < w.heap.size := by
 obtain ⟨k, h1, h2, _⟩ := h
 exact ⟨k, h1, h2.lt⟩
theorem tyAt_new {P : Program} {ops : Array Oper} {o : Oper} {a : Act} {w : World} {B : Nat} {c : List Value} {e t : TypeId} (hg : o.guard = none) (he : o.op = .alloc e) (hr : ∀ w, (Instr.alloc e true (.tuple #[])).run P w = .ok (.pointer (some ⟨w.heap.size, 0, none⟩)) (w.alloc (.cells c.toArray t)))
  (hB : B ≤ w.heap.size) : TyAt P ops o a w (NewB B c) := by
 refine tyAt_none hg ?_
 rw [alloc_run he hr]
 exact ⟨(Below.refl _ _).alloc (Nat.le_refl _) _, _, rfl, hd_new w c t, hB⟩
theorem tyAt_yes {P : Program} {ops : Array Oper} {o : Oper} {a : Act} {w : World} {T : Value → World → Prop} (hg : Region.wanted o (yielded ops a.tmps) = true) (h : tyUpon P w T ((execOp a.eval o).run P w)) : TyAt P ops o a w T := by
 unfold TyAt
 rw [if_pos hg]; exact h
/-- The boxes with one that a typed region has made. -/
theorem GL.tnew {w0 x W : World} {L M : List (Nat × List Value)} {c : List Value} {k : Nat} (h : GL w0 W (M ++ L)) (hx : GL w0 x L) (hd : Hd W k c) (hB : x.heap.size ≤ k) (hM : ∀ p ∈ M, p.1 ≠ k) : GL w0 W ((k, c) :: (M ++ L)) := by
 refine ⟨h.bl, fun p hp => ?_, ?_⟩
 ·rcases List.mem_cons.1 hp with rfl | hp
  ·exact ⟨Nat.le_trans hx.bl.size hB, hd⟩
  ·exact h.all p hp
 ·rw [List.map_cons, List.nodup_cons]
  refine ⟨fun hm => ?_, h.nd⟩
  obtain ⟨q, hq, he⟩ := List.mem_map.1 hm
  rcases List.mem_append.1 hq with hq | hq
  ·exact hM q hq he
  ·have := (hx.all q hq).2.lt
   simp only at he
   omega
/-- A typed region's properties, in short. -/
abbrev EV (v : Value) : Value → World → Prop := fun u _ => u = v
theorem LC {l : List Nat} {a : Nat} (h : l.contains a = true) : a ∈ l := List.contains_iff_mem.1 h
theorem GL.named2 {w0 W : World} {L : List (Nat × List Value)} {S : List (Value × Nat)} (h : GL w0 W L) (g : SS W S) : ∃ x, W = x ∧ GL w0 x L ∧ SS x S := ⟨W, rfl, h, g⟩
end Go.Proofs.YtkpghlnegbimdaaGreatDoor
namespace Go.Proofs.YtkpghlnegbimdaaGreatDoor
open Go.RowKit
attribute [local irreducible] lo hs sm s64 c64 d64 b64 mh ml pd pc qd qc val hiB str cmpI srD lz nb zl zh zs fe klT ordZ
def NewS (x : Nat × List Value × Nat) (v : Value) (w : World) : Prop := ∃ g, v = .slice (some ⟨g, 0, none⟩) x.2.2 x.2.2 ∧ x.1 ≤ g ∧ Hd w g x.2.1
theorem stays_news (x : Nat × List Value × Nat) : Stays (NewS x) := fun _ _ _ hb ⟨g, h1, h2, h3⟩ => ⟨g, h1, h2, h3.below hb⟩
theorem news_parts {B n : Nat} {c : List Value} {v : Value} {w : World} (h : NewS (B, c, n) v w) : ∃ g, v = .slice (some ⟨g, 0, none⟩) n n ∧ B ≤ g ∧ Hd w g c := h
theorem news_mk {B n : Nat} {c : List Value} {t : TypeId} {w : World} (h : B ≤ w.heap.size) : NewS (B, c, n) (.slice (some ⟨w.heap.size, 0, none⟩) n n) (w.alloc (.cells c.toArray t)) := ⟨_, rfl, h, hd_new w c t⟩
abbrev PP (l : List TI) : Value → World → Prop := fun v w => PT w v l
theorem stays_pt (l : List TI) : Stays (PP l) := fun _ _ _ hb h => h.below hb
theorem ty_val8 {P : Program} {o : Oper} {a : Act} {w w' : World} {T : Value → World → Prop} {u : Value} (hr : (execOp a.eval o).run P w = .ok (.value u) w') (hb : Below w.heap.size w w') (ht : T u w') : tyUpon P w T ((execOp a.eval o).run P w) := by
 rw [hr]; exact ⟨hb, ht⟩
theorem wp_append1 {w : World} {ops : Array Oper} {rest : List Oper} {o : Oper} {a : Act} {Q : Exit → Act → World → Prop} (hgd : o.guard = none) (s x : Operand)
  (ho : o.op = .call { callee := .builtin .append, args := #[s, x], argTypes := #[24, 24] }) (B : Nat) (v : Value) (n : Nat) (L : List TI) (hs : a.eval s = v) (hown : OwnT w B v n L) (g : Nat) (t : TI) (hx : a.eval x = .slice (some ⟨g, 0, none⟩) 1 1) (hH : Hd w g (tmC t))
  (hn : n ≤ 100000) (hbase : B ≤ w.heap.size)
  (h : ∀ v' w', OwnT w' B v' (n + 1) (L ++ [t]) → w.grownBy w' v.ownBlock → (v'.ownBlock = v.ownBlock ∨ v'.ownBlock = some w.heap.size) → wpList Tryz.prog ops Q rest (a.put o.dst v') w') : wpList Tryz.prog ops Q (o :: rest) a w := by
 obtain ⟨i0, hi, hz1, hz2, hz3⟩ := info_parts infoT
 refine wpList_append_own_at w hgd s x 24 ho B 84 i0 (.agg #[.int .i64 0, .int .i64 0, .int .u64 0, .string ⟨#[]⟩, .bool false, .int .u64 0, .string ⟨#[]⟩]) 7 72 Tryz.underlying24 hi hz1 hz2 hz3 rfl (by decide) v n (tmCs L) hs hown ⟨g, 0, none⟩ 1 1 (tmC t) hx rfl (hd_newsH hH) (tmC_one t) (by unfold maxLen; omega) (by omega) hbase ?_
 intro v' w' h1 h2 _ h4
 refine h v' w' ?_ h2 h4
 unfold OwnT
 rw [tmCs_snoc]; exact h1
theorem gl_grown {w0 W W' : World} {L : List (Nat × List Value)} (h : GL w0 W L) {row : Option Nat} (hg : W.grownBy W' row) (hr : ∀ j, row = some j → w0.heap.size ≤ j ∧ ∀ p ∈ L, p.1 ≠ j) : GL w0 W' L := by
 refine ⟨h.bl.grown hg h.bl.size (fun j hj => (hr j hj).1), fun p hp => ⟨(h.all p hp).1, ?_⟩, h.nd⟩
 have hd := (h.all p hp).2
 have hbl := hg.block p.1 hd.lt (fun e => (hr p.1 e.symm).2 p hp rfl)
 refine ⟨fun i hi => (World.cell?_of_block (a := ⟨p.1, i, none⟩) hbl).trans (hd.cell i hi), fun i => ?_, Nat.lt_of_lt_of_le hd.lt hg.size, ?_⟩
 ·have := hd.frz i
  unfold World.frozen? at this ⊢
  simp only at this ⊢
  rw [hbl]; exact this
 ·obtain ⟨arr, t, h1, h2⟩ := hd.row
  exact ⟨arr, t, by rw [hbl]; exact h1, h2⟩
theorem ptrans_w (l : List TI) (P : TL) (R : List TI) (G : TI → TI) (f : FuncId) (ao : Option Addr) (n c : Nat) (hPl : P.length ≤ 10000) (K : World → Prop) (hK : Keeps K)
  (eg : ∀ args w, (callFunc f args).run Tryz.prog w = .ok (.enter f args) w)
  (HN : ∀ w : World, PT w (.slice ao n c) l → Calls Tryz.prog 52 #[.slice ao n c] w fun xe w' => ∃ v', xe = .returned v' ∧ PT w' v' (ofL P) ∧ Below w.heap.size w w')
  (HT : ∀ t ∈ ofL P, ∀ w : World, K w → Calls Tryz.prog f #[tmV t.1 t.2.1 t.2.2] w fun xe w' => xe = .returned (tmV (G t).1 (G t).2.1 (G t).2.2) ∧ Below w.heap.size w w')
  (HS : ∀ (v : Value) (w : World), PT w v ((ofL P).map G) → Calls Tryz.prog 49 #[v] w fun xe w' => ∃ v', xe = .returned v' ∧ PT w' v' R ∧ Below w.heap.size w w')
  (w : World) (hq : PT w (.slice ao n c) l) (kK : K w) :
  Calls Tryz.prog 77 #[.slice ao n c, .func (.func f) #[] #[]] w fun xe w' => ∃ v', xe = .returned v' ∧ PT w' v' R ∧ Below w.heap.size w w' := by
 replace HN := Lib.hid HN
 replace HT := Lib.hid HT
 replace hq := Lib.hid hq
 replace hPl := Lib.hid hPl
 replace kK := Lib.hid kK
 replace hK := Lib.hid hK
 obtain ⟨MG, hMG⟩ : ∃ MG, MG = (ofL P).map G := ⟨_, rfl⟩
 rw [← hMG] at HS
 replace hMG := Lib.hid hMG
 replace HS := Lib.hid HS
 go_enter Tryz.func77, Tryz.ntmps77
 go_wp2_with fail
 with_reducible refine Calls.mono (HN.out w hq.out) ?_
 rintro e y1 ⟨v, rfl, hpt, hb⟩
 have kK1 := Lib.hid (hK.out.at hb kK.out)
 obtain ⟨a2, n2, c2, rfl, hn2⟩ := pt_form hpt
 have hpp := Lib.hid (pt_parts hpt).2
 have hnl : n2 = (ofL P).length := hn2
 have hnb : n2 ≤ 10000 := by rw [hnl, ofL_length]; exact hPl.out
 replace hnl := Lib.hid hnl
 replace hb := Lib.hid hb
 clear hn2 hpt
 go_wp2_with fail
 go_loopg [5, 11] n2 (fun gk sv iv wr => ∃ (k : Nat) (zi : Int), k + gk = n2 ∧ iv = .int .i64 zi ∧ zi = (k : Int) ∧ OwnT wr y1.heap.size sv k (MG.take k) ∧ Below y1.heap.size y1 wr)
 case atStart => exact ⟨0, 0, Nat.zero_add n2, by first | rfl | go_num, rfl, World.ownsRow_nil _ _ _ _, Below.refl _ _⟩
 case round =>
  obtain ⟨k, zi, hik, rfl, hzi, hown, hB⟩ := hrel
  replace hown := Lib.hid hown
  rcases Nat.lt_or_ge k n2 with hin | hin
  ·subst hzi
   have hko : k < (ofL P).length := by rw [← hnl.out]; exact hin
   obtain ⟨g, rfl, hts⟩ := hpp.out (by omega)
   have hf := (hts.below hB).cell k hko
   have k1 : (k : Int) < (n2 : Int) := by omega
   have k0 : (0 : Int) ≤ (k : Int) := Int.natCast_nonneg _
   have HT1 := HT.out _ (List.getElem_mem hko)
   have htk : MG.take (k + 1) = MG.take k ++ [G (ofL P)[k]] := by rw [hMG.out, ← List.map_take, ← List.map_take, List.take_succ_eq_append_getElem hko, List.map_append]; rfl
   obtain ⟨a, b, q, hP⟩ : ∃ a b q, (ofL P)[k] = (a, b, q) := ⟨_, _, _, rfl⟩
   rw [hP] at HT1 htk hf
   obtain ⟨a3, b3, q3, hG⟩ : ∃ a3 b3 q3, G (a, b, q) = (a3, b3, q3) := ⟨_, _, _, rfl⟩
   rw [hG] at HT1 htk
   simp only at hf
   replace htk := Lib.hid htk
   replace HT1 := Lib.hid HT1
   replace hP := Lib.hid hP
   replace hG := Lib.hid hG
   clear hts
   obtain ⟨f0, f1, f2, f3, f4, f5, f6⟩ := hf
   have hL0 : GL wr wr [] := GL.start wr
   replace hL0 := hL0.new rfl [.int .i64 a, .int .i64 b, .int .u64 ((zl q.num : Nat) : Int), .string (zh q.num), .bool (zs q.num), .int .u64 ((lo (fe q) : Nat) : Int), .string (hs (fe q))] 84
   generalize hweq : wr.alloc (.cells #[.int .i64 a, .int .i64 b, .int .u64 ((zl q.num : Nat) : Int), .string (zh q.num), .bool (zs q.num), .int .u64 ((lo (fe q) : Nat) : Int), .string (hs (fe q))] 84) = y2 at hL0
   have hN0 := cells_of _ 0 [] rfl (hL0.get _ _ mZ)
   simp only [zF, Nat.reduceAdd] at hN0
   go_wp2_with fail
   have kK2 := hK.out.at (hB.trans (hL0.bl.mono hB.size)) kK1.out
   with_reducible refine Calls.mono (HT1.out _ kK2) ?_
   rintro e y3 ⟨rfl, hb3⟩
   replace hL0 := hL0.call hb3
   clear hb3 hN0 hweq kK2 f0 f1 f2 f3 f4 f5 f6
   have hown3 := Lib.hid (ownT_below hown.out hL0.bl)
   have hB3 := Lib.hid (hB.trans (hL0.bl.mono hB.size))
   have hL1 : GL y3 y3 [] := GL.start y3
   replace hL1 := hL1.new rfl [.int .i64 a3, .int .i64 b3, .int .u64 ((zl q3.num : Nat) : Int), .string (zh q3.num), .bool (zs q3.num), .int .u64 ((lo (fe q3) : Nat) : Int), .string (hs (fe q3))] 84
   generalize hweq : y3.alloc (.cells #[.int .i64 a3, .int .i64 b3, .int .u64 ((zl q3.num : Nat) : Int), .string (zh q3.num), .bool (zs q3.num), .int .u64 ((lo (fe q3) : Nat) : Int), .string (hs (fe q3))] 84) = y4 at hL1
   have hown4 := Lib.hid (ownT_below hown3.out hL1.bl)
   have hB4 := Lib.hid (hB3.out.trans (hL1.bl.mono hB3.out.size))
   have hH := Lib.hid (hL1.get _ _ mZ)
   go_wp2_with (at_builtin; refine wp_append1 rfl _ _ rfl _ _ _ _ rfl hown4.out _ (a3, b3, q3) rfl hH.out (by omega) hB4.out.size ?_)
   intro v' w5 hown5 hgrow _
   have hB5 := hB4.out.grown hgrow hB4.out.size (fun j hj => (hown4.out.lt j hj).1)
   rw [← htk.out] at hown5
   replace hown5 := Lib.hid hown5
   clear hgrow hown4 hB4 hown3 hB3 hH hweq
   go_wp2_with fail
   go_roundg (gk - 1)
   case measure => omega
   case rel => exact ⟨k + 1, _, by omega, by first | rfl | go_num, by omega, hown5.out, hB5⟩
  ·obtain rfl : k = n2 := by omega
   subst hzi
   have k1 : ¬ (k : Int) < (k : Int) := by omega
   have hml : MG.length = k := by rw [hMG.out, List.length_map, ← hnl.out]
   rw [List.take_of_length_le (Nat.le_of_eq hml)] at hown
   have hpt := ownT_pt hown.out hml.symm
   replace hpt := Lib.hid hpt
   go_wp2_with (go_at_call 49; with_reducible refine Calls.mono (HS.out _ _ hpt.out) ?_; rintro e y2 ⟨v2, rfl, hp2, hb2⟩; replace hp2 := Lib.hid hp2; replace hb2 := Lib.hid hb2)
   go_ret
   exact ⟨_, rfl, hp2.out, hb.out.trans ((hB.trans (hb2.out.mono hB.size)).mono hb.out.size)⟩
theorem ptransc_w (l : List TI) (P : TL) (R : List TI) (G : TI → TI) (f : FuncId) (bk : Nat) (ao : Option Addr) (n c : Nat) (hPl : P.length ≤ 10000) (K : World → Prop) (hK : Keeps K)
  (eg : ∀ args w, (callFunc f args).run Tryz.prog w = .ok (.enter f args) w)
  (HN : ∀ w : World, PT w (.slice ao n c) l → Calls Tryz.prog 52 #[.slice ao n c] w fun xe w' => ∃ v', xe = .returned v' ∧ PT w' v' (ofL P) ∧ Below w.heap.size w w')
  (HT : ∀ t ∈ ofL P, ∀ w : World, K w → Calls Tryz.prog f #[tmV t.1 t.2.1 t.2.2, .pointer (some ⟨bk, 0, none⟩)] w fun xe w' => xe = .returned (tmV (G t).1 (G t).2.1 (G t).2.2) ∧ Below w.heap.size w w')
  (HS : ∀ (v : Value) (w : World), PT w v ((ofL P).map G) → Calls Tryz.prog 49 #[v] w fun xe w' => ∃ v', xe = .returned v' ∧ PT w' v' R ∧ Below w.heap.size w w')
  (w : World) (hq : PT w (.slice ao n c) l) (kK : K w) :
  Calls Tryz.prog 77 #[.slice ao n c, .func (.func f) #[] #[.pointer (some ⟨bk, 0, none⟩)]] w fun xe w' => ∃ v', xe = .returned v' ∧ PT w' v' R ∧ Below w.heap.size w w' := by
 replace HN := Lib.hid HN
 replace HT := Lib.hid HT
 replace hq := Lib.hid hq
 replace hPl := Lib.hid hPl
 replace kK := Lib.hid kK
 replace hK := Lib.hid hK
 obtain ⟨MG, hMG⟩ : ∃ MG, MG = (ofL P).map G := ⟨_, rfl⟩
 rw [← hMG] at HS
 replace hMG := Lib.hid hMG
 replace HS := Lib.hid HS
 go_enter Tryz.func77, Tryz.ntmps77
 go_wp2_with fail
 with_reducible refine Calls.mono (HN.out w hq.out) ?_
 rintro e y1 ⟨v, rfl, hpt, hb⟩
 have kK1 := Lib.hid (hK.out.at hb kK.out)
 obtain ⟨a2, n2, c2, rfl, hn2⟩ := pt_form hpt
 have hpp := Lib.hid (pt_parts hpt).2
 have hnl : n2 = (ofL P).length := hn2
 have hnb : n2 ≤ 10000 := by rw [hnl, ofL_length]; exact hPl.out
 replace hnl := Lib.hid hnl
 replace hb := Lib.hid hb
 clear hn2 hpt
 go_wp2_with fail
 go_loopg [5, 11] n2 (fun gk sv iv wr => ∃ (k : Nat) (zi : Int), k + gk = n2 ∧ iv = .int .i64 zi ∧ zi = (k : Int) ∧ OwnT wr y1.heap.size sv k (MG.take k) ∧ Below y1.heap.size y1 wr)
 case atStart => exact ⟨0, 0, Nat.zero_add n2, by first | rfl | go_num, rfl, World.ownsRow_nil _ _ _ _, Below.refl _ _⟩
 case round =>
  obtain ⟨k, zi, hik, rfl, hzi, hown, hB⟩ := hrel
  replace hown := Lib.hid hown
  rcases Nat.lt_or_ge k n2 with hin | hin
  ·subst hzi
   have hko : k < (ofL P).length := by rw [← hnl.out]; exact hin
   obtain ⟨g, rfl, hts⟩ := hpp.out (by omega)
   have hf := (hts.below hB).cell k hko
   have k1 : (k : Int) < (n2 : Int) := by omega
   have k0 : (0 : Int) ≤ (k : Int) := Int.natCast_nonneg _
   have HT1 := HT.out _ (List.getElem_mem hko)
   have htk : MG.take (k + 1) = MG.take k ++ [G (ofL P)[k]] := by rw [hMG.out, ← List.map_take, ← List.map_take, List.take_succ_eq_append_getElem hko, List.map_append]; rfl
   obtain ⟨a, b, q, hP⟩ : ∃ a b q, (ofL P)[k] = (a, b, q) := ⟨_, _, _, rfl⟩
   rw [hP] at HT1 htk hf
   obtain ⟨a3, b3, q3, hG⟩ : ∃ a3 b3 q3, G (a, b, q) = (a3, b3, q3) := ⟨_, _, _, rfl⟩
   rw [hG] at HT1 htk
   simp only at hf
   replace htk := Lib.hid htk
   replace HT1 := Lib.hid HT1
   replace hP := Lib.hid hP
   replace hG := Lib.hid hG
   clear hts
   obtain ⟨f0, f1, f2, f3, f4, f5, f6⟩ := hf
   have hL0 : GL wr wr [] := GL.start wr
   replace hL0 := hL0.new rfl [.int .i64 a, .int .i64 b, .int .u64 ((zl q.num : Nat) : Int), .string (zh q.num), .bool (zs q.num), .int .u64 ((lo (fe q) : Nat) : Int), .string (hs (fe q))] 84
   generalize hweq : wr.alloc (.cells #[.int .i64 a, .int .i64 b, .int .u64 ((zl q.num : Nat) : Int), .string (zh q.num), .bool (zs q.num), .int .u64 ((lo (fe q) : Nat) : Int), .string (hs (fe q))] 84) = y2 at hL0
   have hN0 := cells_of _ 0 [] rfl (hL0.get _ _ mZ)
   simp only [zF, Nat.reduceAdd] at hN0
   go_wp2_with fail
   have kK2 := hK.out.at (hB.trans (hL0.bl.mono hB.size)) kK1.out
   with_reducible refine Calls.mono (HT1.out _ kK2) ?_
   rintro e y3 ⟨rfl, hb3⟩
   replace hL0 := hL0.call hb3
   clear hb3 hN0 hweq kK2 f0 f1 f2 f3 f4 f5 f6
   have hown3 := Lib.hid (ownT_below hown.out hL0.bl)
   have hB3 := Lib.hid (hB.trans (hL0.bl.mono hB.size))
   have hL1 : GL y3 y3 [] := GL.start y3
   replace hL1 := hL1.new rfl [.int .i64 a3, .int .i64 b3, .int .u64 ((zl q3.num : Nat) : Int), .string (zh q3.num), .bool (zs q3.num), .int .u64 ((lo (fe q3) : Nat) : Int), .string (hs (fe q3))] 84
   generalize hweq : y3.alloc (.cells #[.int .i64 a3, .int .i64 b3, .int .u64 ((zl q3.num : Nat) : Int), .string (zh q3.num), .bool (zs q3.num), .int .u64 ((lo (fe q3) : Nat) : Int), .string (hs (fe q3))] 84) = y4 at hL1
   have hown4 := Lib.hid (ownT_below hown3.out hL1.bl)
   have hB4 := Lib.hid (hB3.out.trans (hL1.bl.mono hB3.out.size))
   have hH := Lib.hid (hL1.get _ _ mZ)
   go_wp2_with (at_builtin; refine wp_append1 rfl _ _ rfl _ _ _ _ rfl hown4.out _ (a3, b3, q3) rfl hH.out (by omega) hB4.out.size ?_)
   intro v' w5 hown5 hgrow _
   have hB5 := hB4.out.grown hgrow hB4.out.size (fun j hj => (hown4.out.lt j hj).1)
   rw [← htk.out] at hown5
   replace hown5 := Lib.hid hown5
   clear hgrow hown4 hB4 hown3 hB3 hH hweq
   go_wp2_with fail
   go_roundg (gk - 1)
   case measure => omega
   case rel => exact ⟨k + 1, _, by omega, by first | rfl | go_num, by omega, hown5.out, hB5⟩
  ·obtain rfl : k = n2 := by omega
   subst hzi
   have k1 : ¬ (k : Int) < (k : Int) := by omega
   have hml : MG.length = k := by rw [hMG.out, List.length_map, ← hnl.out]
   rw [List.take_of_length_le (Nat.le_of_eq hml)] at hown
   have hpt := ownT_pt hown.out hml.symm
   replace hpt := Lib.hid hpt
   go_wp2_with (go_at_call 49; with_reducible refine Calls.mono (HS.out _ _ hpt.out) ?_; rintro e y2 ⟨v2, rfl, hp2, hb2⟩; replace hp2 := Lib.hid hp2; replace hb2 := Lib.hid hb2)
   go_ret
   exact ⟨_, rfl, hp2.out, hb.out.trans ((hB.trans (hb2.out.mono hB.size)).mono hb.out.size)⟩
theorem prodL_append (p p' q : TL) : prodL (p ++ p') q = prodL p q ++ prodL p' q := by
 induction p with
 | nil => rfl
 | cons s p ih => show timesL s q ++ prodL (p ++ p') q = timesL s q ++ prodL p q ++ prodL p' q; rw [ih, List.append_assoc]
theorem timesL_len (s : Nat × Nat × Rat) (q : TL) : (timesL s q).length = q.length := List.length_map _
theorem prodL_len (p q : TL) : (prodL p q).length = p.length * q.length := by
 induction p with
 | nil => simp [prodL]
 | cons s p ih => show (timesL s q ++ prodL p q).length = _; rw [List.length_append, timesL_len, ih, List.length_cons, Nat.succ_mul, Nat.add_comm]
theorem pprod_w (l m : List TI) (P Q : TL) (R : List TI) (ao bo : Option Addr) (n c n2 c2 : Nat) (hPQ : P.length * Q.length ≤ 10000) (hPl : P.length ≤ 10000) (hQl : Q.length ≤ 10000) (hPb : TB P 12) (hQb : TB Q 12)
  (HN1 : ∀ w : World, PT w (.slice ao n c) l → Calls Tryz.prog 52 #[.slice ao n c] w fun xe w' => ∃ v', xe = .returned v' ∧ PT w' v' (ofL P) ∧ Below w.heap.size w w')
  (HN2 : ∀ w : World, PT w (.slice bo n2 c2) m → Calls Tryz.prog 52 #[.slice bo n2 c2] w fun xe w' => ∃ v', xe = .returned v' ∧ PT w' v' (ofL Q) ∧ Below w.heap.size w w')
  (HM : ∀ s ∈ P, ∀ t ∈ Q, ∀ w : World, Calls Tryz.prog 28 #[fracV s.2.2, fracV t.2.2] w fun xe w' => xe = .returned (fracV (s.2.2 * t.2.2)) ∧ Below w.heap.size w w')
  (HS : ∀ (v : Value) (w : World), PT w v (ofL (prodL P Q)) → Calls Tryz.prog 49 #[v] w fun xe w' => ∃ v', xe = .returned v' ∧ PT w' v' R ∧ Below w.heap.size w w')
  (w : World) (h1 : PT w (.slice ao n c) l) (h2 : PT w (.slice bo n2 c2) m) :
  Calls Tryz.prog 66 #[.slice ao n c, .slice bo n2 c2] w fun xe w' => ∃ v, xe = .returned v ∧ PT w' v R ∧ Below w.heap.size w w' := by
 replace HN1 := Lib.hid HN1
 replace HN2 := Lib.hid HN2
 replace HM := Lib.hid HM
 replace HS := Lib.hid HS
 replace h1 := Lib.hid h1
 replace h2 := Lib.hid h2
 replace hPQ := Lib.hid hPQ
 replace hPl := Lib.hid hPl
 replace hQl := Lib.hid hQl
 replace hPb := Lib.hid hPb
 replace hQb := Lib.hid hQb
 go_enter Tryz.func66, Tryz.ntmps66
 go_wp2_with fail
 with_reducible refine Calls.mono (HN1.out w h1.out) ?_
 rintro e y1 ⟨v1, rfl, hp1, hb1⟩
 go_wp2_with fail
 with_reducible refine Calls.mono (HN2.out y1 (h2.out.below hb1)) ?_
 rintro e y2 ⟨v2, rfl, hp2, hb2⟩
 replace hp1 := hp1.below hb2
 have hbb := Lib.hid (hb1.trans (hb2.mono hb1.size))
 clear hb1 hb2
 obtain ⟨ao1, m1, d1, rfl, hm1⟩ := pt_form hp1
 obtain ⟨ao2, m2, d2, rfl, hm2⟩ := pt_form hp2
 have hpp1 := Lib.hid (pt_parts hp1).2
 have hpp2 := Lib.hid (pt_parts hp2).2
 rw [ofL_length] at hm1 hm2
 have hm1b : m1 ≤ 10000 := by rw [hm1]; exact hPl.out
 have hm2b : m2 ≤ 10000 := by rw [hm2]; exact hQl.out
 replace hm1 := Lib.hid hm1
 replace hm2 := Lib.hid hm2
 clear hp1 hp2
 go_wp2_with fail
 go_loopg [5, 16] m1 (fun gk sv iv wr => ∃ (i : Nat) (zi : Int), i + gk = m1 ∧ iv = .int .i64 zi ∧ zi = (i : Int) ∧ OwnT wr y2.heap.size sv (i * m2) (ofL (prodL (P.take i) Q)) ∧ Below y2.heap.size y2 wr)
 case atStart => exact ⟨0, 0, Nat.zero_add m1, by first | rfl | go_num, rfl, by rw [Nat.zero_mul]; exact World.ownsRow_nil _ _ _ _, Below.refl _ _⟩
 case round =>
  obtain ⟨i, zi, hik, rfl, hzi, hown, hB⟩ := hrel
  replace hown := Lib.hid hown
  rcases Nat.lt_or_ge i m1 with hin | hin
  ·subst hzi
   have hiP : i < P.length := by rw [← hm1.out]; exact hin
   have hio : i < (ofL P).length := by rw [ofL_length]; exact hiP
   obtain ⟨g, rfl, hts⟩ := hpp1.out (by omega)
   have hf := (hts.below hB).cell i hio
   have k1 : (i : Int) < (m1 : Int) := by omega
   have k0 : (0 : Int) ≤ (i : Int) := Int.natCast_nonneg _
   obtain ⟨an, bn, q, hP⟩ : ∃ a b q, P[i] = (a, b, q) := ⟨_, _, _, rfl⟩
   rw [ofL_get hiP hio hP] at hf
   simp only at hf
   have hab : an + bn ≤ 12 := by have := hPb.out _ (List.getElem_mem hiP); rw [hP] at this; exact this
   have hmem : (an, bn, q) ∈ P := by rw [← hP]; exact List.getElem_mem hiP
   have htk : prodL (P.take (i + 1)) Q = prodL (P.take i) Q ++ timesL (an, bn, q) Q := by
    rw [List.take_succ_eq_append_getElem hiP, prodL_append, hP]; simp [prodL]
   obtain ⟨a, ha⟩ : ∃ a, a = (an : Int) := ⟨_, rfl⟩
   obtain ⟨b, hb⟩ : ∃ b, b = (bn : Int) := ⟨_, rfl⟩
   rw [← ha, ← hb] at hf
   have hmul : i * m2 + m2 ≤ 10000 := by
    have h := Nat.mul_le_mul_right m2 (Nat.succ_le_of_lt hin)
    have h2 := hPQ.out
    rw [← hm1.out, ← hm2.out] at h2
    rw [Nat.succ_mul] at h; omega
   replace ha := Lib.hid ha
   replace hb := Lib.hid hb
   replace hP := Lib.hid hP
   replace hab := Lib.hid hab
   replace hmem := Lib.hid hmem
   replace htk := Lib.hid htk
   replace hmul := Lib.hid hmul
   clear hts
   obtain ⟨f0, f1, f2, f3, f4, f5, f6⟩ := hf
   have hL0 : GL y2 wr [] := ⟨hB, fun p hp => (by cases hp), List.nodup_nil⟩
   replace hL0 := hL0.new rfl [.int .i64 a, .int .i64 b, .int .u64 ((zl q.num : Nat) : Int), .string (zh q.num), .bool (zs q.num), .int .u64 ((lo (fe q) : Nat) : Int), .string (hs (fe q))] 84
   generalize hweq : wr.alloc (.cells #[.int .i64 a, .int .i64 b, .int .u64 ((zl q.num : Nat) : Int), .string (zh q.num), .bool (zs q.num), .int .u64 ((lo (fe q) : Nat) : Int), .string (hs (fe q))] 84) = y3 at hL0
   have hown2 : OwnT y3 y2.heap.size _ (i * m2) (ofL (prodL (P.take i) Q)) := ownT_below hown.out (by rw [← hweq]; exact (Below.refl _ _).alloc (Nat.le_refl _) _)
   have hnb : ∀ j, Value.ownBlock _ = some j → j < wr.heap.size := fun j hj => (hown.out.lt j hj).2
   generalize hb7 : wr.heap.size = b7 at hL0 hnb
   have hnb2 := Lib.hid (show ∀ j, Value.ownBlock _ = some j → j ≠ b7 from fun j hj => Nat.ne_of_lt (hnb j hj))
   replace hown2 := Lib.hid hown2
   clear hnb hown
   go_wp2_with fail
   clear hweq f0 f1 f2 f3 f4 f5 f6
   replace hb7 := Lib.hid hb7
   go_loopg [5, 22] m2 (fun gk2 sv iv wz => ∃ (j : Nat) (zj : Int) (vs : Value), j + gk2 = m2 ∧ iv = .int .i64 zj ∧ vs = sv ∧ zj = (j : Int) ∧ OwnT wz y2.heap.size vs (i * m2 + j) (ofL (prodL (P.take i) Q ++ timesL (an, bn, q) (Q.take j))) ∧ (∀ x, vs.ownBlock = some x → x ≠ b7) ∧ GL y2 wz [(b7, [.int .i64 a, .int .i64 b, .int .u64 ((zl q.num : Nat) : Int), .string (zh q.num), .bool (zs q.num), .int .u64 ((lo (fe q) : Nat) : Int), .string (hs (fe q))])])
   case atStart => exact ⟨0, 0, _, Nat.zero_add m2, by first | rfl | go_num, rfl, rfl, by rw [List.take_zero]; simp only [timesL, List.map_nil, List.append_nil, Nat.add_zero]; exact hown2.out, hnb2.out, hL0⟩
   case round =>
    clear hown2 hnb2 hL0
    obtain ⟨j, zj, vs, hjk, rfl, rfl, hzj, hown, hnb, hL0⟩ := hrel
    replace hown := Lib.hid hown
    replace hnb := Lib.hid hnb
    rcases Nat.lt_or_ge j m2 with hjn | hjn
    ·subst hzj
     have hjQ : j < Q.length := by rw [← hm2.out]; exact hjn
     have hjo : j < (ofL Q).length := by rw [ofL_length]; exact hjQ
     obtain ⟨g2, rfl, hts2⟩ := hpp2.out (by omega)
     have hf := (hts2.below hL0.bl).cell j hjo
     have k3 : (j : Int) < (m2 : Int) := by omega
     have k4 : (0 : Int) ≤ (j : Int) := Int.natCast_nonneg _
     obtain ⟨a2n, b2n, q2, hQ⟩ : ∃ a b q, Q[j] = (a, b, q) := ⟨_, _, _, rfl⟩
     rw [ofL_get hjQ hjo hQ] at hf
     simp only at hf
     have hab2 : a2n + b2n ≤ 12 := by have := hQb.out _ (List.getElem_mem hjQ); rw [hQ] at this; exact this
     have hM1 := HM.out _ hmem.out (a2n, b2n, q2) (by rw [← hQ]; exact List.getElem_mem hjQ)
     have htk2 : timesL (an, bn, q) (Q.take (j + 1)) = timesL (an, bn, q) (Q.take j) ++ [(an + a2n, bn + b2n, q * q2)] := by
      rw [List.take_succ_eq_append_getElem hjQ, hQ]; simp [timesL]
     obtain ⟨q3, hq3⟩ : ∃ q3, q3 = q * q2 := ⟨_, rfl⟩
     simp only [← hq3] at hM1 htk2
     obtain ⟨a2, ha2⟩ : ∃ a2, a2 = (a2n : Int) := ⟨_, rfl⟩
     obtain ⟨b2, hb2⟩ : ∃ b2, b2 = (b2n : Int) := ⟨_, rfl⟩
     rw [← ha2, ← hb2] at hf
     obtain ⟨s1, hs1⟩ : ∃ s1, s1 = a + a2 := ⟨_, rfl⟩
     obtain ⟨s2, hs2⟩ : ∃ s2, s2 = b + b2 := ⟨_, rfl⟩
     have hab0 := hab.out
     have kw1 : IntKind.i64.wrap (a + a2) = s1 := by rw [hs1, ha.out, ha2]; simp [IntKind.wrap, IntKind.bits, IntKind.signed]; omega
     have kw2 : wrap64 (a + a2) = s1 := by rw [hs1, ha.out, ha2]; simp [wrap64]; omega
     have kw3 : IntKind.i64.wrap (b + b2) = s2 := by rw [hs2, hb.out, hb2]; simp [IntKind.wrap, IntKind.bits, IntKind.signed]; omega
     have kw4 : wrap64 (b + b2) = s2 := by rw [hs2, hb.out, hb2]; simp [wrap64]; omega
     have hof : ofL (prodL (P.take i) Q ++ timesL (an, bn, q) (Q.take (j + 1))) = ofL (prodL (P.take i) Q ++ timesL (an, bn, q) (Q.take j)) ++ [(s1, s2, q3)] := by
      rw [htk2, ← List.append_assoc, hs1, hs2, ha.out, hb.out, ha2, hb2]
      generalize prodL (P.take i) Q ++ timesL (an, bn, q) (Q.take j) = X
      simp [ofL, ofT]
     replace HM1 := Lib.hid hM1
     replace ha2 := Lib.hid ha2
     replace hb2 := Lib.hid hb2
     replace hs1 := Lib.hid hs1
     replace hs2 := Lib.hid hs2
     replace hQ := Lib.hid hQ
     replace htk2 := Lib.hid htk2
     replace hq3 := Lib.hid hq3
     replace hof := Lib.hid hof
     clear hts2 hM1 hab0
     obtain ⟨f0, f1, f2, f3, f4, f5, f6⟩ := hf
     replace hL0 := hL0.new rfl [.int .i64 a2, .int .i64 b2, .int .u64 ((zl q2.num : Nat) : Int), .string (zh q2.num), .bool (zs q2.num), .int .u64 ((lo (fe q2) : Nat) : Int), .string (hs (fe q2))] 84
     generalize hweq : wr.alloc (.cells #[.int .i64 a2, .int .i64 b2, .int .u64 ((zl q2.num : Nat) : Int), .string (zh q2.num), .bool (zs q2.num), .int .u64 ((lo (fe q2) : Nat) : Int), .string (hs (fe q2))] 84) = y6 at hL0
     have hown6 := Lib.hid (show OwnT y6 y2.heap.size _ (i * m2 + j) _ from ownT_below hown.out (by rw [← hweq]; exact (Below.refl _ _).alloc (Nat.le_refl _) _))
     go_upto_region 9 with fail
     clear hweq f0 f1 f2 f3 f4 f5 f6 hown
     generalize hb9 : wr.heap.size = b9 at hL0 ⊢
     replace hb9 := Lib.hid hb9
     have hS : SS y6 [] := SS.nil y6
     refine region_tl 18 [EV vs, EV (.pointer (some ⟨b7, 0, none⟩)), EV (.int .i64 a), EV (.pointer (some ⟨b9, 0, none⟩)), EV (.int .i64 a2), EV (.int .i64 s1), EV (.pointer (some ⟨b7, 1, none⟩)), EV (.int .i64 b), EV (.pointer (some ⟨b9, 1, none⟩)), EV (.int .i64 b2), EV (.int .i64 s2), EV (.pointer (some ⟨b7, 2, none⟩)), EV (.agg #[.int .u64 ((zl q.num : Nat) : Int), .string (zh q.num), .bool (zs q.num), .int .u64 ((lo (fe q) : Nat) : Int), .string (hs (fe q))]), EV (.pointer (some ⟨b9, 2, none⟩)), EV (.agg #[.int .u64 ((zl q2.num : Nat) : Int), .string (zh q2.num), .bool (zs q2.num), .int .u64 ((lo (fe q2) : Nat) : Int), .string (hs (fe q2))]), EV (.agg #[.int .u64 ((zl q3.num : Nat) : Int), .string (zh q3.num), .bool (zs q3.num), .int .u64 ((lo (fe q3) : Nat) : Int), .string (hs (fe q3))]), EV (.agg #[.int .i64 s1, .int .i64 s2, .int .u64 ((zl q3.num : Nat) : Int), .string (zh q3.num), .bool (zs q3.num), .int .u64 ((lo (fe q3) : Nat) : Int), .string (hs (fe q3))]), NewS (y6.heap.size, [.int .i64 s1, .int .i64 s2, .int .u64 ((zl q3.num : Nat) : Int), .string (zh q3.num), .bool (zs q3.num), .int .u64 ((lo (fe q3) : Nat) : Int), .string (hs (fe q3))], 1)] (by kernel_rfl) (by kernel_rfl) ?_ ?_ ?_
     ·repeat' first | exact stays_nil | apply stays_cons | exact stays_eq _ | exact stays_news _
     ·simp only [List.take_succ_cons, List.take_zero, hopsR, and_true]
      refine ⟨?_, ?_, ?_, ?_, ?_, ?_, ?_, ?_, ?_, ?_, ?_, ?_, ?_, ?_, ?_, ?_, ?_, ?_⟩ <;> intro fv w1 hb1 hp
      all_goals (have hc := (hL0.call (below_drew hb1)).fc; simp only [zF, Nat.reduceAdd] at hc; simp only [putsV, Act.put, zP, Nat.zero_add, Nat.reduceAdd])
      ·refine tyAt_none rfl ?_
       simp [tyUpon, execOp, go_sem, Act.eval, kw1, kw2, kw3, kw4, Below.refl]
      ·refine tyAt_none rfl ?_
       simp [tyUpon, execOp, go_sem, Act.eval, kw1, kw2, kw3, kw4, Below.refl]
      ·have h1 : EV _ (fv 1) w1 := hp 1 (LC (by kernel_rfl))
       refine tyAt_none rfl ?_
       simp [tyUpon, execOp, go_sem, Act.eval, hc, h1, kw1, kw2, kw3, kw4, Below.refl]
      ·refine tyAt_none rfl ?_
       simp [tyUpon, execOp, go_sem, Act.eval, kw1, kw2, kw3, kw4, Below.refl]
      ·have h3 : EV _ (fv 3) w1 := hp 3 (LC (by kernel_rfl))
       refine tyAt_none rfl ?_
       simp [tyUpon, execOp, go_sem, Act.eval, hc, h3, kw1, kw2, kw3, kw4, Below.refl]
      ·have h2 : EV _ (fv 2) w1 := hp 2 (LC (by kernel_rfl))
       have h4 : EV _ (fv 4) w1 := hp 4 (LC (by kernel_rfl))
       refine tyAt_none rfl ?_
       simp [tyUpon, execOp, go_sem, Act.eval, h2, h4, kw1, kw2, kw3, kw4, Below.refl]
      ·refine tyAt_none rfl ?_
       simp [tyUpon, execOp, go_sem, Act.eval, kw1, kw2, kw3, kw4, Below.refl]
      ·have h6 : EV _ (fv 6) w1 := hp 6 (LC (by kernel_rfl))
       refine tyAt_none rfl ?_
       simp [tyUpon, execOp, go_sem, Act.eval, hc, h6, kw1, kw2, kw3, kw4, Below.refl]
      ·refine tyAt_none rfl ?_
       simp [tyUpon, execOp, go_sem, Act.eval, kw1, kw2, kw3, kw4, Below.refl]
      ·have h8 : EV _ (fv 8) w1 := hp 8 (LC (by kernel_rfl))
       refine tyAt_none rfl ?_
       simp [tyUpon, execOp, go_sem, Act.eval, hc, h8, kw1, kw2, kw3, kw4, Below.refl]
      ·have h7 : EV _ (fv 7) w1 := hp 7 (LC (by kernel_rfl))
       have h9 : EV _ (fv 9) w1 := hp 9 (LC (by kernel_rfl))
       refine tyAt_none rfl ?_
       simp [tyUpon, execOp, go_sem, Act.eval, h7, h9, kw1, kw2, kw3, kw4, Below.refl]
      ·refine tyAt_none rfl ?_
       simp [tyUpon, execOp, go_sem, Act.eval, kw1, kw2, kw3, kw4, Below.refl]
      ·have h11 : EV _ (fv 11) w1 := hp 11 (LC (by kernel_rfl))
       refine tyAt_none rfl ?_
       simp [tyUpon, execOp, go_sem, Act.eval, hc, h11, kw1, kw2, kw3, kw4, Below.refl]
      ·refine tyAt_none rfl ?_
       simp [tyUpon, execOp, go_sem, Act.eval, kw1, kw2, kw3, kw4, Below.refl]
      ·have h13 : EV _ (fv 13) w1 := hp 13 (LC (by kernel_rfl))
       refine tyAt_none rfl ?_
       simp [tyUpon, execOp, go_sem, Act.eval, hc, h13, kw1, kw2, kw3, kw4, Below.refl]
      ·have h12 : EV _ (fv 12) w1 := hp 12 (LC (by kernel_rfl))
       have h14 : EV _ (fv 14) w1 := hp 14 (LC (by kernel_rfl))
       refine tyAt_none rfl ?_
       refine ty_call (f := 28) (args := #[.agg #[.int .u64 ((zl q.num : Nat) : Int), .string (zh q.num), .bool (zs q.num), .int .u64 ((lo (fe q) : Nat) : Int), .string (hs (fe q))], .agg #[.int .u64 ((zl q2.num : Nat) : Int), .string (zh q2.num), .bool (zs q2.num), .int .u64 ((lo (fe q2) : Nat) : Int), .string (hs (fe q2))]]) (by simp [execOp, go_sem, Act.eval, h12, h14]) ?_
       exact (HM1.out w1).mono fun e w2 ⟨h1, h2⟩ => ⟨_, h1, rfl, h2⟩
      ·have h5 : EV _ (fv 5) w1 := hp 5 (LC (by kernel_rfl))
       have h10 : EV _ (fv 10) w1 := hp 10 (LC (by kernel_rfl))
       have h15 : EV _ (fv 15) w1 := hp 15 (LC (by kernel_rfl))
       refine tyAt_none rfl ?_
       simp [tyUpon, execOp, go_sem, Act.eval, h5, h10, h15, kw1, kw2, kw3, kw4, Below.refl]
      ·have h16 : EV _ (fv 16) w1 := hp 16 (LC (by kernel_rfl))
       refine tyAt_none rfl ?_
       refine ty_val8 (u := .slice (some ⟨w1.heap.size, 0, none⟩) 1 1) (w' := w1.alloc (.cells #[.int .i64 s1, .int .i64 s2, .int .u64 ((zl q3.num : Nat) : Int), .string (zh q3.num), .bool (zs q3.num), .int .u64 ((lo (fe q3) : Nat) : Int), .string (hs (fe q3))] 84)) (by simp [execOp, go_sem, Act.eval, h16]) ((Below.refl _ _).alloc (Nat.le_refl _) _) (news_mk (below_drew hb1).size)
     ·intro fv x51 hb1 hv
      have e0 : fv 0 = _ := hv 0 (by omega)
      have e1 : fv 1 = _ := hv 1 (by omega)
      have e2 : fv 2 = _ := hv 2 (by omega)
      have e3 : fv 3 = _ := hv 3 (by omega)
      have e4 : fv 4 = _ := hv 4 (by omega)
      have e5 : fv 5 = _ := hv 5 (by omega)
      have e6 : fv 6 = _ := hv 6 (by omega)
      have e7 : fv 7 = _ := hv 7 (by omega)
      have e8 : fv 8 = _ := hv 8 (by omega)
      have e9 : fv 9 = _ := hv 9 (by omega)
      have e10 : fv 10 = _ := hv 10 (by omega)
      have e11 : fv 11 = _ := hv 11 (by omega)
      have e12 : fv 12 = _ := hv 12 (by omega)
      have e13 : fv 13 = _ := hv 13 (by omega)
      have e14 : fv 14 = _ := hv 14 (by omega)
      have e15 : fv 15 = _ := hv 15 (by omega)
      have e16 : fv 16 = _ := hv 16 (by omega)
      have q17 : NewS ((y6.heap.size, [.int .i64 s1, .int .i64 s2, .int .u64 ((zl q3.num : Nat) : Int), .string (zh q3.num), .bool (zs q3.num), .int .u64 ((lo (fe q3) : Nat) : Int), .string (hs (fe q3))], 1)) (fv 17) x51 := hv 17 (by omega)
      obtain ⟨g1, e17, ng1, mg1⟩ := news_parts q17
      rw [e17] at q17
      simp only [List.take_succ_cons, List.take_zero, putsV, Act.put, zP, List.drop_succ_cons, List.drop_zero, Nat.zero_add, Nat.reduceAdd, e0, e1, e2, e3, e4, e5, e6, e7, e8, e9, e10, e11, e12, e13, e14, e15, e16, e17]
      replace hL0 := hL0.call (below_drew hb1)
      replace hS := hS.call (below_drew hb1)
      have hown7 := Lib.hid (ownT_below hown6.out (below_drew hb1))
      clear e0 e1 e2 e3 e4 e5 e6 e7 e8 e9 e10 e11 e12 e13 e14 e15 e16 e17 hb1 hv q17 fv
      have hmu := hmul.out
      go_wp2_with (at_builtin; refine wp_append1 rfl _ _ rfl _ _ _ _ rfl hown7.out _ (s1, s2, q3) rfl mg1 (by omega) hL0.bl.size ?_)
      intro v' w8 hown8 hgrow hloc
      rw [← hof.out] at hown8
      have hL8 := gl_grown (hL0.weak (List.Sublist.cons _ (List.Sublist.refl _))) hgrow (fun x hx => ⟨(hown7.out.lt x hx).1, fun p hp => by rw [List.mem_singleton.1 hp]; exact (hnb.out x hx).symm⟩)
      have hnb8 : ∀ x, v'.ownBlock = some x → x ≠ b7 := fun x hx => by
       rcases hloc with e | e
       ·exact hnb.out x (by rw [← e]; exact hx)
       ·rw [hx] at e
        have := (hL0.get _ _ (mK mZ)).lt
        cases e
        omega
      replace hown8 := Lib.hid hown8
      replace hnb8 := Lib.hid hnb8
      clear hgrow hloc hown7 hL0 hnb
      go_wp2_with fail
      go_roundg (m2 - (j + 1))
      case measure => omega
      case rel => exact ⟨j + 1, _, _, by omega, by first | rfl | go_num, rfl, by omega, hown8.out, hnb8.out, hL8⟩
    ·obtain rfl : j = m2 := by omega
     subst hzj
     have k3 : ¬ (j : Int) < (j : Int) := by omega
     have hown8 : OwnT wr y2.heap.size vs ((i + 1) * j) (ofL (prodL (P.take (i + 1)) Q)) := by
      rw [htk.out, Nat.succ_mul]
      have := hown.out
      rwa [List.take_of_length_le (Nat.le_of_eq hm2.out.symm)] at this
     replace hown8 := Lib.hid hown8
     go_wp2_with fail
     go_roundg (m1 - (i + 1))
     case measure => omega
     case rel => exact ⟨i + 1, _, by omega, by first | rfl | go_num, by omega, hown8.out, hL0.bl⟩
  ·obtain rfl : i = m1 := by omega
   subst hzi
   have k1 : ¬ (i : Int) < (i : Int) := by omega
   rw [List.take_of_length_le (Nat.le_of_eq hm1.out.symm)] at hown
   have hpt := ownT_pt hown.out (by rw [ofL_length, prodL_len, ← hm1.out, ← hm2.out])
   replace hpt := Lib.hid hpt
   go_wp2_with (go_at_call 49; with_reducible refine Calls.mono (HS.out _ _ hpt.out) ?_; rintro e y5 ⟨v5, rfl, hp5, hb5⟩; replace hp5 := Lib.hid hp5; replace hb5 := Lib.hid hb5)
   go_ret
   exact ⟨_, rfl, hp5.out, hbb.out.trans ((hB.trans (hb5.out.mono hB.size)).mono hbb.out.size)⟩
end Go.Proofs.YtkpghlnegbimdaaGreatDoor
namespace Go.Proofs.YtkpghlnegbimdaaGreatDoor
open Go.RowKit
attribute [local irreducible] lo hs sm s64 c64 d64 b64 mh ml pd pc qd qc val hiB str cmpI srD lz nb zl zh zs fe klT ordZ
def PTs (W : World) (S : List (Value × List TI)) : Prop := ∀ p ∈ S, PT W p.1 p.2
theorem PTs.nil (w : World) : PTs w [] := fun p hp => by cases hp
theorem PTs.call {W W' : World} {S : List (Value × List TI)} (h : PTs W S) (hb : Below W.heap.size W W') : PTs W' S := fun p hp => (h p hp).below hb
theorem PTs.new {W : World} {S : List (Value × List TI)} (h : PTs W S) (o : Obj) : PTs (W.alloc o) S := h.call ((Below.refl _ _).alloc (Nat.le_refl _) o)
theorem PTs.drew {W : World} {S : List (Value × List TI)} (h : PTs W S) : PTs W.drew S := h.call (Below.refl _ _).drew
theorem PTs.cons {W : World} {S : List (Value × List TI)} {v : Value} {l : List TI} (h : PTs W S) (q : PT W v l) : PTs W ((v, l) :: S) := fun p hp => by
 rcases List.mem_cons.1 hp with rfl | hp
 ·exact q
 ·exact h p hp
theorem PTs.get {W : World} {S : List (Value × List TI)} {v : Value} {l : List TI} (h : PTs W S) (hm : (v, l) ∈ S) : PT W v l := h _ hm
theorem ts_of_hd {w : World} {g : Nat} {l : List TI} (h : Hd w g (tmCs l)) : TS w g l := by
 have hc : ∀ j u, (tmCs l)[j]? = some u → w.cell? ⟨g, j, none⟩ = some u := fun j u hu => by
  have := hd_newsH h j u hu
  rwa [add0H] at this
 refine ⟨fun i hi => ?_, h.lt⟩
 have e := fun j hj => tmCs_get l i j hi hj
 exact ⟨hc _ _ (by have := e 0 (by omega); rw [Nat.add_zero] at this; exact this), hc _ _ (e 1 (by omega)), hc _ _ (e 2 (by omega)), hc _ _ (e 3 (by omega)), hc _ _ (e 4 (by omega)), hc _ _ (e 5 (by omega)), hc _ _ (e 6 (by omega))⟩
theorem pt_of_hd {w : World} {g c : Nat} {l : List TI} {n : Nat} (h : Hd w g (tmCs l)) (hn : n = l.length) : PT w (.slice (some ⟨g, 0, none⟩) n c) l := pt_mk hn fun _ => ⟨g, rfl, ts_of_hd h⟩
theorem ptimes_w (n : Int) (p k r : Rat) (HI : ∀ w, Calls Tryz.prog 35 #[.int .i64 n] w fun xe w' => xe = .returned (fracV k) ∧ Below w.heap.size w w') (HM : ∀ w, Calls Tryz.prog 28 #[fracV k, fracV p] w fun xe w' => xe = .returned (fracV r) ∧ Below w.heap.size w w') (w : World) :
  Calls Tryz.prog 79 #[.int .i64 n, fracV p] w fun xe w' => xe = .returned (fracV r) ∧ Below w.heap.size w w' := by
 have hL0 : GL w w [] := GL.start w
 replace HI := Lib.hid HI
 replace HM := Lib.hid HM
 obtain ⟨x1, hweq, hL0⟩ := GL.named ((hL0.new rfl [.int .u64 ((zl p.num : Nat) : Int), .string (zh p.num), .bool (zs p.num), .int .u64 ((lo (fe p) : Nat) : Int), .string (hs (fe p))] 47).new (K := w.heap.size + 1) (szA _ _) [.int .u64 0, .string ⟨#[]⟩, .bool false, .int .u64 0, .string ⟨#[]⟩] 47)
 go_enter Tryz.func79, Tryz.ntmps79
 go_upto_region 1 with fail
 clear hweq
 obtain ⟨α, iα, F, hF1, hF2⟩ := cls x1
 have hq0 := cls_box hF1 hL0 _ _ (mK mZ)
 simp only [zC, Nat.reduceAdd] at hq0
 refine region_qs 4 (C := fun w' => ∃ x, w' = F x) (by kernel_rfl) (by kernel_rfl) (cls_drew hF2) ?_
 simp only [zT]
 repeat (go_big_quiet_step (first | fail | (go_at_call 35; with_reducible exact cls_call hF1 hF2 HI.out _) | (go_at_call 28; with_reducible exact cls_call hF1 hF2 HM.out _)))
 refine wpQuiet_nil ?_
 rintro wq ⟨xq, rfl⟩
 replace hL0 := hL0.call (hF1 xq)
 clear  hq0 hF2
 generalize F xq = x2 at hL0 ⊢
 clear hF1 xq iα F α
 have hA := hL0.fc
 simp only [zF, Nat.reduceAdd] at hA
 obtain ⟨x3, hput1, hP⟩ := GL.named (hL0.put 0 (w.heap.size + 1) _ rfl [.int .u64 ((zl r.num : Nat) : Int), .string (zh r.num), .bool (zs r.num), .int .u64 ((lo (fe r) : Nat) : Int), .string (hs (fe r))] rfl)
 simp only [setAll] at hput1
 simp only [List.set_cons_zero, List.set_cons_succ] at hP
 have hB1 := hP.fc
 simp only [zF, Nat.reduceAdd] at hB1
 replace hL0 := hP
 go_wp2_with fail
 exact bodyPost_ret (v := .agg #[.int .u64 ((zl r.num : Nat) : Int), .string (zh r.num), .bool (zs r.num), .int .u64 ((lo (fe r) : Nat) : Int), .string (hs (fe r))]) (by simp [results, Tryz.results79, go_sem, hB1]) rfl ⟨rfl, hL0.bl⟩
theorem pdx1_w (i j m mx : Int) (q r : Rat) (HT : ∀ w, Calls Tryz.prog 79 #[.int .i64 i, fracV q] w fun xe w' => xe = .returned (fracV r) ∧ Below w.heap.size w w') (e1 : IntKind.i64.wrap (i - 1) = m) (e2 : wrap64 (i - 1) = m) (e3 : max m 0 = mx) (w : World) :
  Calls Tryz.prog 78 #[.agg #[.int .i64 i, .int .i64 j, .int .u64 ((zl q.num : Nat) : Int), .string (zh q.num), .bool (zs q.num), .int .u64 ((lo (fe q) : Nat) : Int), .string (hs (fe q))]] w fun xe w' => xe = .returned (.agg #[.int .i64 mx, .int .i64 j, .int .u64 ((zl r.num : Nat) : Int), .string (zh r.num), .bool (zs r.num), .int .u64 ((lo (fe r) : Nat) : Int), .string (hs (fe r))]) ∧ Below w.heap.size w w' := by
 have hL0 : GL w w [] := GL.start w
 replace HT := Lib.hid HT
 obtain ⟨x1, hweq, hL0⟩ := GL.named ((hL0.new rfl [.int .i64 i, .int .i64 j, .int .u64 ((zl q.num : Nat) : Int), .string (zh q.num), .bool (zs q.num), .int .u64 ((lo (fe q) : Nat) : Int), .string (hs (fe q))] 84).new (K := w.heap.size + 1) (szA _ _) [.int .i64 0, .int .i64 0, .int .u64 0, .string ⟨#[]⟩, .bool false, .int .u64 0, .string ⟨#[]⟩] 84)
 go_enter Tryz.func78, Tryz.ntmps78
 go_upto_region 1 with fail
 clear hweq
 obtain ⟨α, iα, F, hF1, hF2⟩ := cls x1
 have hq0 := cls_box hF1 hL0 _ _ (mK mZ)
 simp only [zC, Nat.reduceAdd] at hq0
 refine region_qs 12 (C := fun w' => ∃ x, w' = F x) (by kernel_rfl) (by kernel_rfl) (cls_drew hF2) ?_
 simp only [zT]
 repeat (go_big_quiet_step (first | fail | (go_at_call 79; with_reducible exact cls_call hF1 hF2 HT.out _)))
 refine wpQuiet_nil ?_
 rintro wq ⟨xq, rfl⟩
 replace hL0 := hL0.call (hF1 xq)
 clear  hq0 hF2
 generalize F xq = x2 at hL0 ⊢
 clear hF1 xq iα F α
 have hA := hL0.fc
 simp only [zF, Nat.reduceAdd] at hA
 obtain ⟨x3, hput1, hP⟩ := GL.named (hL0.put 0 (w.heap.size + 1) _ rfl [.int .i64 mx, .int .i64 j, .int .u64 ((zl r.num : Nat) : Int), .string (zh r.num), .bool (zs r.num), .int .u64 ((lo (fe r) : Nat) : Int), .string (hs (fe r))] rfl)
 simp only [setAll] at hput1
 simp only [List.set_cons_zero, List.set_cons_succ] at hP
 have hB1 := hP.fc
 simp only [zF, Nat.reduceAdd] at hB1
 replace hL0 := hP
 go_wp2_with fail
 exact bodyPost_ret (v := .agg #[.int .i64 mx, .int .i64 j, .int .u64 ((zl r.num : Nat) : Int), .string (zh r.num), .bool (zs r.num), .int .u64 ((lo (fe r) : Nat) : Int), .string (hs (fe r))]) (by simp [results, Tryz.results78, go_sem, hB1]) rfl ⟨rfl, hL0.bl⟩
theorem pdy1_w (i j m mx : Int) (q r : Rat) (HT : ∀ w, Calls Tryz.prog 79 #[.int .i64 j, fracV q] w fun xe w' => xe = .returned (fracV r) ∧ Below w.heap.size w w') (e1 : IntKind.i64.wrap (j - 1) = m) (e2 : wrap64 (j - 1) = m) (e3 : max m 0 = mx) (w : World) :
  Calls Tryz.prog 80 #[.agg #[.int .i64 i, .int .i64 j, .int .u64 ((zl q.num : Nat) : Int), .string (zh q.num), .bool (zs q.num), .int .u64 ((lo (fe q) : Nat) : Int), .string (hs (fe q))]] w fun xe w' => xe = .returned (.agg #[.int .i64 i, .int .i64 mx, .int .u64 ((zl r.num : Nat) : Int), .string (zh r.num), .bool (zs r.num), .int .u64 ((lo (fe r) : Nat) : Int), .string (hs (fe r))]) ∧ Below w.heap.size w w' := by
 have hL0 : GL w w [] := GL.start w
 replace HT := Lib.hid HT
 obtain ⟨x1, hweq, hL0⟩ := GL.named ((hL0.new rfl [.int .i64 i, .int .i64 j, .int .u64 ((zl q.num : Nat) : Int), .string (zh q.num), .bool (zs q.num), .int .u64 ((lo (fe q) : Nat) : Int), .string (hs (fe q))] 84).new (K := w.heap.size + 1) (szA _ _) [.int .i64 0, .int .i64 0, .int .u64 0, .string ⟨#[]⟩, .bool false, .int .u64 0, .string ⟨#[]⟩] 84)
 go_enter Tryz.func80, Tryz.ntmps80
 go_upto_region 1 with fail
 clear hweq
 obtain ⟨α, iα, F, hF1, hF2⟩ := cls x1
 have hq0 := cls_box hF1 hL0 _ _ (mK mZ)
 simp only [zC, Nat.reduceAdd] at hq0
 refine region_qs 12 (C := fun w' => ∃ x, w' = F x) (by kernel_rfl) (by kernel_rfl) (cls_drew hF2) ?_
 simp only [zT]
 repeat (go_big_quiet_step (first | fail | (go_at_call 79; with_reducible exact cls_call hF1 hF2 HT.out _)))
 refine wpQuiet_nil ?_
 rintro wq ⟨xq, rfl⟩
 replace hL0 := hL0.call (hF1 xq)
 clear  hq0 hF2
 generalize F xq = x2 at hL0 ⊢
 clear hF1 xq iα F α
 have hA := hL0.fc
 simp only [zF, Nat.reduceAdd] at hA
 obtain ⟨x3, hput1, hP⟩ := GL.named (hL0.put 0 (w.heap.size + 1) _ rfl [.int .i64 i, .int .i64 mx, .int .u64 ((zl r.num : Nat) : Int), .string (zh r.num), .bool (zs r.num), .int .u64 ((lo (fe r) : Nat) : Int), .string (hs (fe r))] rfl)
 simp only [setAll] at hput1
 simp only [List.set_cons_zero, List.set_cons_succ] at hP
 have hB1 := hP.fc
 simp only [zF, Nat.reduceAdd] at hB1
 replace hL0 := hP
 go_wp2_with fail
 exact bodyPost_ret (v := .agg #[.int .i64 i, .int .i64 mx, .int .u64 ((zl r.num : Nat) : Int), .string (zh r.num), .bool (zs r.num), .int .u64 ((lo (fe r) : Nat) : Int), .string (hs (fe r))]) (by simp [results, Tryz.results80, go_sem, hB1]) rfl ⟨rfl, hL0.bl⟩
theorem pscale1_w (i j : Int) (q c r : Rat) (bk : Nat) (HM : ∀ w, Calls Tryz.prog 28 #[fracV c, fracV q] w fun xe w' => xe = .returned (fracV r) ∧ Below w.heap.size w w') (w : World) (hk : Hd w bk [.int .u64 ((zl c.num : Nat) : Int), .string (zh c.num), .bool (zs c.num), .int .u64 ((lo (fe c) : Nat) : Int), .string (hs (fe c))]) :
  Calls Tryz.prog 88 #[.agg #[.int .i64 i, .int .i64 j, .int .u64 ((zl q.num : Nat) : Int), .string (zh q.num), .bool (zs q.num), .int .u64 ((lo (fe q) : Nat) : Int), .string (hs (fe q))], .pointer (some ⟨bk, 0, none⟩)] w fun xe w' => xe = .returned (.agg #[.int .i64 i, .int .i64 j, .int .u64 ((zl r.num : Nat) : Int), .string (zh r.num), .bool (zs r.num), .int .u64 ((lo (fe r) : Nat) : Int), .string (hs (fe r))]) ∧ Below w.heap.size w w' := by
 have hL0 : GL w w [] := GL.start w
 replace HM := Lib.hid HM
 replace hk := Lib.hid hk
 obtain ⟨x1, hweq, hL0⟩ := GL.named ((hL0.new rfl [.int .i64 i, .int .i64 j, .int .u64 ((zl q.num : Nat) : Int), .string (zh q.num), .bool (zs q.num), .int .u64 ((lo (fe q) : Nat) : Int), .string (hs (fe q))] 84).new (K := w.heap.size + 1) (szA _ _) [.int .i64 0, .int .i64 0, .int .u64 0, .string ⟨#[]⟩, .bool false, .int .u64 0, .string ⟨#[]⟩] 84)
 go_enter Tryz.func88, Tryz.ntmps88
 go_upto_region 1 with fail
 clear hweq
 obtain ⟨α, iα, F, hF1, hF2⟩ := cls x1
 have hk9 := cellsC_of _ 0 fun x => cells_of _ 0 [] rfl ((hk.out.below hL0.bl).below (hF1 x))
 simp only [zC, Nat.reduceAdd] at hk9
 have hq0 := cls_box hF1 hL0 _ _ (mK mZ)
 simp only [zC, Nat.reduceAdd] at hq0
 refine region_qs 9 (C := fun w' => ∃ x, w' = F x) (by kernel_rfl) (by kernel_rfl) (cls_drew hF2) ?_
 simp only [zT]
 repeat (go_big_quiet_step (first | fail | (go_at_call 28; with_reducible exact cls_call hF1 hF2 HM.out _)))
 refine wpQuiet_nil ?_
 rintro wq ⟨xq, rfl⟩
 replace hL0 := hL0.call (hF1 xq)
 clear hk9 hq0 hF2
 generalize F xq = x2 at hL0 ⊢
 clear hF1 xq iα F α
 have hA := hL0.fc
 simp only [zF, Nat.reduceAdd] at hA
 obtain ⟨x3, hput1, hP⟩ := GL.named (hL0.put 0 (w.heap.size + 1) _ rfl [.int .i64 i, .int .i64 j, .int .u64 ((zl r.num : Nat) : Int), .string (zh r.num), .bool (zs r.num), .int .u64 ((lo (fe r) : Nat) : Int), .string (hs (fe r))] rfl)
 simp only [setAll] at hput1
 simp only [List.set_cons_zero, List.set_cons_succ] at hP
 have hB1 := hP.fc
 simp only [zF, Nat.reduceAdd] at hB1
 replace hL0 := hP
 go_wp2_with fail
 exact bodyPost_ret (v := .agg #[.int .i64 i, .int .i64 j, .int .u64 ((zl r.num : Nat) : Int), .string (zh r.num), .bool (zs r.num), .int .u64 ((lo (fe r) : Nat) : Int), .string (hs (fe r))]) (by simp [results, Tryz.results88, go_sem, hB1]) rfl ⟨rfl, hL0.bl⟩
theorem pdx_w (l r : List TI) (HT : ∀ (p0 : Value) (w : World), PT w p0 l → Calls Tryz.prog 77 #[p0, .func (.func 78) #[] #[]] w fun e w' => ∃ pv, e = .returned pv ∧ PT w' pv r ∧ Below w.heap.size w w') (p0 : Value) (w : World) (r0 : PT w p0 l) :
  Calls Tryz.prog 32 #[p0] w fun e w' => ∃ pv, e = .returned pv ∧ PT w' pv r ∧ Below w.heap.size w w' := by
 obtain ⟨a0, n0, c0, rfl, -⟩ := pt_form r0
 have f0 := Lib.hid r0
 clear r0
 replace HT := Lib.hid HT
 have hL0 : GL w w [] := GL.start w
 have hT : PTs w [] := PTs.nil w
 go_enter Tryz.func32, Tryz.ntmps32
 go_wp2_with fail
 with_reducible refine Calls.mono (HT.out (.slice a0 n0 c0) _ (PT.below f0.out hL0.bl)) ?_
 rintro e x1 ⟨v0, rfl, q0, hb⟩
 replace hL0 := hL0.call hb
 replace hT := hT.call hb
 clear hb
 obtain ⟨g1, d1, g1c, rfl, -⟩ := pt_form q0
 replace hT := hT.cons q0
 clear q0
 go_wp2_with fail
 exact bodyPost_ret (v := .slice g1 d1 g1c) (by simp [results, Tryz.results32, go_sem]) rfl ⟨_, rfl, (hT.get mZ), hL0.bl⟩
theorem pdy_w (l r : List TI) (HT : ∀ (p0 : Value) (w : World), PT w p0 l → Calls Tryz.prog 77 #[p0, .func (.func 80) #[] #[]] w fun e w' => ∃ pv, e = .returned pv ∧ PT w' pv r ∧ Below w.heap.size w w') (p0 : Value) (w : World) (r0 : PT w p0 l) :
  Calls Tryz.prog 33 #[p0] w fun e w' => ∃ pv, e = .returned pv ∧ PT w' pv r ∧ Below w.heap.size w w' := by
 obtain ⟨a0, n0, c0, rfl, -⟩ := pt_form r0
 have f0 := Lib.hid r0
 clear r0
 replace HT := Lib.hid HT
 have hL0 : GL w w [] := GL.start w
 have hT : PTs w [] := PTs.nil w
 go_enter Tryz.func33, Tryz.ntmps33
 go_wp2_with fail
 with_reducible refine Calls.mono (HT.out (.slice a0 n0 c0) _ (PT.below f0.out hL0.bl)) ?_
 rintro e x1 ⟨v0, rfl, q0, hb⟩
 replace hL0 := hL0.call hb
 replace hT := hT.call hb
 clear hb
 obtain ⟨g1, d1, g1c, rfl, -⟩ := pt_form q0
 replace hT := hT.cons q0
 clear q0
 go_wp2_with fail
 exact bodyPost_ret (v := .slice g1 d1 g1c) (by simp [results, Tryz.results33, go_sem]) rfl ⟨_, rfl, (hT.get mZ), hL0.bl⟩
theorem pneg_w (l r : List TI) (z : Rat) (HI : ∀ w, Calls Tryz.prog 35 #[.int .i64 (-1)] w fun xe w' => xe = .returned (fracV z) ∧ Below w.heap.size w w') (HS : ∀ (p0 : Value) (w : World), PT w p0 l → Calls Tryz.prog 39 #[p0, fracV z] w fun e w' => ∃ pv, e = .returned pv ∧ PT w' pv r ∧ Below w.heap.size w w') (p0 : Value) (w : World) (r0 : PT w p0 l) :
  Calls Tryz.prog 30 #[p0] w fun e w' => ∃ pv, e = .returned pv ∧ PT w' pv r ∧ Below w.heap.size w w' := by
 obtain ⟨a0, n0, c0, rfl, -⟩ := pt_form r0
 have f0 := Lib.hid r0
 clear r0
 replace HI := Lib.hid HI
 replace HS := Lib.hid HS
 have hL0 : GL w w [] := GL.start w
 have hT : PTs w [] := PTs.nil w
 go_enter Tryz.func30, Tryz.ntmps30
 go_wp2_with fail
 with_reducible refine Calls.mono (HI.out _) ?_
 rintro e x1 ⟨rfl, hb⟩
 replace hL0 := hL0.call hb
 replace hT := hT.call hb
 clear hb
 go_wp2_with fail
 with_reducible refine Calls.mono (HS.out (.slice a0 n0 c0) _ (PT.below f0.out hL0.bl)) ?_
 rintro e x2 ⟨v0, rfl, q0, hb⟩
 replace hL0 := hL0.call hb
 replace hT := hT.call hb
 clear hb
 obtain ⟨g1, d1, g1c, rfl, -⟩ := pt_form q0
 replace hT := hT.cons q0
 clear q0
 go_wp2_with fail
 exact bodyPost_ret (v := .slice g1 d1 g1c) (by simp [results, Tryz.results30, go_sem]) rfl ⟨_, rfl, (hT.get mZ), hL0.bl⟩
theorem psub_w (l m k r : List TI) (HN : ∀ (p0 : Value) (w : World), PT w p0 m → Calls Tryz.prog 30 #[p0] w fun e w' => ∃ pv, e = .returned pv ∧ PT w' pv k ∧ Below w.heap.size w w') (HA : ∀ (p0 p1 : Value) (w : World), PT w p0 l → PT w p1 k → Calls Tryz.prog 24 #[p0, p1] w fun e w' => ∃ pv, e = .returned pv ∧ PT w' pv r ∧ Below w.heap.size w w') (p0 : Value) (p1 : Value) (w : World) (r0 : PT w p0 l) (r1 : PT w p1 m) :
  Calls Tryz.prog 25 #[p0, p1] w fun e w' => ∃ pv, e = .returned pv ∧ PT w' pv r ∧ Below w.heap.size w w' := by
 obtain ⟨a0, n0, c0, rfl, -⟩ := pt_form r0
 have f0 := Lib.hid r0
 clear r0
 obtain ⟨a1, n1, c1, rfl, -⟩ := pt_form r1
 have f1 := Lib.hid r1
 clear r1
 replace HN := Lib.hid HN
 replace HA := Lib.hid HA
 have hL0 : GL w w [] := GL.start w
 have hT : PTs w [] := PTs.nil w
 go_enter Tryz.func25, Tryz.ntmps25
 go_wp2_with fail
 with_reducible refine Calls.mono (HN.out (.slice a1 n1 c1) _ (PT.below f1.out hL0.bl)) ?_
 rintro e x1 ⟨v0, rfl, q0, hb⟩
 replace hL0 := hL0.call hb
 replace hT := hT.call hb
 clear hb
 obtain ⟨g1, d1, g1c, rfl, -⟩ := pt_form q0
 replace hT := hT.cons q0
 clear q0
 go_wp2_with fail
 with_reducible refine Calls.mono (HA.out (.slice a0 n0 c0) (.slice g1 d1 g1c) _ (PT.below f0.out hL0.bl) (hT.get mZ)) ?_
 rintro e x2 ⟨v0, rfl, q0, hb⟩
 replace hL0 := hL0.call hb
 replace hT := hT.call hb
 clear hb
 obtain ⟨g2, d2, g2c, rfl, -⟩ := pt_form q0
 replace hT := hT.cons q0
 clear q0
 go_wp2_with fail
 exact bodyPost_ret (v := .slice g2 d2 g2c) (by simp [results, Tryz.results25, go_sem]) rfl ⟨_, rfl, (hT.get mZ), hL0.bl⟩
theorem plap_w (l a b c d r : List TI) (H1 : ∀ (p0 : Value) (w : World), PT w p0 l → Calls Tryz.prog 32 #[p0] w fun e w' => ∃ pv, e = .returned pv ∧ PT w' pv a ∧ Below w.heap.size w w') (H2 : ∀ (p0 : Value) (w : World), PT w p0 a → Calls Tryz.prog 32 #[p0] w fun e w' => ∃ pv, e = .returned pv ∧ PT w' pv b ∧ Below w.heap.size w w') (H3 : ∀ (p0 : Value) (w : World), PT w p0 l → Calls Tryz.prog 33 #[p0] w fun e w' => ∃ pv, e = .returned pv ∧ PT w' pv c ∧ Below w.heap.size w w') (H4 : ∀ (p0 : Value) (w : World), PT w p0 c → Calls Tryz.prog 33 #[p0] w fun e w' => ∃ pv, e = .returned pv ∧ PT w' pv d ∧ Below w.heap.size w w') (HA : ∀ (p0 p1 : Value) (w : World), PT w p0 b → PT w p1 d → Calls Tryz.prog 24 #[p0, p1] w fun e w' => ∃ pv, e = .returned pv ∧ PT w' pv r ∧ Below w.heap.size w w') (p0 : Value) (w : World) (r0 : PT w p0 l) :
  Calls Tryz.prog 36 #[p0] w fun e w' => ∃ pv, e = .returned pv ∧ PT w' pv r ∧ Below w.heap.size w w' := by
 obtain ⟨a0, n0, c0, rfl, -⟩ := pt_form r0
 have f0 := Lib.hid r0
 clear r0
 replace H1 := Lib.hid H1
 replace H2 := Lib.hid H2
 replace H3 := Lib.hid H3
 replace H4 := Lib.hid H4
 replace HA := Lib.hid HA
 have hL0 : GL w w [] := GL.start w
 have hT : PTs w [] := PTs.nil w
 go_enter Tryz.func36, Tryz.ntmps36
 go_wp2_with fail
 with_reducible refine Calls.mono (H1.out (.slice a0 n0 c0) _ (PT.below f0.out hL0.bl)) ?_
 rintro e x1 ⟨v0, rfl, q0, hb⟩
 replace hL0 := hL0.call hb
 replace hT := hT.call hb
 clear hb
 obtain ⟨g1, d1, g1c, rfl, -⟩ := pt_form q0
 replace hT := hT.cons q0
 clear q0
 go_wp2_with fail
 with_reducible refine Calls.mono (H2.out (.slice g1 d1 g1c) _ (hT.get mZ)) ?_
 rintro e x2 ⟨v0, rfl, q0, hb⟩
 replace hL0 := hL0.call hb
 replace hT := hT.call hb
 clear hb
 obtain ⟨g2, d2, g2c, rfl, -⟩ := pt_form q0
 replace hT := hT.cons q0
 clear q0
 go_wp2_with fail
 with_reducible refine Calls.mono (H3.out (.slice a0 n0 c0) _ (PT.below f0.out hL0.bl)) ?_
 rintro e x3 ⟨v0, rfl, q0, hb⟩
 replace hL0 := hL0.call hb
 replace hT := hT.call hb
 clear hb
 obtain ⟨g3, d3, g3c, rfl, -⟩ := pt_form q0
 replace hT := hT.cons q0
 clear q0
 go_wp2_with fail
 with_reducible refine Calls.mono (H4.out (.slice g3 d3 g3c) _ (hT.get mZ)) ?_
 rintro e x4 ⟨v0, rfl, q0, hb⟩
 replace hL0 := hL0.call hb
 replace hT := hT.call hb
 clear hb
 obtain ⟨g4, d4, g4c, rfl, -⟩ := pt_form q0
 replace hT := hT.cons q0
 clear q0
 go_wp2_with fail
 with_reducible refine Calls.mono (HA.out (.slice g2 d2 g2c) (.slice g4 d4 g4c) _ (hT.get (mK (mK mZ))) (hT.get mZ)) ?_
 rintro e x5 ⟨v0, rfl, q0, hb⟩
 replace hL0 := hL0.call hb
 replace hT := hT.call hb
 clear hb
 obtain ⟨g5, d5, g5c, rfl, -⟩ := pt_form q0
 replace hT := hT.cons q0
 clear q0
 go_wp2_with fail
 exact bodyPost_ret (v := .slice g5 d5 g5c) (by simp [results, Tryz.results36, go_sem]) rfl ⟨_, rfl, (hT.get mZ), hL0.bl⟩
theorem px_w (u v : Rat) (r : List TI) (HI0 : ∀ w, Calls Tryz.prog 35 #[.int .i64 0] w fun xe w' => xe = .returned (fracV u) ∧ Below w.heap.size w w') (HI1 : ∀ w, Calls Tryz.prog 35 #[.int .i64 1] w fun xe w' => xe = .returned (fracV v) ∧ Below w.heap.size w w') (HL : ∀ (w : World), Calls Tryz.prog 81 #[fracV v, fracV u, fracV u] w fun e w' => ∃ pv, e = .returned pv ∧ PT w' pv r ∧ Below w.heap.size w w') (w : World) :
  Calls Tryz.prog 44 #[] w fun e w' => ∃ pv, e = .returned pv ∧ PT w' pv r ∧ Below w.heap.size w w' := by
 replace HI0 := Lib.hid HI0
 replace HI1 := Lib.hid HI1
 replace HL := Lib.hid HL
 have hL0 : GL w w [] := GL.start w
 have hT : PTs w [] := PTs.nil w
 go_enter Tryz.func44, Tryz.ntmps44
 go_wp2_with fail
 with_reducible refine Calls.mono (HI1.out _) ?_
 rintro e x1 ⟨rfl, hb⟩
 replace hL0 := hL0.call hb
 replace hT := hT.call hb
 clear hb
 go_wp2_with fail
 with_reducible refine Calls.mono (HI0.out _) ?_
 rintro e x2 ⟨rfl, hb⟩
 replace hL0 := hL0.call hb
 replace hT := hT.call hb
 clear hb
 go_wp2_with fail
 with_reducible refine Calls.mono (HI0.out _) ?_
 rintro e x3 ⟨rfl, hb⟩
 replace hL0 := hL0.call hb
 replace hT := hT.call hb
 clear hb
 go_wp2_with fail
 with_reducible refine Calls.mono (HL.out _) ?_
 rintro e x4 ⟨v0, rfl, q0, hb⟩
 replace hL0 := hL0.call hb
 replace hT := hT.call hb
 clear hb
 obtain ⟨g1, d1, g1c, rfl, -⟩ := pt_form q0
 replace hT := hT.cons q0
 clear q0
 go_wp2_with fail
 exact bodyPost_ret (v := .slice g1 d1 g1c) (by simp [results, Tryz.results44, go_sem]) rfl ⟨_, rfl, (hT.get mZ), hL0.bl⟩
theorem py_w (u v : Rat) (r : List TI) (HI0 : ∀ w, Calls Tryz.prog 35 #[.int .i64 0] w fun xe w' => xe = .returned (fracV u) ∧ Below w.heap.size w w') (HI1 : ∀ w, Calls Tryz.prog 35 #[.int .i64 1] w fun xe w' => xe = .returned (fracV v) ∧ Below w.heap.size w w') (HL : ∀ (w : World), Calls Tryz.prog 81 #[fracV u, fracV v, fracV u] w fun e w' => ∃ pv, e = .returned pv ∧ PT w' pv r ∧ Below w.heap.size w w') (w : World) :
  Calls Tryz.prog 45 #[] w fun e w' => ∃ pv, e = .returned pv ∧ PT w' pv r ∧ Below w.heap.size w w' := by
 replace HI0 := Lib.hid HI0
 replace HI1 := Lib.hid HI1
 replace HL := Lib.hid HL
 have hL0 : GL w w [] := GL.start w
 have hT : PTs w [] := PTs.nil w
 go_enter Tryz.func45, Tryz.ntmps45
 go_wp2_with fail
 with_reducible refine Calls.mono (HI0.out _) ?_
 rintro e x1 ⟨rfl, hb⟩
 replace hL0 := hL0.call hb
 replace hT := hT.call hb
 clear hb
 go_wp2_with fail
 with_reducible refine Calls.mono (HI1.out _) ?_
 rintro e x2 ⟨rfl, hb⟩
 replace hL0 := hL0.call hb
 replace hT := hT.call hb
 clear hb
 go_wp2_with fail
 with_reducible refine Calls.mono (HI0.out _) ?_
 rintro e x3 ⟨rfl, hb⟩
 replace hL0 := hL0.call hb
 replace hT := hT.call hb
 clear hb
 go_wp2_with fail
 with_reducible refine Calls.mono (HL.out _) ?_
 rintro e x4 ⟨v0, rfl, q0, hb⟩
 replace hL0 := hL0.call hb
 replace hT := hT.call hb
 clear hb
 obtain ⟨g1, d1, g1c, rfl, -⟩ := pt_form q0
 replace hT := hT.cons q0
 clear q0
 go_wp2_with fail
 exact bodyPost_ret (v := .slice g1 d1 g1c) (by simp [results, Tryz.results45, go_sem]) rfl ⟨_, rfl, (hT.get mZ), hL0.bl⟩
theorem pconst_w (u c : Rat) (r : List TI) (HI0 : ∀ w, Calls Tryz.prog 35 #[.int .i64 0] w fun xe w' => xe = .returned (fracV u) ∧ Below w.heap.size w w') (HL : ∀ (w : World), Calls Tryz.prog 81 #[fracV u, fracV u, fracV c] w fun e w' => ∃ pv, e = .returned pv ∧ PT w' pv r ∧ Below w.heap.size w w') (w : World) :
  Calls Tryz.prog 34 #[fracV c] w fun e w' => ∃ pv, e = .returned pv ∧ PT w' pv r ∧ Below w.heap.size w w' := by
 replace HI0 := Lib.hid HI0
 replace HL := Lib.hid HL
 have hL0 : GL w w [] := GL.start w
 have hT : PTs w [] := PTs.nil w
 replace hT := (hT.new (.cells #[.int .u64 ((zl c.num : Nat) : Int), .string (zh c.num), .bool (zs c.num), .int .u64 ((lo (fe c) : Nat) : Int), .string (hs (fe c))] 47))
 replace hL0 := (hL0.new rfl [.int .u64 ((zl c.num : Nat) : Int), .string (zh c.num), .bool (zs c.num), .int .u64 ((lo (fe c) : Nat) : Int), .string (hs (fe c))] 47)
 generalize hweq : (w.alloc (.cells #[.int .u64 ((zl c.num : Nat) : Int), .string (zh c.num), .bool (zs c.num), .int .u64 ((lo (fe c) : Nat) : Int), .string (hs (fe c))] 47)) = x1 at hL0 hT
 go_enter Tryz.func34, Tryz.ntmps34
 go_upto_region 1 with fail
 clear hweq
 refine region_tl 5 [EV (.agg #[.int .u64 ((zl u.num : Nat) : Int), .string (zh u.num), .bool (zs u.num), .int .u64 ((lo (fe u) : Nat) : Int), .string (hs (fe u))]), EV (.agg #[.int .u64 ((zl u.num : Nat) : Int), .string (zh u.num), .bool (zs u.num), .int .u64 ((lo (fe u) : Nat) : Int), .string (hs (fe u))]), EV (.agg #[.int .u64 ((zl c.num : Nat) : Int), .string (zh c.num), .bool (zs c.num), .int .u64 ((lo (fe c) : Nat) : Int), .string (hs (fe c))]), PP r, PP r] (by kernel_rfl) (by kernel_rfl) ?_ ?_ ?_
 ·repeat' first | exact stays_nil | apply stays_cons | exact stays_eq _ | exact stays_pt _
 ·simp only [List.take_succ_cons, List.take_zero, hopsR, and_true]
  refine ⟨?_, ?_, ?_, ?_, ?_⟩ <;> intro fv w1 hb1 hp
  all_goals (have hc := (hL0.call (below_drew hb1)).fc; simp only [zF, Nat.reduceAdd] at hc; simp only [putsV, Act.put, zP, Nat.zero_add, Nat.reduceAdd])
  ·refine tyAt_none rfl ?_
   refine ty_call (f := 35) (args := #[.int .i64 0]) (by simp [execOp, go_sem, Act.eval]) ?_
   exact (HI0.out w1).mono fun e w2 ⟨h1, h2⟩ => ⟨_, h1, rfl, h2⟩
  ·refine tyAt_none rfl ?_
   refine ty_call (f := 35) (args := #[.int .i64 0]) (by simp [execOp, go_sem, Act.eval]) ?_
   exact (HI0.out w1).mono fun e w2 ⟨h1, h2⟩ => ⟨_, h1, rfl, h2⟩
  ·refine tyAt_none rfl ?_
   simp [tyUpon, execOp, go_sem, Act.eval, hc, Below.refl]
  ·have h0 : EV _ (fv 0) w1 := hp 0 (LC (by kernel_rfl))
   have h1 : EV _ (fv 1) w1 := hp 1 (LC (by kernel_rfl))
   have h2 : EV _ (fv 2) w1 := hp 2 (LC (by kernel_rfl))
   refine tyAt_none rfl ?_
   refine ty_call (f := 81) (args := #[.agg #[.int .u64 ((zl u.num : Nat) : Int), .string (zh u.num), .bool (zs u.num), .int .u64 ((lo (fe u) : Nat) : Int), .string (hs (fe u))], .agg #[.int .u64 ((zl u.num : Nat) : Int), .string (zh u.num), .bool (zs u.num), .int .u64 ((lo (fe u) : Nat) : Int), .string (hs (fe u))], .agg #[.int .u64 ((zl c.num : Nat) : Int), .string (zh c.num), .bool (zs c.num), .int .u64 ((lo (fe c) : Nat) : Int), .string (hs (fe c))]]) (by simp [execOp, go_sem, Act.eval, h0, h1, h2]) ?_
   exact (HL.out w1).mono fun e w2 ⟨pv, h1, h2, h3⟩ => ⟨pv, h1, h2, h3⟩
  ·have h3 : (PP r) (fv 3) w1 := hp 3 (LC (by kernel_rfl))
   refine tyAt_none rfl ?_
   simp [tyUpon, execOp, go_sem, Act.eval, Below.refl]
   exact h3
 ·intro fv x2 hb1 hv
  have e0 : fv 0 = _ := hv 0 (by omega)
  have e1 : fv 1 = _ := hv 1 (by omega)
  have e2 : fv 2 = _ := hv 2 (by omega)
  have q3 : PT x2 (fv 3) r := hv 3 (by omega)
  obtain ⟨g1, d1, g1c, e3, -⟩ := pt_form q3
  rw [e3] at q3
  have q4 : PT x2 (fv 4) r := hv 4 (by omega)
  obtain ⟨g2, d2, g2c, e4, -⟩ := pt_form q4
  rw [e4] at q4
  simp only [List.take_succ_cons, List.take_zero, putsV, Act.put, zP, List.drop_succ_cons, List.drop_zero, Nat.zero_add, Nat.reduceAdd, e0, e1, e2, e3, e4]
  replace hL0 := hL0.call (below_drew hb1)
  replace hT := hT.call (below_drew hb1)
  replace hT := hT.cons q3
  replace hT := hT.cons q4
  clear e0 e1 e2 e3 e4 hb1 hv q3 q4 fv
  go_wp2_with fail
  exact bodyPost_ret (v := .slice g2 d2 g2c) (by simp [results, Tryz.results34, go_sem]) rfl ⟨_, rfl, (hT.get mZ), hL0.bl⟩
theorem psame_w (l m a b : List TI) (t : Bool) (H1 : ∀ (p0 : Value) (w : World), PT w p0 l → Calls Tryz.prog 52 #[p0] w fun e w' => ∃ pv, e = .returned pv ∧ PT w' pv a ∧ Below w.heap.size w w') (H2 : ∀ (p0 : Value) (w : World), PT w p0 m → Calls Tryz.prog 52 #[p0] w fun e w' => ∃ pv, e = .returned pv ∧ PT w' pv b ∧ Below w.heap.size w w') (HE : ∀ (p0 p1 : Value) (w : World), PT w p0 a → PT w p1 b → Calls Tryz.prog 63 #[p0, p1] w fun e w' => e = .returned (.bool t) ∧ Below w.heap.size w w') (p0 : Value) (p1 : Value) (w : World) (r0 : PT w p0 l) (r1 : PT w p1 m) :
  Calls Tryz.prog 17 #[p0, p1] w fun e w' => e = .returned (.bool t) ∧ Below w.heap.size w w' := by
 obtain ⟨a0, n0, c0, rfl, -⟩ := pt_form r0
 have f0 := Lib.hid r0
 clear r0
 obtain ⟨a1, n1, c1, rfl, -⟩ := pt_form r1
 have f1 := Lib.hid r1
 clear r1
 replace H1 := Lib.hid H1
 replace H2 := Lib.hid H2
 replace HE := Lib.hid HE
 have hL0 : GL w w [] := GL.start w
 have hT : PTs w [] := PTs.nil w
 go_enter Tryz.func17, Tryz.ntmps17
 go_wp2_with fail
 with_reducible refine Calls.mono (H1.out (.slice a0 n0 c0) _ (PT.below f0.out hL0.bl)) ?_
 rintro e x1 ⟨v0, rfl, q0, hb⟩
 replace hL0 := hL0.call hb
 replace hT := hT.call hb
 clear hb
 obtain ⟨g1, d1, g1c, rfl, -⟩ := pt_form q0
 replace hT := hT.cons q0
 clear q0
 go_wp2_with fail
 with_reducible refine Calls.mono (H2.out (.slice a1 n1 c1) _ (PT.below f1.out hL0.bl)) ?_
 rintro e x2 ⟨v0, rfl, q0, hb⟩
 replace hL0 := hL0.call hb
 replace hT := hT.call hb
 clear hb
 obtain ⟨g2, d2, g2c, rfl, -⟩ := pt_form q0
 replace hT := hT.cons q0
 clear q0
 go_wp2_with fail
 with_reducible refine Calls.mono (HE.out (.slice g1 d1 g1c) (.slice g2 d2 g2c) _ (hT.get (mK mZ)) (hT.get mZ)) ?_
 rintro e x3 ⟨rfl, hb⟩
 replace hL0 := hL0.call hb
 replace hT := hT.call hb
 clear hb
 go_wp2_with fail
 exact bodyPost_ret (v := .bool t) (by simp [results, Tryz.results17, go_sem]) rfl ⟨rfl, hL0.bl⟩
theorem pmul_w (l m r : List TI) (d f s : Int) (H1 : ∀ (p0 : Value) (w : World), PT w p0 l → Calls Tryz.prog 15 #[p0] w fun e w' => e = .returned (.int .i64 d) ∧ Below w.heap.size w w') (H2 : ∀ (p0 : Value) (w : World), PT w p0 m → Calls Tryz.prog 15 #[p0] w fun e w' => e = .returned (.int .i64 f) ∧ Below w.heap.size w w') (HP : ∀ (p0 p1 : Value) (w : World), PT w p0 l → PT w p1 m → Calls Tryz.prog 66 #[p0, p1] w fun e w' => ∃ pv, e = .returned pv ∧ PT w' pv r ∧ Below w.heap.size w w') (e1 : IntKind.i64.wrap (d + f) = s) (e2 : wrap64 (d + f) = s) (e3 : ¬ 12 < s) (p0 : Value) (p1 : Value) (w : World) (r0 : PT w p0 l) (r1 : PT w p1 m) :
  Calls Tryz.prog 23 #[p0, p1] w fun e w' => ∃ pv, e = .returned (.tuple #[pv, .int .i64 0]) ∧ PT w' pv r ∧ Below w.heap.size w w' := by
 obtain ⟨a0, n0, c0, rfl, -⟩ := pt_form r0
 have f0 := Lib.hid r0
 clear r0
 obtain ⟨a1, n1, c1, rfl, -⟩ := pt_form r1
 have f1 := Lib.hid r1
 clear r1
 replace H1 := Lib.hid H1
 replace H2 := Lib.hid H2
 replace HP := Lib.hid HP
 have hL0 : GL w w [] := GL.start w
 have hT : PTs w [] := PTs.nil w
 go_enter Tryz.func23, Tryz.ntmps23
 go_wp2_with fail
 with_reducible refine Calls.mono (H1.out (.slice a0 n0 c0) _ (PT.below f0.out hL0.bl)) ?_
 rintro e x1 ⟨rfl, hb⟩
 replace hL0 := hL0.call hb
 replace hT := hT.call hb
 clear hb
 go_wp2_with fail
 with_reducible refine Calls.mono (H2.out (.slice a1 n1 c1) _ (PT.below f1.out hL0.bl)) ?_
 rintro e x2 ⟨rfl, hb⟩
 replace hL0 := hL0.call hb
 replace hT := hT.call hb
 clear hb
 go_wp2_with fail
 with_reducible refine Calls.mono (HP.out (.slice a0 n0 c0) (.slice a1 n1 c1) _ (PT.below f0.out hL0.bl) (PT.below f1.out hL0.bl)) ?_
 rintro e x3 ⟨v0, rfl, q0, hb⟩
 replace hL0 := hL0.call hb
 replace hT := hT.call hb
 clear hb
 obtain ⟨g1, d1, g1c, rfl, -⟩ := pt_form q0
 replace hT := hT.cons q0
 clear q0
 go_wp2_with fail
 exact bodyPost_ret (v := .tuple #[.slice g1 d1 g1c, .int .i64 0]) (by simp [results, Tryz.results23, go_sem]) rfl ⟨_, rfl, (hT.get mZ), hL0.bl⟩
theorem pmulo_w (l m : List TI) (d f s : Int) (H1 : ∀ (p0 : Value) (w : World), PT w p0 l → Calls Tryz.prog 15 #[p0] w fun e w' => e = .returned (.int .i64 d) ∧ Below w.heap.size w w') (H2 : ∀ (p0 : Value) (w : World), PT w p0 m → Calls Tryz.prog 15 #[p0] w fun e w' => e = .returned (.int .i64 f) ∧ Below w.heap.size w w') (e1 : IntKind.i64.wrap (d + f) = s) (e2 : wrap64 (d + f) = s) (e3 : 12 < s) (p0 : Value) (p1 : Value) (w : World) (r0 : PT w p0 l) (r1 : PT w p1 m) :
  Calls Tryz.prog 23 #[p0, p1] w fun e w' => ∃ pv, e = .returned (.tuple #[pv, .int .i64 9]) ∧ PT w' pv ([]) ∧ Below w.heap.size w w' := by
 obtain ⟨a0, n0, c0, rfl, -⟩ := pt_form r0
 have f0 := Lib.hid r0
 clear r0
 obtain ⟨a1, n1, c1, rfl, -⟩ := pt_form r1
 have f1 := Lib.hid r1
 clear r1
 replace H1 := Lib.hid H1
 replace H2 := Lib.hid H2
 have hL0 : GL w w [] := GL.start w
 have hT : PTs w [] := PTs.nil w
 go_enter Tryz.func23, Tryz.ntmps23
 go_wp2_with fail
 with_reducible refine Calls.mono (H1.out (.slice a0 n0 c0) _ (PT.below f0.out hL0.bl)) ?_
 rintro e x1 ⟨rfl, hb⟩
 replace hL0 := hL0.call hb
 replace hT := hT.call hb
 clear hb
 go_wp2_with fail
 with_reducible refine Calls.mono (H2.out (.slice a1 n1 c1) _ (PT.below f1.out hL0.bl)) ?_
 rintro e x2 ⟨rfl, hb⟩
 replace hL0 := hL0.call hb
 replace hT := hT.call hb
 clear hb
 go_wp2_with fail
 exact bodyPost_ret (v := .tuple #[.slice none 0 0, .int .i64 9]) (by simp [results, Tryz.results23, go_sem]) rfl ⟨_, rfl, (pt_nil _), hL0.bl⟩
theorem pterm_w (n i j : Int) (q : Rat) (HI : ∀ w, Calls Tryz.prog 35 #[.int .i64 n] w fun xe w' => xe = .returned (fracV q) ∧ Below w.heap.size w w') (w : World) :
  Calls Tryz.prog 43 #[.int .i64 n, .int .i64 i, .int .i64 j] w fun xe w' => xe = .returned (.agg #[.int .i64 i, .int .i64 j, .int .u64 ((zl q.num : Nat) : Int), .string (zh q.num), .bool (zs q.num), .int .u64 ((lo (fe q) : Nat) : Int), .string (hs (fe q))]) ∧ Below w.heap.size w w' := by
 have hL0 : GL w w [] := GL.start w
 replace HI := Lib.hid HI
 obtain ⟨x1, hweq, hL0⟩ := GL.named (hL0.new rfl [.int .i64 0, .int .i64 0, .int .u64 0, .string ⟨#[]⟩, .bool false, .int .u64 0, .string ⟨#[]⟩] 84)
 go_enter Tryz.func43, Tryz.ntmps43
 go_wp2_with fail
 with_reducible refine Calls.mono (HI.out _) ?_
 rintro e x2 ⟨rfl, hb⟩
 replace hL0 := hL0.call hb
 clear hb hweq
 have hA := hL0.fc
 simp only [zF, Nat.reduceAdd] at hA
 obtain ⟨x3, hput1, hP⟩ := GL.named (hL0.put 0 (w.heap.size) _ rfl [.int .i64 i, .int .i64 j, .int .u64 ((zl q.num : Nat) : Int), .string (zh q.num), .bool (zs q.num), .int .u64 ((lo (fe q) : Nat) : Int), .string (hs (fe q))] rfl)
 simp only [setAll] at hput1
 simp only [List.set_cons_zero, List.set_cons_succ] at hP
 have hB1 := hP.fc
 simp only [zF, Nat.reduceAdd] at hB1
 replace hL0 := hP
 go_wp2_with fail
 exact bodyPost_ret (v := .agg #[.int .i64 i, .int .i64 j, .int .u64 ((zl q.num : Nat) : Int), .string (zh q.num), .bool (zs q.num), .int .u64 ((lo (fe q) : Nat) : Int), .string (hs (fe q))]) (by simp [results, Tryz.results43, go_sem, hB1]) rfl ⟨rfl, hL0.bl⟩
theorem plin_w (a b c : Rat) (r : List TI)
  (HS : ∀ (p0 : Value) (w : World), PT w p0 [(1, 0, a), (0, 1, b), (0, 0, c)] → Calls Tryz.prog 49 #[p0] w fun e w' => ∃ pv, e = .returned pv ∧ PT w' pv r ∧ Below w.heap.size w w') (w : World) :
  Calls Tryz.prog 81 #[fracV a, fracV b, fracV c] w fun e w' => ∃ pv, e = .returned pv ∧ PT w' pv r ∧ Below w.heap.size w w' := by
 replace HS := Lib.hid HS
 have hL0 : GL w w [] := GL.start w
 obtain ⟨x1, hweq, hL0⟩ := GL.named (((hL0.new rfl [.int .u64 ((zl a.num : Nat) : Int), .string (zh a.num), .bool (zs a.num), .int .u64 ((lo (fe a) : Nat) : Int), .string (hs (fe a))] 47).new (K := w.heap.size + 1) (szA _ _) [.int .u64 ((zl b.num : Nat) : Int), .string (zh b.num), .bool (zs b.num), .int .u64 ((lo (fe b) : Nat) : Int), .string (hs (fe b))] 47).new (K := w.heap.size + 1 + 1) (by simp only [World.size_alloc]) [.int .u64 ((zl c.num : Nat) : Int), .string (zh c.num), .bool (zs c.num), .int .u64 ((lo (fe c) : Nat) : Int), .string (hs (fe c))] 47)
 have hN0 := cells_of _ 0 [] rfl (hL0.get _ _ mZ)
 simp only [zF, Nat.reduceAdd] at hN0
 have hN1 := cells_of _ 0 [] rfl (hL0.get _ _ (mK mZ))
 simp only [zF, Nat.reduceAdd] at hN1
 have hN2 := cells_of _ 0 [] rfl (hL0.get _ _ (mK (mK mZ)))
 simp only [zF, Nat.reduceAdd] at hN2
 have hL1 := hL0.new rfl [.int .i64 1, .int .i64 0, .int .u64 ((zl a.num : Nat) : Int), .string (zh a.num), .bool (zs a.num), .int .u64 ((lo (fe a) : Nat) : Int), .string (hs (fe a)), .int .i64 0, .int .i64 1, .int .u64 ((zl b.num : Nat) : Int), .string (zh b.num), .bool (zs b.num), .int .u64 ((lo (fe b) : Nat) : Int), .string (hs (fe b)), .int .i64 0, .int .i64 0, .int .u64 ((zl c.num : Nat) : Int), .string (zh c.num), .bool (zs c.num), .int .u64 ((lo (fe c) : Nat) : Int), .string (hs (fe c))] 84
 generalize hweq2 : x1.alloc (.cells #[.int .i64 1, .int .i64 0, .int .u64 ((zl a.num : Nat) : Int), .string (zh a.num), .bool (zs a.num), .int .u64 ((lo (fe a) : Nat) : Int), .string (hs (fe a)), .int .i64 0, .int .i64 1, .int .u64 ((zl b.num : Nat) : Int), .string (zh b.num), .bool (zs b.num), .int .u64 ((lo (fe b) : Nat) : Int), .string (hs (fe b)), .int .i64 0, .int .i64 0, .int .u64 ((zl c.num : Nat) : Int), .string (zh c.num), .bool (zs c.num), .int .u64 ((lo (fe c) : Nat) : Int), .string (hs (fe c))] 84) = x2 at hL1
 have hp : PT x2 (.slice (some ⟨x1.heap.size, 0, none⟩) 3 3) [(1, 0, a), (0, 1, b), (0, 0, c)] := pt_of_hd (hL1.get _ _ mZ) rfl
 have hS1 := Lib.hid (HS.out _ x2 hp)
 clear hp
 go_enter Tryz.func81, Tryz.ntmps81
 go_wp2_with (go_at_call 49; with_reducible refine Calls.mono hS1.out ?_; rintro e x3 ⟨v, rfl, hp3, hb3⟩; replace hp3 := Lib.hid hp3; replace hb3 := Lib.hid hb3)
 go_ret
 exact ⟨_, rfl, hp3.out, hL1.bl.trans (hb3.out.mono hL1.bl.size)⟩
theorem pscale_w (l r : List TI) (c : Rat) (ao : Option Addr) (n cp : Nat)
  (HT : ∀ (bk : Nat) (w : World), Hd w bk [.int .u64 ((zl c.num : Nat) : Int), .string (zh c.num), .bool (zs c.num), .int .u64 ((lo (fe c) : Nat) : Int), .string (hs (fe c))] → PT w (.slice ao n cp) l → Calls Tryz.prog 77 #[.slice ao n cp, .func (.func 88) #[] #[.pointer (some ⟨bk, 0, none⟩)]] w fun e w' => ∃ pv, e = .returned pv ∧ PT w' pv r ∧ Below w.heap.size w w') (w : World) (hq : PT w (.slice ao n cp) l) :
  Calls Tryz.prog 39 #[.slice ao n cp, fracV c] w fun e w' => ∃ pv, e = .returned pv ∧ PT w' pv r ∧ Below w.heap.size w w' := by
 replace HT := Lib.hid HT
 replace hq := Lib.hid hq
 have hL0 : GL w w [] := GL.start w
 obtain ⟨x1, hweq, hL0⟩ := GL.named (hL0.new rfl [.int .u64 ((zl c.num : Nat) : Int), .string (zh c.num), .bool (zs c.num), .int .u64 ((lo (fe c) : Nat) : Int), .string (hs (fe c))] 47)
 have hT1 := Lib.hid (HT.out w.heap.size x1 (hL0.get _ _ mZ) (hq.out.below hL0.bl))
 go_enter Tryz.func39, Tryz.ntmps39
 go_wp2_with (go_at_call 77; with_reducible refine Calls.mono hT1.out ?_; rintro e x3 ⟨v, rfl, hp3, hb3⟩; replace hp3 := Lib.hid hp3; replace hb3 := Lib.hid hb3)
 go_ret
 exact ⟨_, rfl, hp3.out, hL0.bl.trans (hb3.out.mono hL0.bl.size)⟩
end Go.Proofs.YtkpghlnegbimdaaGreatDoor
namespace Go.Proofs.YtkpghlnegbimdaaGreatDoor
open Go.RowKit
attribute [local irreducible] lo hs sm s64 c64 d64 b64 mh ml pd pc qd qc val hiB str cmpI srD lz nb zl zh zs fe klT ordZ
/-- A normal form of degree d at most, of size K. -/
structure GP (p : TL) (d K : Nat) : Prop where
 nf : NF p
 tb : TB p d
 sz : SzL p K
theorem TB.mono {p : TL} {d e : Nat} (h : TB p d) (hd : d ≤ e) : TB p e := fun t ht => Nat.le_trans (h t ht) hd
theorem GP.mono {p : TL} {d K e M : Nat} (h : GP p d K) (hd : d ≤ e) (hK : K ≤ M) : GP p e M := ⟨h.nf, h.tb.mono hd, h.sz.mono hK⟩
theorem nf_len {p : TL} (hp : NF p) (hb : TB p 12) : p.length ≤ 169 := by
 have h1 : (p.map fun t => t.1 * 13 + t.2.1).Nodup := by
  refine List.pairwise_map.2 (hp.up.imp_of_mem ?_)
  intro s t hs ht hlt e
  have e1 := hb s hs
  have e2 := hb t ht
  have h3 : s.1 = t.1 := by omega
  have h4 : s.2.1 = t.2.1 := by omega
  exact KLt.irrefl (key t) (by have : key s = key t := Prod.ext h3 h4; rwa [this] at hlt)
 have h2 : (p.map fun t => t.1 * 13 + t.2.1) ⊆ List.range 169 := by
  intro x hx
  obtain ⟨t, ht, rfl⟩ := List.mem_map.1 hx
  have e1 := hb t ht
  exact List.mem_range.2 (by omega)
 have := h1.length_le_of_subset h2
 rwa [List.length_map, List.length_range] at this
theorem nf_len91 {p : TL} (hp : NF p) (hb : TB p 12) : p.length ≤ 91 := by
 have h1 : (p.map fun t => (t.1 + t.2.1) * (t.1 + t.2.1 + 1) / 2 + t.2.1).Nodup := by
  refine List.pairwise_map.2 (hp.up.imp_of_mem ?_)
  intro s t hs ht hlt e
  have e1 := hb s hs
  have e2 := hb t ht
  have h3 : s.1 = t.1 ∧ s.2.1 = t.2.1 := by
   have key : ∀ a, a < 13 → ∀ b, b < 13 → ∀ c, c < 13 → ∀ d, d < 13 → c ≤ a → d ≤ b → a * (a + 1) / 2 + c = b * (b + 1) / 2 + d → a = b ∧ c = d := by
    intro a ha b hb2 c hc d hd h1 h2 h3
    rcases Nat.lt_trichotomy a b with h | h | h
    ·exfalso
     have h4 : a * (a + 1) / 2 + a + 1 ≤ b * (b + 1) / 2 := by
      have : (a + 1) * (a + 2) ≤ b * (b + 1) := Nat.mul_le_mul (by omega) (by omega)
      have e : (a + 1) * (a + 2) = a * (a + 1) + 2 * (a + 1) := by rw [Nat.mul_comm (a + 1) (a + 2), Nat.add_mul]
      omega
     omega
    ·subst h; omega
    ·exfalso
     have h4 : b * (b + 1) / 2 + b + 1 ≤ a * (a + 1) / 2 := by
      have : (b + 1) * (b + 2) ≤ a * (a + 1) := Nat.mul_le_mul (by omega) (by omega)
      have e : (b + 1) * (b + 2) = b * (b + 1) + 2 * (b + 1) := by rw [Nat.mul_comm (b + 1) (b + 2), Nat.add_mul]
      omega
     omega
   have := key (s.1 + s.2.1) (by omega) (t.1 + t.2.1) (by omega) s.2.1 (by omega) t.2.1 (by omega) (by omega) (by omega) e
   omega
  exact KLt.irrefl (key t) (by have : key s = key t := Prod.ext h3.1 h3.2; rwa [this] at hlt)
 have h2 : (p.map fun t => (t.1 + t.2.1) * (t.1 + t.2.1 + 1) / 2 + t.2.1) ⊆ List.range 91 := by
  intro x hx
  obtain ⟨t, ht, rfl⟩ := List.mem_map.1 hx
  have e1 := hb t ht
  have h3 : (t.1 + t.2.1) * (t.1 + t.2.1 + 1) ≤ 12 * 13 := Nat.mul_le_mul e1 (by omega)
  refine List.mem_range.2 ?_
  rcases Nat.lt_or_ge (t.1 + t.2.1) 12 with h | h
  ·have h4 : (t.1 + t.2.1) * (t.1 + t.2.1 + 1) ≤ 11 * 12 := Nat.mul_le_mul (by omega) (by omega)
   omega
  ·omega
 have := h1.length_le_of_subset h2
 rwa [List.length_map, List.length_range] at this
theorem GP.len {p : TL} {d K : Nat} (h : GP p d K) (hd : d ≤ 12) : p.length ≤ 169 := nf_len h.nf (h.tb.mono hd)
theorem GP.nrm {p : TL} {d K : Nat} (h : GP p d K) (hd : d ≤ 12) : nrm (ofL p) = p := nrm_ofL h.nf (h.tb.mono hd)
theorem GP.szo {p : TL} {d K : Nat} (h : GP p d K) : VdL (ofL p) → SzL (toL (ofL p)) K := fun _ => by rw [toL_ofL]; exact h.sz
def addN (p q : TL) : TL := nfL (p ++ q)
def scaleN (c : Rat) (p : TL) : TL := nfL (scaleL c p)
def mulN (p q : TL) : TL := nfL (prodL p q)
def dxN (p : TL) : TL := nfL (dxL p)
def dyN (p : TL) : TL := nfL (dyL p)
def linN (a b c : Rat) : TL := nfL (linL a b c)
theorem GP.nil : GP [] 0 1 := ⟨NF.nil, fun t h => (by cases h), SzL.nil 1 (by omega)⟩
theorem GP.add {p q : TL} {d K e M : Nat} (h : GP p d K) (g : GP q e M) : GP (addN p q) (max d e) (K + M + 1) :=
 ⟨nfL_nf _, tb_nfL fun t ht => by
  rcases List.mem_append.1 ht with ht | ht
  ·exact Nat.le_trans (h.tb t ht) (Nat.le_max_left _ _)
  ·exact Nat.le_trans (g.tb t ht) (Nat.le_max_right _ _), (h.sz.append g.sz).nf⟩
theorem GP.scale {p : TL} {d K k : Nat} {c : Rat} (h : GP p d K) (hc : Sz c k) : GP (scaleN c p) d (k + K) :=
 ⟨nfL_nf _, tb_nfL fun t ht => by
  obtain ⟨u, hu, rfl⟩ := List.mem_map.1 ht
  exact h.tb u hu, (SzL.scale hc h.sz).nf⟩
theorem GP.mul {p q : TL} {d K e M : Nat} (h : GP p d K) (g : GP q e M) : GP (mulN p q) (d + e) (K + M) := ⟨nfL_nf _, tb_nfL (tb_prod h.tb g.tb), (h.sz.prod g.sz).nf⟩
theorem SzL.dx {p : TL} {d K : Nat} (h : SzL p K) (hb : TB p d) (hd : d ≤ 12) : SzL (dxL p) (K + 1) := by
 unfold dxL
 refine SzL.map 12 (by unfold Bs; omega) (fun t ht => ⟨t.1, ?_, rfl⟩) h
 have := hb t ht; omega
theorem SzL.dy {p : TL} {d K : Nat} (h : SzL p K) (hb : TB p d) (hd : d ≤ 12) : SzL (dyL p) (K + 1) := by
 unfold dyL
 refine SzL.map 12 (by unfold Bs; omega) (fun t ht => ⟨t.2.1, ?_, rfl⟩) h
 have := hb t ht; omega
theorem tb_dx {p : TL} {d : Nat} (h : TB p d) : TB (dxL p) d := fun t ht => by
 obtain ⟨u, hu, rfl⟩ := List.mem_map.1 ht
 have := h u hu
 show u.1 - 1 + u.2.1 ≤ d
 omega
theorem tb_dy {p : TL} {d : Nat} (h : TB p d) : TB (dyL p) d := fun t ht => by
 obtain ⟨u, hu, rfl⟩ := List.mem_map.1 ht
 have := h u hu
 show u.1 + (u.2.1 - 1) ≤ d
 omega
theorem GP.dx {p : TL} {d K : Nat} (h : GP p d K) (hd : d ≤ 12) : GP (dxN p) d (K + 1) := ⟨nfL_nf _, tb_nfL (tb_dx h.tb), (h.sz.dx h.tb hd).nf⟩
theorem GP.dy {p : TL} {d K : Nat} (h : GP p d K) (hd : d ≤ 12) : GP (dyN p) d (K + 1) := ⟨nfL_nf _, tb_nfL (tb_dy h.tb), (h.sz.dy h.tb hd).nf⟩
theorem GP.lin {a b c : Rat} {k : Nat} (ha : Sz a k) (hb : Sz b k) (hc : Sz c k) : GP (linN a b c) 1 (3 * k + 2) :=
 ⟨nfL_nf _, tb_nfL (tb_lin a b c), ((SzL.cons ha (SzL.cons hb (SzL.one hc))).mono (by omega)).nf⟩
section
variable {p q : TL} {d K e M : Nat} {w : World} {v u : Value}
theorem normG (h : GP p d K) (hd : d ≤ 12) (hK : K ≤ 1000000) (w : World) (v : Value) (hv : PT w v (ofL p)) : Calls Tryz.prog 52 #[v] w fun xe w' => ∃ v', xe = .returned v' ∧ PT w' v' (ofL p) ∧ Below w.heap.size w w' :=
 normN p h.nf (h.tb.mono hd) K h.sz hK (by have := h.len hd; omega) w v hv
theorem degG (h : GP p d K) (hd : d ≤ 12) (hK : K ≤ 1000000) (w : World) (v : Value) (hv : PT w v (ofL p)) : Calls Tryz.prog 15 #[v] w fun xe w' => xe = .returned (.int .i64 (degI p)) ∧ Below w.heap.size w w' := by
 have := degP (ofL p) K h.szo hK (by rw [ofL_length]; have := h.len hd; omega) w v hv
 rwa [h.nrm hd] at this
theorem coefG (h : GP p d K) (hd : d ≤ 12) (hK : K ≤ 1000000) (i j : Int) (w : World) (v : Value) (hv : PT w v (ofL p)) : Calls Tryz.prog 20 #[v, .int .i64 i, .int .i64 j] w fun xe w' => xe = .returned (fracV (coefZ p i j)) ∧ Below w.heap.size w w' := by
 have := coefP (ofL p) i j K h.szo hK (by rw [ofL_length]; have := h.len hd; omega) w v hv
 rwa [h.nrm hd] at this
theorem addG (h : GP p d K) (g : GP q e M) (hd : d ≤ 12) (he : e ≤ 12) (hK : K + M ≤ 100000) (w : World) (v u : Value) (hv : PT w v (ofL p)) (hu : PT w u (ofL q)) : Calls Tryz.prog 24 #[v, u] w fun xe w' => ∃ v', xe = .returned v' ∧ PT w' v' (ofL (addN p q)) ∧ Below w.heap.size w w' := by
 have l1 := h.len hd
 have l2 := g.len he
 have := addP (ofL p) (ofL q) (K + M) (h.mono (Nat.le_refl _) (by omega)).szo (g.mono (Nat.le_refl _) (by omega)).szo hK (by rw [ofL_length]; omega) (by rw [ofL_length]; omega) (by rw [h.nrm hd, g.nrm he]; omega) w v u hv hu
 rwa [h.nrm hd, g.nrm he] at this
theorem sameG (h : GP p d K) (g : GP q e M) (hd : d ≤ 12) (he : e ≤ 12) (hK : K ≤ 1000000) (hM : M ≤ 1000000) (w : World) (v u : Value) (hv : PT w v (ofL p)) (hu : PT w u (ofL q)) : Calls Tryz.prog 17 #[v, u] w fun xe w' => xe = .returned (.bool (decide (p = q))) ∧ Below w.heap.size w w' := by
 have hi : (decide (ofL p = ofL q)) = decide (p = q) := by
  by_cases e : p = q
  ·subst e; simp
  ·rw [decide_eq_false e, decide_eq_false]
   intro e2
   have := congrArg toL e2
   rw [toL_ofL, toL_ofL] at this
   exact e this
 have l1 := h.len hd
 exact psame_w (ofL p) (ofL q) (ofL p) (ofL q) (decide (p = q)) (fun a w ha => normG h hd hK w a ha) (fun a w ha => normG g he hM w a ha) (fun a b w ha hb => by rw [← hi]; exact equalP _ _ (by rw [ofL_length]; omega) w a b ha hb) v u w hv hu
theorem map_dx (hb : TB p 12) : (ofL p).map (fun t : TI => (max (t.1 - 1) 0, t.2.1, (t.1 : Rat) * t.2.2)) = ofL (dxL p) := by
 unfold ofL dxL
 rw [List.map_map, List.map_map]
 refine List.map_congr_left fun t ht => ?_
 simp only [Function.comp_apply, ofT]
 refine Prod.ext ?_ (Prod.ext rfl ?_)
 ·simp only; omega
 ·simp only; rfl
theorem map_dy (hb : TB p 12) : (ofL p).map (fun t : TI => (t.1, max (t.2.1 - 1) 0, (t.2.1 : Rat) * t.2.2)) = ofL (dyL p) := by
 unfold ofL dyL
 rw [List.map_map, List.map_map]
 refine List.map_congr_left fun t ht => ?_
 simp only [Function.comp_apply, ofT]
 refine Prod.ext rfl (Prod.ext ?_ ?_)
 ·simp only; omega
 ·simp only; rfl
theorem szI {i : Int} (h0 : 0 ≤ i) (h1 : i ≤ 12) : Sz (i : Rat) 1 := Sz.int (dI_small (by unfold Bs; omega)) (by omega)
theorem timesG {i : Int} {c : Rat} {k : Nat} (h0 : 0 ≤ i) (h1 : i ≤ 12) (hc : Sz c k) (hk : k ≤ 1000000) (w : World) : Calls Tryz.prog 79 #[.int .i64 i, fracV c] w fun xe w' => xe = .returned (fracV ((i : Rat) * c)) ∧ Below w.heap.size w w' :=
 ptimes_w i c (i : Rat) _ (fun w => intF i (by omega) (by omega) w) (fun w => mulF _ _ (k + 1) ((szI h0 h1).mono (by omega)) (hc.mono (by omega)) (by omega) w) w
theorem memo {t : TI} (ht : t ∈ ofL p) : ∃ s ∈ p, t = ofT s := by
 obtain ⟨s, hs, rfl⟩ := List.mem_map.1 ht
 exact ⟨s, hs, rfl⟩
theorem dxG (h : GP p d K) (hd : d ≤ 12) (hK : K ≤ 100000) (w : World) (v : Value) (hv : PT w v (ofL p)) : Calls Tryz.prog 32 #[v] w fun xe w' => ∃ v', xe = .returned v' ∧ PT w' v' (ofL (dxN p)) ∧ Below w.heap.size w w' := by
 have hl := h.len hd
 refine pdx_w (ofL p) (ofL (dxN p)) (fun a w ha => ?_) v w hv
 obtain ⟨ao, n, c, rfl, hn⟩ := pt_form ha
 refine ptrans_w (ofL p) p (ofL (dxN p)) (fun t : TI => (max (t.1 - 1) 0, t.2.1, (t.1 : Rat) * t.2.2)) 78 ao n c (by omega) (fun _ => True) (fun _ _ _ _ => trivial) (enters_of Tryz.func78 (by kernel_rfl) rfl) (fun w hq => normG h hd (by omega) w _ hq) (fun t ht w _ => ?_) (fun v w hv => ?_) w ha trivial
 ·obtain ⟨s, hs, rfl⟩ := memo ht
  have hb := h.tb s hs
  exact pdx1_w _ _ ((s.1 : Int) - 1) _ _ _ (fun w => timesG (by simp only [ofT]; omega) (by simp only [ofT]; omega) (h.sz.mem hs) (by omega) w) (by simp [IntKind.wrap, IntKind.bits, IntKind.signed, ofT]; omega) (by simp [wrap64, ofT]; omega) rfl w
 ·rw [map_dx (h.tb.mono hd)] at hv
  have := sumP (ofL (dxL p)) (K + 1) (vd_ofL.2 (tb_dx (h.tb.mono hd))) (by rw [toL_ofL]; exact h.sz.dx h.tb hd) (by omega) (by rw [ofL_length]; unfold dxL; rw [List.length_map]; omega) w v hv
  rwa [toL_ofL] at this
theorem dyG (h : GP p d K) (hd : d ≤ 12) (hK : K ≤ 100000) (w : World) (v : Value) (hv : PT w v (ofL p)) : Calls Tryz.prog 33 #[v] w fun xe w' => ∃ v', xe = .returned v' ∧ PT w' v' (ofL (dyN p)) ∧ Below w.heap.size w w' := by
 have hl := h.len hd
 refine pdy_w (ofL p) (ofL (dyN p)) (fun a w ha => ?_) v w hv
 obtain ⟨ao, n, c, rfl, hn⟩ := pt_form ha
 refine ptrans_w (ofL p) p (ofL (dyN p)) (fun t : TI => (t.1, max (t.2.1 - 1) 0, (t.2.1 : Rat) * t.2.2)) 80 ao n c (by omega) (fun _ => True) (fun _ _ _ _ => trivial) (enters_of Tryz.func80 (by kernel_rfl) rfl) (fun w hq => normG h hd (by omega) w _ hq) (fun t ht w _ => ?_) (fun v w hv => ?_) w ha trivial
 ·obtain ⟨s, hs, rfl⟩ := memo ht
  have hb := h.tb s hs
  exact pdy1_w _ _ ((s.2.1 : Int) - 1) _ _ _ (fun w => timesG (by simp only [ofT]; omega) (by simp only [ofT]; omega) (h.sz.mem hs) (by omega) w) (by simp [IntKind.wrap, IntKind.bits, IntKind.signed, ofT]; omega) (by simp [wrap64, ofT]; omega) rfl w
 ·rw [map_dy (h.tb.mono hd)] at hv
  have := sumP (ofL (dyL p)) (K + 1) (vd_ofL.2 (tb_dy (h.tb.mono hd))) (by rw [toL_ofL]; exact h.sz.dy h.tb hd) (by omega) (by rw [ofL_length]; unfold dyL; rw [List.length_map]; omega) w v hv
  rwa [toL_ofL] at this
theorem scaleG (h : GP p d K) (hd : d ≤ 12) {c : Rat} {k : Nat} (hc : Sz c k) (hK : K + k ≤ 100000) (w : World) (v : Value) (hv : PT w v (ofL p)) : Calls Tryz.prog 39 #[v, fracV c] w fun xe w' => ∃ v', xe = .returned v' ∧ PT w' v' (ofL (scaleN c p)) ∧ Below w.heap.size w w' := by
 have hl := h.len hd
 obtain ⟨ao, n, cp, rfl, hn⟩ := pt_form hv
 refine pscale_w (ofL p) (ofL (scaleN c p)) c ao n cp (fun bk w hbk ha => ?_) w hv
 have hkk : Keeps (fun w : World => Hd w bk (frC c)) := fun _ _ hb h => h.below hb
 refine ptransc_w (ofL p) p (ofL (scaleN c p)) (fun t : TI => (t.1, t.2.1, c * t.2.2)) 88 bk ao n cp (by omega) (fun w => Hd w bk (frC c)) hkk (enters_of Tryz.func88 (by kernel_rfl) rfl) (fun w hq => normG h hd (by omega) w _ hq) (fun t ht w hk => ?_) (fun v w hv => ?_) w ha hbk
 ·obtain ⟨s, hs, rfl⟩ := memo ht
  exact pscale1_w _ _ _ c _ bk (fun w => mulF _ _ (K + k) (hc.mono (by omega)) ((h.sz.mem hs).mono (by omega)) (by omega) w) w hk
 ·have e : (ofL p).map (fun t : TI => (t.1, t.2.1, c * t.2.2)) = ofL (scaleL c p) := by
   unfold ofL scaleL
   rw [List.map_map, List.map_map]
   rfl
  rw [e] at hv
  have := sumP (ofL (scaleL c p)) (k + K) (vd_ofL.2 (fun t ht => by
   obtain ⟨u, hu, rfl⟩ := List.mem_map.1 ht
   exact Nat.le_trans (h.tb u hu) hd)) (by rw [toL_ofL]; exact SzL.scale hc h.sz) (by omega) (by rw [ofL_length]; unfold scaleL; rw [List.length_map]; omega) w v hv
  rwa [toL_ofL] at this
theorem sz_m1 : Sz (-1) 1 := Sz.neg (Sz.int (z := 1) (dI_small (by unfold Bs; omega)) (by omega))
theorem negG (h : GP p d K) (hd : d ≤ 12) (hK : K ≤ 90000) (w : World) (v : Value) (hv : PT w v (ofL p)) : Calls Tryz.prog 30 #[v] w fun xe w' => ∃ v', xe = .returned v' ∧ PT w' v' (ofL (scaleN (-1) p)) ∧ Below w.heap.size w w' :=
 pneg_w (ofL p) (ofL (scaleN (-1) p)) (-1) (fun w => intF (-1) (by omega) (by omega) w) (fun a w ha => scaleG h hd sz_m1 (by omega) w a ha) v w hv
theorem subG (h : GP p d K) (g : GP q e M) (hd : d ≤ 12) (he : e ≤ 12) (hK : K + M ≤ 80000) (w : World) (v u : Value) (hv : PT w v (ofL p)) (hu : PT w u (ofL q)) : Calls Tryz.prog 25 #[v, u] w fun xe w' => ∃ v', xe = .returned v' ∧ PT w' v' (ofL (addN p (scaleN (-1) q))) ∧ Below w.heap.size w w' :=
 psub_w (ofL p) (ofL q) (ofL (scaleN (-1) q)) _ (fun a w ha => negG g he (by omega) w a ha) (fun a b w ha hb => addG h (g.scale sz_m1) hd he (by omega) w a b ha hb) v u w hv hu
theorem laplG (h : GP p d K) (hd : d ≤ 12) (hK : K ≤ 40000) (w : World) (v : Value) (hv : PT w v (ofL p)) : Calls Tryz.prog 36 #[v] w fun xe w' => ∃ v', xe = .returned v' ∧ PT w' v' (ofL (addN (dxN (dxN p)) (dyN (dyN p)))) ∧ Below w.heap.size w w' :=
 plap_w (ofL p) _ _ _ _ _ (fun a w ha => dxG h hd (by omega) w a ha) (fun a w ha => dxG (h.dx hd) hd (by omega) w a ha) (fun a w ha => dyG h hd (by omega) w a ha) (fun a w ha => dyG (h.dy hd) hd (by omega) w a ha) (fun a b w ha hb => addG ((h.dx hd).dx hd) ((h.dy hd).dy hd) hd hd (by omega) w a b ha hb) v w hv
theorem prodG (h : GP p d K) (g : GP q e M) (hde : d + e ≤ 12) (hK : K + M ≤ 100000) (w : World) (v u : Value) (hv : PT w v (ofL p)) (hu : PT w u (ofL q)) : Calls Tryz.prog 66 #[v, u] w fun xe w' => ∃ v', xe = .returned v' ∧ PT w' v' (ofL (mulN p q)) ∧ Below w.heap.size w w' := by
 have hl := h.len (by omega)
 have hm := g.len (by omega)
 obtain ⟨ao, n, c, rfl, hn⟩ := pt_form hv
 obtain ⟨bo, n2, c2, rfl, hn2⟩ := pt_form hu
 have hpl : p.length * q.length ≤ 10000 := by
  have h1 := nf_len91 h.nf (h.tb.mono (by omega : d ≤ 12))
  have h2 := nf_len91 g.nf (g.tb.mono (by omega : e ≤ 12))
  exact Nat.le_trans (Nat.mul_le_mul h1 h2) (by decide)
 refine pprod_w (ofL p) (ofL q) p q (ofL (mulN p q)) ao bo n c n2 c2 hpl (by omega) (by omega) (h.tb.mono (by omega)) (g.tb.mono (by omega)) (fun w hq => normG h (by omega) (by omega) w _ hq) (fun w hq => normG g (by omega) (by omega) w _ hq) (fun s hs t ht w => mulF _ _ (K + M) ((h.sz.mem hs).mono (by omega)) ((g.sz.mem ht).mono (by omega)) (by omega) w) (fun v w hv => ?_) w hv hu
 have := sumP (ofL (prodL p q)) (K + M) (vd_ofL.2 ((tb_prod h.tb g.tb).mono hde)) (by rw [toL_ofL]; exact h.sz.prod g.sz) (by omega) (by rw [ofL_length, prodL_len]; exact hpl) w v hv
 rwa [toL_ofL] at this
theorem mulG (h : GP p d K) (g : GP q e M) (hde : d + e ≤ 12) (hK : K + M ≤ 100000) (w : World) (v u : Value) (hv : PT w v (ofL p)) (hu : PT w u (ofL q)) : Calls Tryz.prog 23 #[v, u] w fun xe w' => ∃ v', xe = .returned (.tuple #[v', .int .i64 0]) ∧ PT w' v' (ofL (mulN p q)) ∧ Below w.heap.size w w' := by
 have a1 := degI_le h.tb
 have a2 := degI_le g.tb
 have b1 := degI_ge p
 have b2 := degI_ge q
 exact pmul_w (ofL p) (ofL q) (ofL (mulN p q)) (degI p) (degI q) (degI p + degI q) (fun a w ha => degG h (by omega) (by omega) w a ha) (fun a w ha => degG g (by omega) (by omega) w a ha) (fun a b w ha hb => prodG h g hde hK w a b ha hb) (by simp [IntKind.wrap, IntKind.bits, IntKind.signed]; omega) (by simp [wrap64]; omega) (by omega) v u w hv hu
theorem linG {a b c : Rat} {k : Nat} (ha : Sz a k) (hb : Sz b k) (hc : Sz c k) (hk : k ≤ 30000) (w : World) : Calls Tryz.prog 81 #[fracV a, fracV b, fracV c] w fun xe w' => ∃ v', xe = .returned v' ∧ PT w' v' (ofL (linN a b c)) ∧ Below w.heap.size w w' := by
 refine plin_w a b c (ofL (linN a b c)) (fun v w hv => ?_) w
 have e : ([(1, 0, a), (0, 1, b), (0, 0, c)] : List TI) = ofL (linL a b c) := rfl
 rw [e] at hv
 have := sumP (ofL (linL a b c)) (3 * k + 2) (vd_ofL.2 ((tb_lin a b c).mono (by omega))) (by rw [toL_ofL]; exact (SzL.cons ha (SzL.cons hb (SzL.one hc))).mono (by omega)) (by omega) (by rw [ofL_length]; unfold linL; simp) w v hv
 rwa [toL_ofL] at this
end
end Go.Proofs.YtkpghlnegbimdaaGreatDoor
namespace Go.Proofs.YtkpghlnegbimdaaGreatDoor
open Go.RowKit
attribute [local irreducible] lo hs sm s64 c64 d64 b64 mh ml pd pc qd qc val hiB str cmpI srD lz nb zl zh zs fe klT ordZ
theorem PTs.put {W W' : World} {S : List (Value × List TI)} (h : PTs W S) {k : Nat} {c : List Value} (hu : Upd k W W') (hd : Hd W k c) (hc : ∀ v ∈ c, ∀ n, v ≠ .int .i64 n) : PTs W' S := fun p hp => by
 rcases h p hp with h1 | ⟨g, cp, h1, h2⟩
 ·exact .inl h1
 ·rcases Nat.eq_zero_or_pos p.2.length with h0 | h0
  ·refine .inr ⟨g, cp, h1, fun i hi => absurd hi (by omega), Nat.lt_of_lt_of_le h2.lt (Nat.le_of_eq hu.size.symm)⟩
  ·have hne : g ≠ k := hd.no_int hc (h2.cell 0 h0).1
   refine .inr ⟨g, cp, h1, fun i hi => ?_, Nat.lt_of_lt_of_le h2.lt (Nat.le_of_eq hu.size.symm)⟩
   have e := fun o => World.cell?_of_block (w := W) (w' := W') (a := ⟨g, o, none⟩) (hu.block g hne)
   rw [e, e, e, e, e, e, e]
   exact h2.cell i hi
theorem new_pol (w : World) : (Instr.alloc 25 true (.tuple #[])).run Tryz.prog w = .ok (.pointer (some ⟨w.heap.size, 0, none⟩)) (w.alloc (.cells #[.slice none 0 0] 25)) := by
 simp [go_sem, Instr.alloc]
theorem ppow_w (l : List TI) (n : Nat) (Q : Nat → List TI) (dg s : Int) (u : Rat) (ao : Option Addr) (m c : Nat) (hn : n ≤ 12) (e1 : IntKind.i64.wrap ((n : Int) * dg) = s) (e2 : wrap64 ((n : Int) * dg) = s) (e3 : ¬ 12 < s)
  (HD : ∀ w : World, PT w (.slice ao m c) l → Calls Tryz.prog 15 #[.slice ao m c] w fun xe w' => xe = .returned (.int .i64 dg) ∧ Below w.heap.size w w')
  (HI : ∀ w : World, Calls Tryz.prog 35 #[.int .i64 1] w fun xe w' => xe = .returned (fracV u) ∧ Below w.heap.size w w')
  (HC : ∀ w : World, Calls Tryz.prog 34 #[fracV u] w fun xe w' => ∃ v, xe = .returned v ∧ PT w' v (Q 0) ∧ Below w.heap.size w w')
  (HP : ∀ k, k < n → ∀ (v : Value) (w : World), PT w v (Q k) → PT w (.slice ao m c) l → Calls Tryz.prog 66 #[v, .slice ao m c] w fun xe w' => ∃ v', xe = .returned v' ∧ PT w' v' (Q (k + 1)) ∧ Below w.heap.size w w')
  (w : World) (hq : PT w (.slice ao m c) l) :
  Calls Tryz.prog 40 #[.slice ao m c, .int .i64 (n : Int)] w fun xe w' => ∃ v, xe = .returned (.tuple #[v, .int .i64 0]) ∧ PT w' v (Q n) ∧ Below w.heap.size w w' := by
 replace HD := Lib.hid HD
 replace HI := Lib.hid HI
 replace HC := Lib.hid HC
 replace HP := Lib.hid HP
 replace hq := Lib.hid hq
 have k1 : ¬ (n : Int) < 0 := by omega
 have k2 : ¬ (12 : Int) < (n : Int) := by omega
 have k3 : ¬ 12 < n := by omega
 go_enter Tryz.func40, Tryz.ntmps40
 go_wp2_with (first | fail | (go_at_call 15; with_reducible refine Calls.mono (HD.out _ hq.out) ?_; rintro e y1 ⟨rfl, hb1⟩; replace hb1 := Lib.hid hb1) | (go_at_call 35; with_reducible refine Calls.mono (HI.out _) ?_; rintro e y2 ⟨rfl, hb2⟩; replace hb2 := Lib.hid hb2) | (go_at_call 34; with_reducible refine Calls.mono (HC.out _) ?_; rintro e y3 ⟨v3, rfl, hp3, hb3⟩; replace hb3 := Lib.hid hb3; replace hp3 := Lib.hid hp3))
 have hB0 := Lib.hid (hb1.out.trans ((hb2.out.trans (hb3.out.mono hb2.out.size)).mono hb1.out.size))
 clear hb1 hb2 hb3
 go_loopg [6, 21] n (fun gk sv iv wr => ∃ (k : Nat) (zi : Int) (vs : Value), k + gk = n ∧ vs = sv ∧ iv = .int .i64 zi ∧ zi = (k : Int) ∧ PT wr vs (Q k) ∧ Below w.heap.size w wr)
 case atStart => exact ⟨0, 0, _, Nat.zero_add n, rfl, by first | rfl | go_num, rfl, hp3.out, hB0.out⟩
 case round =>
  clear hp3 hB0
  obtain ⟨k, zi, vs, hik, rfl, rfl, hzi, hp, hB⟩ := hrel
  replace hp := Lib.hid hp
  rcases Nat.lt_or_ge k n with hin | hin
  ·subst hzi
   have k4 : (k : Int) < (n : Int) := by omega
   have hP1 := Lib.hid (HP.out k hin vs wr hp.out (hq.out.below hB))
   go_wp2_with fail
   with_reducible refine Calls.mono hP1.out ?_
   rintro e y2 ⟨v2, rfl, hp2, hb2⟩
   have hB2 := hB.trans (hb2.mono hB.size)
   replace hp2 := Lib.hid hp2
   clear hP1 hb2
   go_wp2_with fail
   go_roundg (gk - 1)
   case measure => omega
   case rel => exact ⟨k + 1, _, _, by omega, rfl, by first | rfl | go_num, by omega, hp2.out, hB2⟩
  ·obtain rfl : k = n := by omega
   subst hzi
   have k4 : ¬ (k : Int) < (k : Int) := by omega
   go_wp2_with fail
   exact bodyPost_ret (v := .tuple #[vs, .int .i64 0]) (by simp [results, Tryz.results40, go_sem]) rfl ⟨vs, rfl, hp.out, hB⟩
theorem phorn2_w (f : FuncId) (k0 k1 : Nat) (D : Nat) (d : Int) (um : List TI) (A Q C : Nat → List TI) (ao : Option Addr) (m c : Nat) (hD : D ≤ 13) (hd : d = (D : Int) - 1) (hQ : Q 0 = []) (K : World → Prop) (hK : Keeps K)
  (eg : ∀ args w, (callFunc f args).run Tryz.prog w = .ok (.enter f args) w)
  (HP : ∀ i, i < D → ∀ (v : Value) (w : World), PT w v (Q i) → PT w (.slice ao m c) um → Calls Tryz.prog 66 #[v, .slice ao m c] w fun xe w' => ∃ v', xe = .returned v' ∧ PT w' v' (A i) ∧ Below w.heap.size w w')
  (HC : ∀ i, i < D → ∀ (e : Int) (w : World), e = d - (i : Int) → K w → Calls Tryz.prog f #[.int .i64 e, .pointer (some ⟨k0, 0, none⟩), .pointer (some ⟨k1, 0, none⟩)] w fun xe w' => ∃ v', xe = .returned v' ∧ PT w' v' (C i) ∧ Below w.heap.size w w')
  (HA : ∀ i, i < D → ∀ (v u : Value) (w : World), PT w v (A i) → PT w u (C i) → Calls Tryz.prog 24 #[v, u] w fun xe w' => ∃ v', xe = .returned v' ∧ PT w' v' (Q (i + 1)) ∧ Below w.heap.size w w')
  (w : World) (hq : PT w (.slice ao m c) um) (kK : K w) :
  Calls Tryz.prog 83 #[.int .i64 d, .slice ao m c, .func (.func f) #[] #[.pointer (some ⟨k0, 0, none⟩), .pointer (some ⟨k1, 0, none⟩)]] w fun xe w' => ∃ v, xe = .returned v ∧ PT w' v (Q D) ∧ Below w.heap.size w w' := by
 replace HP := Lib.hid HP
 replace HC := Lib.hid HC
 replace HA := Lib.hid HA
 replace hq := Lib.hid hq
 replace kK := Lib.hid kK
 replace hK := Lib.hid hK
 replace hQ := Lib.hid hQ
 replace hd := Lib.hid hd
 have w1 : IntKind.i64.wrap (d + 1) = (D : Int) := by rw [hd.out]; simp [IntKind.wrap, IntKind.bits, IntKind.signed]; omega
 have w2 : wrap64 (d + 1) = (D : Int) := by rw [hd.out]; simp [wrap64]; omega
 go_enter Tryz.func83, Tryz.ntmps83
 go_wp2_with fail
 go_loopg [7, 11] D (fun gk sv iv wr => ∃ (k : Nat) (zi : Int) (vs : Value), k + gk = D ∧ vs = sv ∧ iv = .int .i64 zi ∧ zi = (k : Int) ∧ PT wr vs (Q k) ∧ Below w.heap.size w wr)
 case atStart => exact ⟨0, 0, _, Nat.zero_add D, rfl, by first | rfl | go_num, rfl, by rw [hQ.out]; exact pt_nil _, Below.refl _ _⟩
 case round =>
  obtain ⟨k, zi, vs, hik, rfl, rfl, hzi, hp, hB⟩ := hrel
  replace hp := Lib.hid hp
  rcases Nat.lt_or_ge k D with hin | hin
  ·subst hzi
   have k4 : (k : Int) < (D : Int) := by omega
   obtain ⟨e0, he0⟩ : ∃ e0, e0 = d - (k : Int) := ⟨_, rfl⟩
   have w3 : IntKind.i64.wrap (d - (k : Int)) = e0 := by rw [he0, hd.out]; simp [IntKind.wrap, IntKind.bits, IntKind.signed]; omega
   have w4 : wrap64 (d - (k : Int)) = e0 := by rw [he0, hd.out]; simp [wrap64]; omega
   have hP1 := Lib.hid (HP.out k hin vs wr hp.out (hq.out.below hB))
   replace he0 := Lib.hid he0
   go_wp2_with fail
   with_reducible refine Calls.mono hP1.out ?_
   rintro e y2 ⟨v2, rfl, hp2, hb2⟩
   have hB2 := hB.trans (hb2.mono hB.size)
   clear hP1 hb2
   have hC1 := Lib.hid (HC.out k hin e0 y2 he0.out (hK.out.at hB2 kK.out))
   replace hp2 := Lib.hid hp2
   replace hB2 := Lib.hid hB2
   go_wp2_with fail
   with_reducible refine Calls.mono hC1.out ?_
   rintro e y3 ⟨v3, rfl, hp3, hb3⟩
   have hA1 := Lib.hid (HA.out k hin v2 v3 y3 (hp2.out.below hb3) hp3)
   have hB3 := Lib.hid (hB2.out.trans (hb3.mono hB2.out.size))
   clear hC1 hb3 hp3 hp2 hB2
   go_wp2_with fail
   with_reducible refine Calls.mono hA1.out ?_
   rintro e y4 ⟨v4, rfl, hp4, hb4⟩
   have hB4 := hB3.out.trans (hb4.mono hB3.out.size)
   replace hp4 := Lib.hid hp4
   clear hA1 hb4 hB3
   go_wp2_with fail
   go_roundg (gk - 1)
   case measure => omega
   case rel => exact ⟨k + 1, _, _, by omega, rfl, by first | rfl | go_num, by omega, hp4.out, hB4⟩
  ·obtain rfl : k = D := by omega
   subst hzi
   have k4 : ¬ (k : Int) < (k : Int) := by omega
   go_wp2_with fail
   go_ret
   exact ⟨_, rfl, hp.out, hB⟩
theorem phorn3_w (f : FuncId) (k0 k1 k2 : Nat) (D : Nat) (d : Int) (um : List TI) (A Q C : Nat → List TI) (ao : Option Addr) (m c : Nat) (hD : D ≤ 13) (hd : d = (D : Int) - 1) (hQ : Q 0 = []) (K : World → Prop) (hK : Keeps K)
  (eg : ∀ args w, (callFunc f args).run Tryz.prog w = .ok (.enter f args) w)
  (HP : ∀ i, i < D → ∀ (v : Value) (w : World), PT w v (Q i) → PT w (.slice ao m c) um → Calls Tryz.prog 66 #[v, .slice ao m c] w fun xe w' => ∃ v', xe = .returned v' ∧ PT w' v' (A i) ∧ Below w.heap.size w w')
  (HC : ∀ i, i < D → ∀ (e : Int) (w : World), e = d - (i : Int) → K w → Calls Tryz.prog f #[.int .i64 e, .pointer (some ⟨k0, 0, none⟩), .pointer (some ⟨k1, 0, none⟩), .pointer (some ⟨k2, 0, none⟩)] w fun xe w' => ∃ v', xe = .returned v' ∧ PT w' v' (C i) ∧ Below w.heap.size w w')
  (HA : ∀ i, i < D → ∀ (v u : Value) (w : World), PT w v (A i) → PT w u (C i) → Calls Tryz.prog 24 #[v, u] w fun xe w' => ∃ v', xe = .returned v' ∧ PT w' v' (Q (i + 1)) ∧ Below w.heap.size w w')
  (w : World) (hq : PT w (.slice ao m c) um) (kK : K w) :
  Calls Tryz.prog 83 #[.int .i64 d, .slice ao m c, .func (.func f) #[] #[.pointer (some ⟨k0, 0, none⟩), .pointer (some ⟨k1, 0, none⟩), .pointer (some ⟨k2, 0, none⟩)]] w fun xe w' => ∃ v, xe = .returned v ∧ PT w' v (Q D) ∧ Below w.heap.size w w' := by
 replace HP := Lib.hid HP
 replace HC := Lib.hid HC
 replace HA := Lib.hid HA
 replace hq := Lib.hid hq
 replace kK := Lib.hid kK
 replace hK := Lib.hid hK
 replace hQ := Lib.hid hQ
 replace hd := Lib.hid hd
 have w1 : IntKind.i64.wrap (d + 1) = (D : Int) := by rw [hd.out]; simp [IntKind.wrap, IntKind.bits, IntKind.signed]; omega
 have w2 : wrap64 (d + 1) = (D : Int) := by rw [hd.out]; simp [wrap64]; omega
 go_enter Tryz.func83, Tryz.ntmps83
 go_wp2_with fail
 go_loopg [7, 11] D (fun gk sv iv wr => ∃ (k : Nat) (zi : Int) (vs : Value), k + gk = D ∧ vs = sv ∧ iv = .int .i64 zi ∧ zi = (k : Int) ∧ PT wr vs (Q k) ∧ Below w.heap.size w wr)
 case atStart => exact ⟨0, 0, _, Nat.zero_add D, rfl, by first | rfl | go_num, rfl, by rw [hQ.out]; exact pt_nil _, Below.refl _ _⟩
 case round =>
  obtain ⟨k, zi, vs, hik, rfl, rfl, hzi, hp, hB⟩ := hrel
  replace hp := Lib.hid hp
  rcases Nat.lt_or_ge k D with hin | hin
  ·subst hzi
   have k4 : (k : Int) < (D : Int) := by omega
   obtain ⟨e0, he0⟩ : ∃ e0, e0 = d - (k : Int) := ⟨_, rfl⟩
   have w3 : IntKind.i64.wrap (d - (k : Int)) = e0 := by rw [he0, hd.out]; simp [IntKind.wrap, IntKind.bits, IntKind.signed]; omega
   have w4 : wrap64 (d - (k : Int)) = e0 := by rw [he0, hd.out]; simp [wrap64]; omega
   have hP1 := Lib.hid (HP.out k hin vs wr hp.out (hq.out.below hB))
   replace he0 := Lib.hid he0
   go_wp2_with fail
   with_reducible refine Calls.mono hP1.out ?_
   rintro e y2 ⟨v2, rfl, hp2, hb2⟩
   have hB2 := hB.trans (hb2.mono hB.size)
   clear hP1 hb2
   have hC1 := Lib.hid (HC.out k hin e0 y2 he0.out (hK.out.at hB2 kK.out))
   replace hp2 := Lib.hid hp2
   replace hB2 := Lib.hid hB2
   go_wp2_with fail
   with_reducible refine Calls.mono hC1.out ?_
   rintro e y3 ⟨v3, rfl, hp3, hb3⟩
   have hA1 := Lib.hid (HA.out k hin v2 v3 y3 (hp2.out.below hb3) hp3)
   have hB3 := Lib.hid (hB2.out.trans (hb3.mono hB2.out.size))
   clear hC1 hb3 hp3 hp2 hB2
   go_wp2_with fail
   with_reducible refine Calls.mono hA1.out ?_
   rintro e y4 ⟨v4, rfl, hp4, hb4⟩
   have hB4 := hB3.out.trans (hb4.mono hB3.out.size)
   replace hp4 := Lib.hid hp4
   clear hA1 hb4 hB3
   go_wp2_with fail
   go_roundg (gk - 1)
   case measure => omega
   case rel => exact ⟨k + 1, _, _, by omega, rfl, by first | rfl | go_num, by omega, hp4.out, hB4⟩
  ·obtain rfl : k = D := by omega
   subst hzi
   have k4 : ¬ (k : Int) < (k : Int) := by omega
   go_wp2_with fail
   go_ret
   exact ⟨_, rfl, hp.out, hB⟩
theorem pshift11_w (l r : List TI) (i j : Int) (q : Rat) (pv : Value) (k0 k1 : Nat)
  (HC : ∀ w : World, PT w pv l → Calls Tryz.prog 20 #[pv, .int .i64 i, .int .i64 j] w fun xe w' => xe = .returned (fracV q) ∧ Below w.heap.size w w')
  (HK : ∀ w : World, Calls Tryz.prog 34 #[fracV q] w fun xe w' => ∃ v', xe = .returned v' ∧ PT w' v' r ∧ Below w.heap.size w w')
  (w : World) (h0 : Hd w k0 [pv]) (h1 : Hd w k1 [.int .i64 i]) (hp : PT w pv l) :
  Calls Tryz.prog 85 #[.int .i64 j, .pointer (some ⟨k0, 0, none⟩), .pointer (some ⟨k1, 0, none⟩)] w fun xe w' => ∃ v', xe = .returned v' ∧ PT w' v' r ∧ Below w.heap.size w w' := by
 obtain ⟨ao, n, c, rfl, -⟩ := pt_form hp
 replace HC := Lib.hid HC
 replace HK := Lib.hid HK
 replace hp := Lib.hid hp
 have hN0 := cells_of _ 0 [] rfl h0
 simp only [zF, Nat.reduceAdd] at hN0
 have hN1 := cells_of _ 0 [] rfl h1
 simp only [zF, Nat.reduceAdd] at hN1
 go_enter Tryz.func85, Tryz.ntmps85
 go_wp2_with (first | fail | (go_at_call 20; with_reducible refine Calls.mono (HC.out _ hp.out) ?_; rintro e y1 ⟨rfl, hb1⟩; replace hb1 := Lib.hid hb1) | (go_at_call 34; with_reducible refine Calls.mono (HK.out _) ?_; rintro e y2 ⟨v2, rfl, hp2, hb2⟩; replace hb2 := Lib.hid hb2; replace hp2 := Lib.hid hp2))
 go_ret
 exact ⟨_, rfl, hp2.out, hb1.out.trans (hb2.out.mono hb1.out.size)⟩
theorem pshift1_w (l um r : List TI) (i d e0 : Int) (pv uv : Value) (kd ku kp : Nat) (w1 : IntKind.i64.wrap (d - i) = e0) (w2 : wrap64 (d - i) = e0)
  (HH : ∀ (ki : Nat) (w : World), Hd w kp [pv] → Hd w ki [.int .i64 i] → PT w pv l → PT w uv um → Calls Tryz.prog 83 #[.int .i64 e0, uv, .func (.func 85) #[] #[.pointer (some ⟨kp, 0, none⟩), .pointer (some ⟨ki, 0, none⟩)]] w fun xe w' => ∃ v', xe = .returned v' ∧ PT w' v' r ∧ Below w.heap.size w w')
  (w : World) (h0 : Hd w kd [.int .i64 d]) (h1 : Hd w ku [uv]) (h2 : Hd w kp [pv]) (hp : PT w pv l) (hu : PT w uv um) :
  Calls Tryz.prog 84 #[.int .i64 i, .pointer (some ⟨kd, 0, none⟩), .pointer (some ⟨ku, 0, none⟩), .pointer (some ⟨kp, 0, none⟩)] w fun xe w' => ∃ v', xe = .returned v' ∧ PT w' v' r ∧ Below w.heap.size w w' := by
 obtain ⟨ao, n, c, rfl, -⟩ := pt_form hp
 obtain ⟨bo, n2, c2, rfl, -⟩ := pt_form hu
 replace HH := Lib.hid HH
 replace hp := Lib.hid hp
 replace hu := Lib.hid hu
 have hL0 : GL w w [] := GL.start w
 obtain ⟨x1, hweq, hL0⟩ := GL.named (hL0.new rfl [.int .i64 i] 3)
 have hH1 := Lib.hid (HH.out w.heap.size x1 (h2.below hL0.bl) (hL0.get _ _ mZ) (hp.out.below hL0.bl) (hu.out.below hL0.bl))
 have hN0 := cells_of _ 0 [] rfl (h0.below hL0.bl)
 simp only [zF, Nat.reduceAdd] at hN0
 have hN1 := cells_of _ 0 [] rfl (h1.below hL0.bl)
 simp only [zF, Nat.reduceAdd] at hN1
 have hN2 := cells_of _ 0 [] rfl (hL0.get _ _ mZ)
 simp only [zF, Nat.reduceAdd] at hN2
 clear h0 h1 h2
 go_enter Tryz.func84, Tryz.ntmps84
 go_wp2_with (go_at_call 83; with_reducible refine Calls.mono hH1.out ?_; rintro e y2 ⟨v2, rfl, hp2, hb2⟩; replace hb2 := Lib.hid hb2; replace hp2 := Lib.hid hp2)
 go_ret
 exact ⟨_, rfl, hp2.out, hL0.bl.trans (hb2.out.mono hL0.bl.size)⟩
theorem pshift_w (l p um vm r : List TI) (d : Int) (ax bx cx ay b2 cy : Rat) (HN : ∀ (p0 : Value) (w : World), PT w p0 l → Calls Tryz.prog 52 #[p0] w fun e w' => ∃ pv, e = .returned pv ∧ PT w' pv p ∧ Below w.heap.size w w') (HD : ∀ (p0 : Value) (w : World), PT w p0 p → Calls Tryz.prog 15 #[p0] w fun e w' => e = .returned (.int .i64 d) ∧ Below w.heap.size w w') (HU : ∀ (w : World), Calls Tryz.prog 81 #[fracV ax, fracV bx, fracV cx] w fun e w' => ∃ pv, e = .returned pv ∧ PT w' pv um ∧ Below w.heap.size w w') (HV : ∀ (w : World), Calls Tryz.prog 81 #[fracV ay, fracV b2, fracV cy] w fun e w' => ∃ pv, e = .returned pv ∧ PT w' pv vm ∧ Below w.heap.size w w') (HH : ∀ (kd ku kp : Nat) (pv uv vv : Value) (w : World), Hd w kd [.int .i64 d] → Hd w ku [vv] → Hd w kp [pv] → PT w pv p → PT w uv um → PT w vv vm → Calls Tryz.prog 83 #[.int .i64 d, uv, .func (.func 84) #[] #[.pointer (some ⟨kd, 0, none⟩), .pointer (some ⟨ku, 0, none⟩), .pointer (some ⟨kp, 0, none⟩)]] w fun xe w' => ∃ v', xe = .returned v' ∧ PT w' v' r ∧ Below w.heap.size w w') (p0 : Value) (w : World) (r0 : PT w p0 l) :
  Calls Tryz.prog 37 #[p0, fracV ax, fracV bx, fracV cx, fracV ay, fracV b2, fracV cy] w fun e w' => ∃ pv, e = .returned pv ∧ PT w' pv r ∧ Below w.heap.size w w' := by
 obtain ⟨a0, n0, c0, rfl, -⟩ := pt_form r0
 have f0 := Lib.hid r0
 clear r0
 replace HN := Lib.hid HN
 replace HD := Lib.hid HD
 replace HU := Lib.hid HU
 replace HV := Lib.hid HV
 have hL0 : GL w w [] := GL.start w
 have hT : PTs w [] := PTs.nil w
 replace HH := Lib.hid HH
 replace hT := (((((((hT.new (.cells #[.slice a0 n0 c0] 25)).new (.cells #[.int .u64 ((zl ax.num : Nat) : Int), .string (zh ax.num), .bool (zs ax.num), .int .u64 ((lo (fe ax) : Nat) : Int), .string (hs (fe ax))] 47)).new (.cells #[.int .u64 ((zl bx.num : Nat) : Int), .string (zh bx.num), .bool (zs bx.num), .int .u64 ((lo (fe bx) : Nat) : Int), .string (hs (fe bx))] 47)).new (.cells #[.int .u64 ((zl cx.num : Nat) : Int), .string (zh cx.num), .bool (zs cx.num), .int .u64 ((lo (fe cx) : Nat) : Int), .string (hs (fe cx))] 47)).new (.cells #[.int .u64 ((zl ay.num : Nat) : Int), .string (zh ay.num), .bool (zs ay.num), .int .u64 ((lo (fe ay) : Nat) : Int), .string (hs (fe ay))] 47)).new (.cells #[.int .u64 ((zl b2.num : Nat) : Int), .string (zh b2.num), .bool (zs b2.num), .int .u64 ((lo (fe b2) : Nat) : Int), .string (hs (fe b2))] 47)).new (.cells #[.int .u64 ((zl cy.num : Nat) : Int), .string (zh cy.num), .bool (zs cy.num), .int .u64 ((lo (fe cy) : Nat) : Int), .string (hs (fe cy))] 47))
 replace hL0 := (((((((hL0.new rfl [.slice a0 n0 c0] 25).new (K := w.heap.size + 1) (szA _ _) [.int .u64 ((zl ax.num : Nat) : Int), .string (zh ax.num), .bool (zs ax.num), .int .u64 ((lo (fe ax) : Nat) : Int), .string (hs (fe ax))] 47).new (K := w.heap.size + 1 + 1) (by simp only [World.size_alloc]) [.int .u64 ((zl bx.num : Nat) : Int), .string (zh bx.num), .bool (zs bx.num), .int .u64 ((lo (fe bx) : Nat) : Int), .string (hs (fe bx))] 47).new (K := w.heap.size + 1 + 1 + 1) (by simp only [World.size_alloc]) [.int .u64 ((zl cx.num : Nat) : Int), .string (zh cx.num), .bool (zs cx.num), .int .u64 ((lo (fe cx) : Nat) : Int), .string (hs (fe cx))] 47).new (K := w.heap.size + 1 + 1 + 1 + 1) (by simp only [World.size_alloc]) [.int .u64 ((zl ay.num : Nat) : Int), .string (zh ay.num), .bool (zs ay.num), .int .u64 ((lo (fe ay) : Nat) : Int), .string (hs (fe ay))] 47).new (K := w.heap.size + 1 + 1 + 1 + 1 + 1) (by simp only [World.size_alloc]) [.int .u64 ((zl b2.num : Nat) : Int), .string (zh b2.num), .bool (zs b2.num), .int .u64 ((lo (fe b2) : Nat) : Int), .string (hs (fe b2))] 47).new (K := w.heap.size + 1 + 1 + 1 + 1 + 1 + 1) (by simp only [World.size_alloc]) [.int .u64 ((zl cy.num : Nat) : Int), .string (zh cy.num), .bool (zs cy.num), .int .u64 ((lo (fe cy) : Nat) : Int), .string (hs (fe cy))] 47)
 generalize hweq : (((((((w.alloc (.cells #[.slice a0 n0 c0] 25)).alloc (.cells #[.int .u64 ((zl ax.num : Nat) : Int), .string (zh ax.num), .bool (zs ax.num), .int .u64 ((lo (fe ax) : Nat) : Int), .string (hs (fe ax))] 47)).alloc (.cells #[.int .u64 ((zl bx.num : Nat) : Int), .string (zh bx.num), .bool (zs bx.num), .int .u64 ((lo (fe bx) : Nat) : Int), .string (hs (fe bx))] 47)).alloc (.cells #[.int .u64 ((zl cx.num : Nat) : Int), .string (zh cx.num), .bool (zs cx.num), .int .u64 ((lo (fe cx) : Nat) : Int), .string (hs (fe cx))] 47)).alloc (.cells #[.int .u64 ((zl ay.num : Nat) : Int), .string (zh ay.num), .bool (zs ay.num), .int .u64 ((lo (fe ay) : Nat) : Int), .string (hs (fe ay))] 47)).alloc (.cells #[.int .u64 ((zl b2.num : Nat) : Int), .string (zh b2.num), .bool (zs b2.num), .int .u64 ((lo (fe b2) : Nat) : Int), .string (hs (fe b2))] 47)).alloc (.cells #[.int .u64 ((zl cy.num : Nat) : Int), .string (zh cy.num), .bool (zs cy.num), .int .u64 ((lo (fe cy) : Nat) : Int), .string (hs (fe cy))] 47)) = x1 at hL0 hT
 go_enter Tryz.func37, Tryz.ntmps37
 have hN0 := cells_of _ 0 [] rfl (hL0.get _ _ (mK (mK (mK (mK (mK (mK mZ)))))))
 simp only [zF, Nat.reduceAdd] at hN0
 go_wp2_with fail
 clear hN0
 with_reducible refine Calls.mono (HN.out (.slice a0 n0 c0) _ (PT.below f0.out hL0.bl)) ?_
 rintro e x2 ⟨v0, rfl, q0, hb⟩
 replace hL0 := hL0.call hb
 replace hT := hT.call hb
 clear hb hweq
 obtain ⟨g1, d1, g1c, rfl, -⟩ := pt_form q0
 replace hT := hT.cons q0
 clear q0
 have hT1 := hT.put ((Upd.refl w.heap.size x2).setCell 0 (.slice g1 d1 g1c)) (hL0.get _ _ (mK (mK (mK (mK (mK (mK mZ))))))) (by intro v hv n; simp only [List.mem_cons, List.not_mem_nil, or_false] at hv; rcases hv with rfl <;> simp)
 have hA := hL0.fc
 simp only [zF, Nat.reduceAdd] at hA
 have hP := hL0.put 6 (w.heap.size) _ rfl [.slice g1 d1 g1c] rfl
 simp only [setAll, List.set_cons_zero, List.set_cons_succ] at hP
 generalize hput1 : (x2.setCell ⟨w.heap.size, 0, none⟩ (.slice g1 d1 g1c)) = x3 at hP hT1
 have hB1 := hP.fc
 simp only [zF, Nat.reduceAdd] at hB1
 replace hL0 := hP
 replace hT := hT1
 clear hT1
 go_wp2_with fail
 clear hA
 with_reducible refine Calls.mono (HD.out (.slice g1 d1 g1c) _ (hT.get mZ)) ?_
 rintro e x4 ⟨rfl, hb⟩
 replace hL0 := hL0.call hb
 replace hT := hT.call hb
 clear hb hput1 hB1
 replace hT := (hT.new (.cells #[.int .i64 d] 3))
 replace hL0 := (hL0.new rfl [.int .i64 d] 3)
 generalize hweq : (x4.alloc (.cells #[.int .i64 d] 3)) = x5 at hL0 hT
 go_upto_region 3 with fail
 clear hweq
 refine region_tal 10 [EV (.agg #[.int .u64 ((zl ax.num : Nat) : Int), .string (zh ax.num), .bool (zs ax.num), .int .u64 ((lo (fe ax) : Nat) : Int), .string (hs (fe ax))]), EV (.agg #[.int .u64 ((zl bx.num : Nat) : Int), .string (zh bx.num), .bool (zs bx.num), .int .u64 ((lo (fe bx) : Nat) : Int), .string (hs (fe bx))]), EV (.agg #[.int .u64 ((zl cx.num : Nat) : Int), .string (zh cx.num), .bool (zs cx.num), .int .u64 ((lo (fe cx) : Nat) : Int), .string (hs (fe cx))]), PP um, EV (.agg #[.int .u64 ((zl ay.num : Nat) : Int), .string (zh ay.num), .bool (zs ay.num), .int .u64 ((lo (fe ay) : Nat) : Int), .string (hs (fe ay))]), EV (.agg #[.int .u64 ((zl b2.num : Nat) : Int), .string (zh b2.num), .bool (zs b2.num), .int .u64 ((lo (fe b2) : Nat) : Int), .string (hs (fe b2))]), EV (.agg #[.int .u64 ((zl cy.num : Nat) : Int), .string (zh cy.num), .bool (zs cy.num), .int .u64 ((lo (fe cy) : Nat) : Int), .string (hs (fe cy))]), PP vm, NewB x5.heap.size [.slice none 0 0], PP um] [8] (by kernel_rfl) (by kernel_rfl) ?_ ?_ ?_ ?_ ?_
 ·repeat' first | exact stays_nil | apply stays_cons | exact stays_eq _ | exact stays_new _ _ | exact stays_pt _
 ·simp only [List.take_succ_cons, List.take_zero, hopsR, and_true]
  refine ⟨?_, ?_, ?_, ?_, ?_, ?_, ?_, ?_, ?_, ?_⟩ <;> intro fv w1 hb1 hp
  all_goals (have hc := (hL0.call (below_drew hb1)).fc; simp only [zF, Nat.reduceAdd] at hc; simp only [putsV, Act.put, zP, Nat.zero_add, Nat.reduceAdd])
  ·refine tyAt_none rfl ?_
   simp [tyUpon, execOp, go_sem, Act.eval, hc, Below.refl]
  ·refine tyAt_none rfl ?_
   simp [tyUpon, execOp, go_sem, Act.eval, hc, Below.refl]
  ·refine tyAt_none rfl ?_
   simp [tyUpon, execOp, go_sem, Act.eval, hc, Below.refl]
  ·have h0 : EV _ (fv 0) w1 := hp 0 (LC (by kernel_rfl))
   have h1 : EV _ (fv 1) w1 := hp 1 (LC (by kernel_rfl))
   have h2 : EV _ (fv 2) w1 := hp 2 (LC (by kernel_rfl))
   refine tyAt_none rfl ?_
   refine ty_call (f := 81) (args := #[.agg #[.int .u64 ((zl ax.num : Nat) : Int), .string (zh ax.num), .bool (zs ax.num), .int .u64 ((lo (fe ax) : Nat) : Int), .string (hs (fe ax))], .agg #[.int .u64 ((zl bx.num : Nat) : Int), .string (zh bx.num), .bool (zs bx.num), .int .u64 ((lo (fe bx) : Nat) : Int), .string (hs (fe bx))], .agg #[.int .u64 ((zl cx.num : Nat) : Int), .string (zh cx.num), .bool (zs cx.num), .int .u64 ((lo (fe cx) : Nat) : Int), .string (hs (fe cx))]]) (by simp [execOp, go_sem, Act.eval, h0, h1, h2]) ?_
   exact (HU.out w1).mono fun e w2 ⟨pv, h1, h2, h3⟩ => ⟨pv, h1, h2, h3⟩
  ·refine tyAt_none rfl ?_
   simp [tyUpon, execOp, go_sem, Act.eval, hc, Below.refl]
  ·refine tyAt_none rfl ?_
   simp [tyUpon, execOp, go_sem, Act.eval, hc, Below.refl]
  ·refine tyAt_none rfl ?_
   simp [tyUpon, execOp, go_sem, Act.eval, hc, Below.refl]
  ·have h4 : EV _ (fv 4) w1 := hp 4 (LC (by kernel_rfl))
   have h5 : EV _ (fv 5) w1 := hp 5 (LC (by kernel_rfl))
   have h6 : EV _ (fv 6) w1 := hp 6 (LC (by kernel_rfl))
   refine tyAt_none rfl ?_
   refine ty_call (f := 81) (args := #[.agg #[.int .u64 ((zl ay.num : Nat) : Int), .string (zh ay.num), .bool (zs ay.num), .int .u64 ((lo (fe ay) : Nat) : Int), .string (hs (fe ay))], .agg #[.int .u64 ((zl b2.num : Nat) : Int), .string (zh b2.num), .bool (zs b2.num), .int .u64 ((lo (fe b2) : Nat) : Int), .string (hs (fe b2))], .agg #[.int .u64 ((zl cy.num : Nat) : Int), .string (zh cy.num), .bool (zs cy.num), .int .u64 ((lo (fe cy) : Nat) : Int), .string (hs (fe cy))]]) (by simp [execOp, go_sem, Act.eval, h4, h5, h6]) ?_
   exact (HV.out w1).mono fun e w2 ⟨pv, h1, h2, h3⟩ => ⟨pv, h1, h2, h3⟩
  ·exact tyAt_new rfl rfl new_pol (below_drew hb1).size
  ·have h3 : (PP um) (fv 3) w1 := hp 3 (LC (by kernel_rfl))
   refine tyAt_none rfl ?_
   simp [tyUpon, execOp, go_sem, Act.eval, Below.refl]
   exact h3
 ·intro j hj u w2 hT
  simp only [List.contains_iff_mem, List.mem_cons, List.not_mem_nil, or_false] at hj
  rcases hj with rfl <;> exact NewB.ptr hT
 ·exact ⟨⟨_, _, _, _, rfl, rfl, rfl, new_pol⟩, trivial⟩
 ·intro fv x6 hb1 hv hne
  have e0 : fv 0 = _ := hv 0 (by omega)
  have e1 : fv 1 = _ := hv 1 (by omega)
  have e2 : fv 2 = _ := hv 2 (by omega)
  have q3 : PT x6 (fv 3) um := hv 3 (by omega)
  obtain ⟨g2, d2, g2c, e3, -⟩ := pt_form q3
  rw [e3] at q3
  have e4 : fv 4 = _ := hv 4 (by omega)
  have e5 : fv 5 = _ := hv 5 (by omega)
  have e6 : fv 6 = _ := hv 6 (by omega)
  have q7 : PT x6 (fv 7) vm := hv 7 (by omega)
  obtain ⟨g3, d3, g3c, e7, -⟩ := pt_form q7
  rw [e7] at q7
  obtain ⟨kb8, e8, n8, m8⟩ : NewB x5.heap.size [.slice none 0 0] (fv 8) x6 := hv 8 (by omega)
  have q9 : PT x6 (fv 9) um := hv 9 (by omega)
  obtain ⟨g4, d4, g4c, e9, -⟩ := pt_form q9
  rw [e9] at q9
  simp only [List.take_succ_cons, List.take_zero, putsV, Act.put, zP, List.drop_succ_cons, List.drop_zero, Nat.zero_add, Nat.reduceAdd, e0, e1, e2, e3, e4, e5, e6, e7, e8, e9]
  have hx0 := hL0
  replace hL0 := hL0.call (below_drew hb1)
  replace hT := hT.call (below_drew hb1)
  replace hL0 := GL.tnew (M := []) hL0 hx0 n8 m8 (fun p hp => by cases hp)
  simp only [List.cons_append, List.nil_append] at hL0
  replace hT := hT.cons q3
  replace hT := hT.cons q7
  replace hT := hT.cons q9
  clear e0 e1 e2 e3 e4 e5 e6 e7 e8 e9 hb1 hv hne hx0 n8 m8 q3 q7 q9 fv
  have hT1 := hT.put ((Upd.refl kb8 x6).setCell 0 (.slice g3 d3 g3c)) (hL0.get _ _ mZ) (by intro v hv n; simp only [List.mem_cons, List.not_mem_nil, or_false] at hv; rcases hv with rfl <;> simp)
  have hA := hL0.fc
  simp only [zF, Nat.reduceAdd] at hA
  have hP := hL0.put 0 (kb8) _ rfl [.slice g3 d3 g3c] rfl
  simp only [setAll, List.set_cons_zero, List.set_cons_succ] at hP
  generalize hput2 : (x6.setCell ⟨kb8, 0, none⟩ (.slice g3 d3 g3c)) = x7 at hP hT1
  have hB2 := hP.fc
  simp only [zF, Nat.reduceAdd] at hB2
  replace hL0 := hP
  replace hT := hT1
  clear hT1
  have q15 := hL0.get _ _ (mK mZ)
  have q17 := hL0.get _ _ mZ
  have q7 := hL0.get _ _ (mK (mK (mK (mK (mK (mK (mK (mK mZ))))))))
  have hH1 := Lib.hid (HH.out (x4.heap.size) (kb8) (w.heap.size) _ _ _ x7 q15 q17 q7 (hT.get (mK (mK (mK mZ)))) (hT.get mZ) (hT.get (mK mZ)))
  have hN0 := cells_of _ 0 [] rfl q15
  simp only [zF, Nat.reduceAdd] at hN0
  clear q15 q17 q7
  go_wp2_with (go_at_call 83; with_reducible refine Calls.mono hH1.out ?_; rintro e y9 ⟨v9, rfl, hp9, hb9⟩; replace hb9 := Lib.hid hb9; replace hp9 := Lib.hid hp9)
  go_ret
  exact ⟨_, rfl, hp9.out, hL0.bl.trans (hb9.out.mono hL0.bl.size)⟩
end Go.Proofs.YtkpghlnegbimdaaGreatDoor
namespace Go.Proofs.YtkpghlnegbimdaaGreatDoor
open Go.RowKit
attribute [local irreducible] lo hs sm s64 c64 d64 b64 mh ml pd pc qd qc val hiB str cmpI srD lz nb zl zh zs fe klT ordZ
theorem infoF8 : (Tryz.prog.info? 47).map (fun i => (i.zero, i.size, i.bytes)) = some (some (.agg #[.int .u64 0, .string ⟨#[]⟩, .bool false, .int .u64 0, .string ⟨#[]⟩]), 5, 56) := by kernel_rfl
abbrev OwnF (w : World) (B : Nat) (v : Value) (n : Nat) (l : List Rat) : Prop := w.ownsRow B 47 5 v n (frCs l)
theorem wp_appendF {w : World} {ops : Array Oper} {rest : List Oper} {o : Oper} {a : Act} {Q : Exit → Act → World → Prop} (hgd : o.guard = none) (s x : Operand)
  (ho : o.op = .call { callee := .builtin .append, args := #[s, x], argTypes := #[118, 118] }) (B : Nat) (v : Value) (n : Nat) (L : List Rat) (hs : a.eval s = v) (hown : OwnF w B v n L) (g : Nat) (t : Rat) (hx : a.eval x = .slice (some ⟨g, 0, none⟩) 1 1) (hH : Hd w g (frC t))
  (hn : n ≤ 100000) (hbase : B ≤ w.heap.size)
  (h : ∀ v' w', OwnF w' B v' (n + 1) (L ++ [t]) → w.grownBy w' v.ownBlock → wpList Tryz.prog ops Q rest (a.put o.dst v') w') : wpList Tryz.prog ops Q (o :: rest) a w := by
 obtain ⟨i0, hi, hz1, hz2, hz3⟩ := info_parts infoF8
 refine wpList_append_own w hgd s x 118 ho B 47 i0 (.agg #[.int .u64 0, .string ⟨#[]⟩, .bool false, .int .u64 0, .string ⟨#[]⟩]) 5 56 Tryz.underlying118 hi hz1 hz2 hz3 rfl (by decide) v n (frCs L) hs hown ⟨g, 0, none⟩ 1 1 (frC t) hx rfl (hd_newsH hH) (frC_one t) (by unfold maxLen; omega) (by omega) hbase ?_
 intro v' w' h1 h2 _
 refine h v' w' ?_ h2
 unfold OwnF
 rw [frCs_snoc]; exact h1
def pws (x : Rat) (n : Nat) : List Rat := (List.range (n + 1)).map fun i => x ^ i
theorem pws_len (x : Rat) (n : Nat) : (pws x n).length = n + 1 := by unfold pws; rw [List.length_map, List.length_range]
theorem pws_succ (x : Rat) (n : Nat) : pws x (n + 1) = pws x n ++ [x ^ (n + 1)] := by unfold pws; rw [List.range_succ, List.map_append]; rfl
theorem pws_get (x : Rat) (n i : Nat) (h : i < (pws x n).length) : (pws x n)[i] = x ^ i := by simp [pws]
theorem ppows_w (x one : Rat) (m : Int) (N : Nat) (h1 : one = 1) (hm : m = (N : Int) ∨ (m = -1 ∧ N = 0)) (hN : N ≤ 1000)
  (HI : ∀ w : World, Calls Tryz.prog 35 #[.int .i64 1] w fun xe w' => xe = .returned (fracV one) ∧ Below w.heap.size w w')
  (HM : ∀ i, i < N → ∀ w : World, Calls Tryz.prog 28 #[fracV (x ^ i), fracV x] w fun xe w' => xe = .returned (fracV (x ^ (i + 1))) ∧ Below w.heap.size w w') (w : World) :
  Calls Tryz.prog 68 #[fracV x, .int .i64 m] w fun xe w' => ∃ v, xe = .returned v ∧ SlQ w' v (pws x N) ∧ Below w.heap.size w w' := by
 replace HI := Lib.hid HI
 replace HM := Lib.hid HM
 replace h1 := Lib.hid h1
 replace hm := Lib.hid hm
 have hL0 : GL w w [] := GL.start w
 obtain ⟨x1, hweq, hL0⟩ := GL.named (hL0.new rfl [.int .u64 ((zl x.num : Nat) : Int), .string (zh x.num), .bool (zs x.num), .int .u64 ((lo (fe x) : Nat) : Int), .string (hs (fe x))] 47)
 go_enter Tryz.func68, Tryz.ntmps68
 go_wp2_with fail
 with_reducible refine Calls.mono (HI.out _) ?_
 rintro e y1 ⟨rfl, hb⟩
 replace hL0 := hL0.call hb
 clear hb hweq
 generalize hbx : w.heap.size = bx at hL0
 replace hbx := Lib.hid hbx
 have hown0 : OwnF (y1.alloc (.cells #[.int .u64 ((zl one.num : Nat) : Int), .string (zh one.num), .bool (zs one.num), .int .u64 ((lo (fe one) : Nat) : Int), .string (hs (fe one))] 47)) y1.heap.size (.slice (some ⟨y1.heap.size, 0, none⟩) 1 1) (0 + 1) (pws x 0) := by
  have := World.ownsRow_lit (base := y1.heap.size) (e := 47) (size := 5) y1 #[.int .u64 ((zl one.num : Nat) : Int), .string (zh one.num), .bool (zs one.num), .int .u64 ((lo (fe one) : Nat) : Int), .string (hs (fe one))] 1 (Nat.le_refl _) (by unfold maxLen; omega) rfl
  have e : frCs (pws x 0) = [.int .u64 ((zl one.num : Nat) : Int), .string (zh one.num), .bool (zs one.num), .int .u64 ((lo (fe one) : Nat) : Int), .string (hs (fe one))] := by
   rw [h1.out]; simp [pws, frCs, frC]
  unfold OwnF
  rw [e]; exact this
 have hL1 := hL0.call ((Below.refl y1.heap.size y1).alloc (Nat.le_refl _) (.cells #[.int .u64 ((zl one.num : Nat) : Int), .string (zh one.num), .bool (zs one.num), .int .u64 ((lo (fe one) : Nat) : Int), .string (hs (fe one))] 47))
 have hE : y1.heap.size ≤ (y1.alloc (.cells #[.int .u64 ((zl one.num : Nat) : Int), .string (zh one.num), .bool (zs one.num), .int .u64 ((lo (fe one) : Nat) : Int), .string (hs (fe one))] 47)).heap.size := by rw [World.size_alloc]; omega
 have hbl : bx < y1.heap.size := (hL0.get _ _ mZ).lt
 have hwb : w.heap.size ≤ y1.heap.size := hL0.bl.size
 generalize hweq : y1.alloc (.cells #[.int .u64 ((zl one.num : Nat) : Int), .string (zh one.num), .bool (zs one.num), .int .u64 ((lo (fe one) : Nat) : Int), .string (hs (fe one))] 47) = y2 at hown0 hL1 hE
 obtain ⟨E, hEe⟩ : ∃ E, E = y1.heap.size := ⟨_, rfl⟩
 have hv0 : Value.slice (some ⟨y1.heap.size, 0, none⟩) 1 1 = Value.slice (some ⟨y1.heap.size, 0, none⟩) 1 1 := rfl
 rw [← hEe] at hE hbl hwb
 have hown1 : OwnF y2 E (.slice (some ⟨y1.heap.size, 0, none⟩) 1 1) (0 + 1) (pws x 0) := by rw [hEe]; exact hown0
 replace hown1 := Lib.hid hown1
 replace hEe := Lib.hid hEe
 replace hE := Lib.hid hE
 replace hbl := Lib.hid hbl
 replace hwb := Lib.hid hwb
 clear hL0 hown0 hv0
 go_wp2_with fail
 clear hweq
 go_loopg [5, 10] N (fun gk sv iv wr => ∃ (k : Nat) (zi : Int) (vs : Value), k + gk = N ∧ vs = sv ∧ iv = .int .i64 zi ∧ zi = (k : Int) ∧ OwnF wr E vs (k + 1) (pws x k) ∧ E ≤ wr.heap.size ∧ GL w wr [(bx, [.int .u64 ((zl x.num : Nat) : Int), .string (zh x.num), .bool (zs x.num), .int .u64 ((lo (fe x) : Nat) : Int), .string (hs (fe x))])])
 case atStart => exact ⟨0, 0, _, Nat.zero_add N, rfl, by first | rfl | go_num, rfl, hown1.out, hE.out, hL1⟩
 case round =>
  clear hown1 hE hL1
  obtain ⟨k, zi, vs, hik, rfl, rfl, hzi, hown, hEw, hL0⟩ := hrel
  replace hEw := Lib.hid hEw
  rcases Nat.lt_or_ge k N with hin | hin
  ·subst hzi
   have hmN : m = (N : Int) := by rcases hm.out with h | h; exact h; omega
   have k1 : (k : Int) < m := by omega
   have k0 : (0 : Int) ≤ (k : Int) := Int.natCast_nonneg _
   replace hmN := Lib.hid hmN
   obtain ⟨g5, c5, rfl, hg5, hg6, hc5⟩ := own_form hown rfl (Nat.succ_pos k)
   have hfs := own_fs hown rfl
   have hkl : k < (pws x k).length := by rw [pws_len]; omega
   obtain ⟨p, hpx⟩ : ∃ p, p = (pws x k)[k] := ⟨_, rfl⟩
   have hM1 := HM.out k hin
   rw [← pws_get x k k hkl, ← hpx] at hM1
   obtain ⟨r, hr⟩ : ∃ r, r = x ^ (k + 1) := ⟨_, rfl⟩
   rw [← hr] at hM1
   have hps : pws x (k + 1) = pws x k ++ [r] := by rw [pws_succ, hr]
   have HM1 := Lib.hid hM1
   have k4 : (k : Int) < ((k : Int) + 1) := by omega
   have k5 : k < k + 1 := by omega
   have k6 : ¬ (k : Int) < 0 := by omega
   replace hfs := Lib.hid hfs
   replace hkl := Lib.hid hkl
   replace hpx := Lib.hid hpx
   replace hr := Lib.hid hr
   replace hps := Lib.hid hps
   clear hM1
   have hown3 := Lib.hid hown
   clear hown
   replace hg6 := Lib.hid hg6
   replace hg5 := Lib.hid hg5
   replace hc5 := Lib.hid hc5
   go_upto_region 5 with fail
   have hS : SS wr [] := SS.nil wr
   refine region_tl 8 [EV (.slice (some ⟨g5, 0, none⟩) (k + 1) c5), EV (.slice (some ⟨g5, 0, none⟩) (k + 1) c5), EV (.int .i64 (k : Int)), EV (.pointer (some ⟨g5, k * 5, none⟩)), EV (.agg #[.int .u64 ((zl p.num : Nat) : Int), .string (zh p.num), .bool (zs p.num), .int .u64 ((lo (fe p) : Nat) : Int), .string (hs (fe p))]), EV (.agg #[.int .u64 ((zl x.num : Nat) : Int), .string (zh x.num), .bool (zs x.num), .int .u64 ((lo (fe x) : Nat) : Int), .string (hs (fe x))]), EV (.agg #[.int .u64 ((zl r.num : Nat) : Int), .string (zh r.num), .bool (zs r.num), .int .u64 ((lo (fe r) : Nat) : Int), .string (hs (fe r))]), NewS (wr.heap.size, [.int .u64 ((zl r.num : Nat) : Int), .string (zh r.num), .bool (zs r.num), .int .u64 ((lo (fe r) : Nat) : Int), .string (hs (fe r))], 1)] (by kernel_rfl) (by kernel_rfl) ?_ ?_ ?_
   ·repeat' first | exact stays_nil | apply stays_cons | exact stays_eq _ | exact stays_news _
   ·simp only [List.take_succ_cons, List.take_zero, hopsR, and_true]
    refine ⟨?_, ?_, ?_, ?_, ?_, ?_, ?_, ?_⟩ <;> intro fv w1 hb1 hp
    all_goals (have hc := (hL0.call (below_drew hb1)).fc; simp only [zF, Nat.reduceAdd] at hc; simp only [putsV, Act.put, zP, Nat.zero_add, Nat.reduceAdd])
    ·refine tyAt_none rfl ?_
     simp [tyUpon, execOp, go_sem, Act.eval, k4, k5, k6, Below.refl]
    ·refine tyAt_none rfl ?_
     simp [tyUpon, execOp, go_sem, Act.eval, k4, k5, k6, Below.refl]
    ·refine tyAt_none rfl ?_
     simp [tyUpon, execOp, go_sem, Act.eval, k4, k5, k6, Below.refl]
    ·have h1 : EV _ (fv 1) w1 := hp 1 (LC (by kernel_rfl))
     have h2 : EV _ (fv 2) w1 := hp 2 (LC (by kernel_rfl))
     refine tyAt_none rfl ?_
     simp [tyUpon, execOp, go_sem, Act.eval, h1, h2, k4, k5, k6, Below.refl]
    ·have h3 : EV _ (fv 3) w1 := hp 3 (LC (by kernel_rfl))
     refine tyAt_none rfl ?_
     have hx := (hfs.out.below (below_drew hb1)).cell k hkl.out
     rw [← hpx.out] at hx
     simp [tyUpon, execOp, go_sem, Act.eval, hc, h3, k4, k5, k6, hx, Below.refl]
    ·refine tyAt_none rfl ?_
     simp [tyUpon, execOp, go_sem, Act.eval, hc, k4, k5, k6, Below.refl]
    ·have h4 : EV _ (fv 4) w1 := hp 4 (LC (by kernel_rfl))
     have h5 : EV _ (fv 5) w1 := hp 5 (LC (by kernel_rfl))
     refine tyAt_none rfl ?_
     refine ty_call (f := 28) (args := #[.agg #[.int .u64 ((zl p.num : Nat) : Int), .string (zh p.num), .bool (zs p.num), .int .u64 ((lo (fe p) : Nat) : Int), .string (hs (fe p))], .agg #[.int .u64 ((zl x.num : Nat) : Int), .string (zh x.num), .bool (zs x.num), .int .u64 ((lo (fe x) : Nat) : Int), .string (hs (fe x))]]) (by simp [execOp, go_sem, Act.eval, h4, h5]) ?_
     exact (HM1.out w1).mono fun e w2 ⟨h1, h2⟩ => ⟨_, h1, rfl, h2⟩
    ·have h6 : EV _ (fv 6) w1 := hp 6 (LC (by kernel_rfl))
     refine tyAt_none rfl ?_
     refine ty_val8 (u := .slice (some ⟨w1.heap.size, 0, none⟩) 1 1) (w' := w1.alloc (.cells #[.int .u64 ((zl r.num : Nat) : Int), .string (zh r.num), .bool (zs r.num), .int .u64 ((lo (fe r) : Nat) : Int), .string (hs (fe r))] 47)) (by simp [execOp, go_sem, Act.eval, h6]) ((Below.refl _ _).alloc (Nat.le_refl _) _) (news_mk (below_drew hb1).size)
   ·intro fv x51 hb1 hv
    have e0 : fv 0 = _ := hv 0 (by omega)
    have e1 : fv 1 = _ := hv 1 (by omega)
    have e2 : fv 2 = _ := hv 2 (by omega)
    have e3 : fv 3 = _ := hv 3 (by omega)
    have e4 : fv 4 = _ := hv 4 (by omega)
    have e5 : fv 5 = _ := hv 5 (by omega)
    have e6 : fv 6 = _ := hv 6 (by omega)
    have q7 : NewS ((wr.heap.size, [.int .u64 ((zl r.num : Nat) : Int), .string (zh r.num), .bool (zs r.num), .int .u64 ((lo (fe r) : Nat) : Int), .string (hs (fe r))], 1)) (fv 7) x51 := hv 7 (by omega)
    obtain ⟨g1, e7, ng1, mg1⟩ := news_parts q7
    rw [e7] at q7
    simp only [List.take_succ_cons, List.take_zero, putsV, Act.put, zP, List.drop_succ_cons, List.drop_zero, Nat.zero_add, Nat.reduceAdd, e0, e1, e2, e3, e4, e5, e6, e7]
    replace hL0 := hL0.call (below_drew hb1)
    replace hS := hS.call (below_drew hb1)
    have hown7 := Lib.hid (own_below hown3.out (below_drew hb1))
    have hEw7 := Lib.hid (Nat.le_trans hEw.out (below_drew hb1).size)
    clear e0 e1 e2 e3 e4 e5 e6 e7 hb1 hv q7 fv
    have hH := Lib.hid mg1
    go_wp2_with (at_builtin; refine wp_appendF rfl _ _ rfl E _ _ _ rfl hown7.out _ r rfl hH.out (by omega) hEw7.out ?_)
    intro v' w8 hown8 hgrow
    rw [← hps.out] at hown8
    have hL8 := gl_grown hL0 hgrow (fun x hx => ⟨Nat.le_trans hwb.out (hown7.out.lt x hx).1, fun p hp => by rw [List.mem_singleton.1 hp]; have := (hown7.out.lt x hx).1; have := hbl.out; exact Nat.ne_of_lt (Nat.lt_of_lt_of_le hbl.out (hown7.out.lt x hx).1)⟩)
    have hE8 := Lib.hid (Nat.le_trans hEw7.out hgrow.size)
    replace hown8 := Lib.hid hown8
    clear hgrow hown7 hEw7 hL0 hH
    go_wp2_with fail
    go_roundg (N - (k + 1))
    case measure => omega
    case rel => exact ⟨k + 1, _, _, by omega, rfl, by first | rfl | go_num, by omega, hown8.out, hE8.out, hL8⟩
  ·obtain rfl : k = N := by omega
   subst hzi
   have k1 : ¬ (k : Int) < m := by rcases hm.out with h | h <;> omega
   have hsl := Lib.hid (own_slq hown (pws_len x k).symm)
   clear hown
   go_wp2_with fail
   go_ret
   exact ⟨_, rfl, hsl.out, hL0.bl⟩
end Go.Proofs.YtkpghlnegbimdaaGreatDoor
namespace Go.Proofs.YtkpghlnegbimdaaGreatDoor
open Go.RowKit
attribute [local irreducible] lo hs sm s64 c64 d64 b64 mh ml pd pc qd qc val hiB str cmpI srD lz nb zl zh zs fe klT ordZ
abbrev PV8 (l : List Rat) : Value → World → Prop := fun v w => SlQ w v l
theorem stays_slq8 (l : List Rat) : Stays (PV8 l) := fun _ _ _ hb h => h.below hb
theorem slq_form8 {w : World} {v : Value} {l : List Rat} (h : SlQ w v l) : ∃ ao n c, v = .slice ao n c := by
 rcases h with ⟨ao, c, e, _⟩ | ⟨g, c, e, _⟩
 ·exact ⟨_, _, _, e⟩
 ·exact ⟨_, _, _, e⟩
theorem slq_pos {w : World} {ao : Option Addr} {n c : Nat} {l : List Rat} (h : SlQ w (.slice ao n c) l) (h0 : 0 < l.length) : ∃ g, ao = some ⟨g, 0, none⟩ ∧ n = l.length ∧ FS w g l := by
 rcases h with ⟨a, c2, e, rfl⟩ | ⟨g, c2, e, hf⟩
 ·exact absurd h0 (Nat.lt_irrefl _)
 ·simp only [Value.slice.injEq] at e
  obtain ⟨rfl, rfl, -⟩ := e
  exact ⟨g, rfl, rfl, hf⟩
theorem pat_w (l : List TI) (P : TL) (x y s : Rat) (m : Int) (N : Nat) (ao : Option Addr) (n c : Nat) (hPl : P.length ≤ 10000) (hPN : ∀ t ∈ P, t.1 ≤ N ∧ t.2.1 ≤ N)
  (HN : ∀ w : World, PT w (.slice ao n c) l → Calls Tryz.prog 52 #[.slice ao n c] w fun xe w' => ∃ v', xe = .returned v' ∧ PT w' v' (ofL P) ∧ Below w.heap.size w w')
  (HD : ∀ (v : Value) (w : World), PT w v (ofL P) → Calls Tryz.prog 15 #[v] w fun xe w' => xe = .returned (.int .i64 m) ∧ Below w.heap.size w w')
  (HX : ∀ w : World, Calls Tryz.prog 68 #[fracV x, .int .i64 m] w fun e w' => ∃ pv, e = .returned pv ∧ SlQ w' pv (pws x N) ∧ Below w.heap.size w w')
  (HY : ∀ w : World, Calls Tryz.prog 68 #[fracV y, .int .i64 m] w fun e w' => ∃ pv, e = .returned pv ∧ SlQ w' pv (pws y N) ∧ Below w.heap.size w w')
  (HM1 : ∀ t ∈ P, ∀ w : World, Calls Tryz.prog 28 #[fracV (x ^ t.1), fracV (y ^ t.2.1)] w fun xe w' => xe = .returned (fracV (x ^ t.1 * y ^ t.2.1)) ∧ Below w.heap.size w w')
  (HM2 : ∀ t ∈ P, ∀ w : World, Calls Tryz.prog 28 #[fracV t.2.2, fracV (x ^ t.1 * y ^ t.2.1)] w fun xe w' => xe = .returned (fracV (t.2.2 * (x ^ t.1 * y ^ t.2.1))) ∧ Below w.heap.size w w')
  (HSm : ∀ (v : Value) (w : World), SlQ w v (P.map fun t => t.2.2 * (x ^ t.1 * y ^ t.2.1)) → Calls Tryz.prog 38 #[v] w fun xe w' => xe = .returned (fracV s) ∧ Below w.heap.size w w')
  (w : World) (hq : PT w (.slice ao n c) l) :
  Calls Tryz.prog 27 #[.slice ao n c, fracV x, fracV y] w fun xe w' => xe = .returned (fracV s) ∧ Below w.heap.size w w' := by
 replace HN := Lib.hid HN
 replace HD := Lib.hid HD
 replace HX := Lib.hid HX
 replace HY := Lib.hid HY
 replace HM1 := Lib.hid HM1
 replace HM2 := Lib.hid HM2
 replace hq := Lib.hid hq
 replace hPl := Lib.hid hPl
 replace hPN := Lib.hid hPN
 obtain ⟨VL, hVL⟩ : ∃ VL, VL = P.map fun t => t.2.2 * (x ^ t.1 * y ^ t.2.1) := ⟨_, rfl⟩
 rw [← hVL] at HSm
 replace hVL := Lib.hid hVL
 replace HSm := Lib.hid HSm
 have hL0 : GL w w [] := GL.start w
 obtain ⟨x1, hweq, hL0⟩ := GL.named (((hL0.new rfl [.int .u64 ((zl x.num : Nat) : Int), .string (zh x.num), .bool (zs x.num), .int .u64 ((lo (fe x) : Nat) : Int), .string (hs (fe x))] 47).new (K := w.heap.size + 1) (szA _ _) [.int .u64 ((zl y.num : Nat) : Int), .string (zh y.num), .bool (zs y.num), .int .u64 ((lo (fe y) : Nat) : Int), .string (hs (fe y))] 47).new (K := w.heap.size + 1 + 1) (by simp only [World.size_alloc]) [.int .u64 0, .string ⟨#[]⟩, .bool false, .int .u64 0, .string ⟨#[]⟩] 47)
 go_enter Tryz.func27, Tryz.ntmps27
 go_wp2_with fail
 with_reducible refine Calls.mono (HN.out x1 (hq.out.below hL0.bl)) ?_
 rintro e y1 ⟨v, rfl, hpt, hb⟩
 replace hL0 := hL0.call hb
 clear hb hweq
 obtain ⟨a2, n2, c2, rfl, hn2⟩ := pt_form hpt
 have hpp := Lib.hid (pt_parts hpt).2
 have hnl : n2 = P.length := by rw [hn2]; exact ofL_length P
 have hnb : n2 ≤ 10000 := by rw [hnl]; exact hPl.out
 replace hnl := Lib.hid hnl
 have HD1 := Lib.hid (fun (W : World) (hW : Below y1.heap.size y1 W) => HD.out _ W (hpt.below hW))
 clear hn2 hpt
 go_upto_region 2 with fail
 generalize hb6 : w.heap.size + 1 + 1 = b6 at hL0 ⊢
 generalize hb5 : w.heap.size + 1 = b5 at hL0 ⊢
 generalize hb4 : w.heap.size = b4 at hL0 ⊢
 replace hb6 := Lib.hid hb6
 replace hb5 := Lib.hid hb5
 replace hb4 := Lib.hid hb4
 have hS : SS y1 [] := SS.nil y1
 refine region_tl 10 [EV (.agg #[.int .u64 ((zl x.num : Nat) : Int), .string (zh x.num), .bool (zs x.num), .int .u64 ((lo (fe x) : Nat) : Int), .string (hs (fe x))]), EV (.slice a2 n2 c2), EV (.int .i64 m), PV8 ((pws x N)), EV (.agg #[.int .u64 ((zl y.num : Nat) : Int), .string (zh y.num), .bool (zs y.num), .int .u64 ((lo (fe y) : Nat) : Int), .string (hs (fe y))]), EV (.slice a2 n2 c2), EV (.int .i64 m), PV8 ((pws y N)), PV8 ((pws x N)), PV8 ((pws y N))] (by kernel_rfl) (by kernel_rfl) ?_ ?_ ?_
 ·repeat' first | exact stays_nil | apply stays_cons | exact stays_eq _ | exact stays_slq8 _
 ·simp only [List.take_succ_cons, List.take_zero, hopsR, and_true]
  refine ⟨?_, ?_, ?_, ?_, ?_, ?_, ?_, ?_, ?_, ?_⟩ <;> intro fv w1 hb1 hp
  all_goals (have hc := (hL0.call (below_drew hb1)).fc; simp only [zF, Nat.reduceAdd] at hc; simp only [putsV, Act.put, zP, Nat.zero_add, Nat.reduceAdd])
  ·refine tyAt_none rfl ?_
   simp [tyUpon, execOp, go_sem, Act.eval, hc, Below.refl]
  ·refine tyAt_none rfl ?_
   simp [tyUpon, execOp, go_sem, Act.eval, Below.refl]
  ·have h1 : EV _ (fv 1) w1 := hp 1 (LC (by kernel_rfl))
   refine tyAt_none rfl ?_
   refine ty_call (f := 15) (args := #[.slice a2 n2 c2]) (by simp [execOp, go_sem, Act.eval, h1]) ?_
   exact (HD1.out w1 (below_drew hb1)).mono fun e w2 ⟨h1, h2⟩ => ⟨_, h1, rfl, h2⟩
  ·have h0 : EV _ (fv 0) w1 := hp 0 (LC (by kernel_rfl))
   have h2 : EV _ (fv 2) w1 := hp 2 (LC (by kernel_rfl))
   refine tyAt_none rfl ?_
   refine ty_call (f := 68) (args := #[.agg #[.int .u64 ((zl x.num : Nat) : Int), .string (zh x.num), .bool (zs x.num), .int .u64 ((lo (fe x) : Nat) : Int), .string (hs (fe x))], .int .i64 m]) (by simp [execOp, go_sem, Act.eval, h0, h2]) ?_
   exact (HX.out w1).mono fun e w2 ⟨pv, h1, h2, h3⟩ => ⟨pv, h1, h2, h3⟩
  ·refine tyAt_none rfl ?_
   simp [tyUpon, execOp, go_sem, Act.eval, hc, Below.refl]
  ·refine tyAt_none rfl ?_
   simp [tyUpon, execOp, go_sem, Act.eval, Below.refl]
  ·have h5 : EV _ (fv 5) w1 := hp 5 (LC (by kernel_rfl))
   refine tyAt_none rfl ?_
   refine ty_call (f := 15) (args := #[.slice a2 n2 c2]) (by simp [execOp, go_sem, Act.eval, h5]) ?_
   exact (HD1.out w1 (below_drew hb1)).mono fun e w2 ⟨h1, h2⟩ => ⟨_, h1, rfl, h2⟩
  ·have h4 : EV _ (fv 4) w1 := hp 4 (LC (by kernel_rfl))
   have h6 : EV _ (fv 6) w1 := hp 6 (LC (by kernel_rfl))
   refine tyAt_none rfl ?_
   refine ty_call (f := 68) (args := #[.agg #[.int .u64 ((zl y.num : Nat) : Int), .string (zh y.num), .bool (zs y.num), .int .u64 ((lo (fe y) : Nat) : Int), .string (hs (fe y))], .int .i64 m]) (by simp [execOp, go_sem, Act.eval, h4, h6]) ?_
   exact (HY.out w1).mono fun e w2 ⟨pv, h1, h2, h3⟩ => ⟨pv, h1, h2, h3⟩
  ·have h3 : (PV8 ((pws x N))) (fv 3) w1 := hp 3 (LC (by kernel_rfl))
   refine tyAt_none rfl ?_
   simp [tyUpon, execOp, go_sem, Act.eval, Below.refl]
   exact h3
  ·have h7 : (PV8 ((pws y N))) (fv 7) w1 := hp 7 (LC (by kernel_rfl))
   refine tyAt_none rfl ?_
   simp [tyUpon, execOp, go_sem, Act.eval, Below.refl]
   exact h7
 ·intro fv x51 hb1 hv
  have e0 : fv 0 = _ := hv 0 (by omega)
  have e1 : fv 1 = _ := hv 1 (by omega)
  have e2 : fv 2 = _ := hv 2 (by omega)
  have q3 : SlQ x51 (fv 3) ((pws x N)) := hv 3 (by omega)
  obtain ⟨g1, d1, g1c, e3⟩ := slq_form8 q3
  rw [e3] at q3
  have e4 : fv 4 = _ := hv 4 (by omega)
  have e5 : fv 5 = _ := hv 5 (by omega)
  have e6 : fv 6 = _ := hv 6 (by omega)
  have q7 : SlQ x51 (fv 7) ((pws y N)) := hv 7 (by omega)
  obtain ⟨g2, d2, g2c, e7⟩ := slq_form8 q7
  rw [e7] at q7
  have q8 : SlQ x51 (fv 8) ((pws x N)) := hv 8 (by omega)
  obtain ⟨g3, d3, g3c, e8⟩ := slq_form8 q8
  rw [e8] at q8
  have q9 : SlQ x51 (fv 9) ((pws y N)) := hv 9 (by omega)
  obtain ⟨g4, d4, g4c, e9⟩ := slq_form8 q9
  rw [e9] at q9
  simp only [List.take_succ_cons, List.take_zero, putsV, Act.put, zP, List.drop_succ_cons, List.drop_zero, Nat.zero_add, Nat.reduceAdd, e0, e1, e2, e3, e4, e5, e6, e7, e8, e9]
  replace hL0 := hL0.call (below_drew hb1)
  replace hS := hS.call (below_drew hb1)
  have hxs := Lib.hid q8
  have hys := Lib.hid q9
  have hbz := Lib.hid (below_drew hb1)
  clear e0 e1 e2 e3 e4 e5 e6 e7 e8 e9 hb1 hv q3 q7 q8 q9 fv
  obtain ⟨gx, rfl, hnx, hfx⟩ := slq_pos hxs.out (by rw [pws_len]; omega)
  obtain ⟨gy, rfl, hny, hfy⟩ := slq_pos hys.out (by rw [pws_len]; omega)
  rw [pws_len] at hnx hny
  have hbs : ∀ p ∈ ([(b6, [.int .u64 0, .string ⟨#[]⟩, .bool false, .int .u64 0, .string ⟨#[]⟩]), (b5, [.int .u64 ((zl y.num : Nat) : Int), .string (zh y.num), .bool (zs y.num), .int .u64 ((lo (fe y) : Nat) : Int), .string (hs (fe y))]), (b4, [.int .u64 ((zl x.num : Nat) : Int), .string (zh x.num), .bool (zs x.num), .int .u64 ((lo (fe x) : Nat) : Int), .string (hs (fe x))])] : List (Nat × List Value)), p.1 < x51.heap.size := fun p hp => (hL0.all p hp).2.lt
  have hwE : w.heap.size ≤ x51.heap.size := hL0.bl.size
  replace hbs := Lib.hid hbs
  replace hwE := Lib.hid hwE
  replace hfx := Lib.hid hfx
  replace hfy := Lib.hid hfy
  replace hnx := Lib.hid hnx
  replace hny := Lib.hid hny
  clear hxs hys
  go_wp2_with fail
  go_loopg [9, 24] n2 (fun gk sv iv wr => ∃ (k : Nat) (zi : Int) (vs : Value), k + gk = n2 ∧ vs = sv ∧ iv = .int .i64 zi ∧ zi = (k : Int) ∧ OwnF wr x51.heap.size vs k (VL.take k) ∧ Below x51.heap.size x51 wr ∧ GL w wr [(b6, [.int .u64 0, .string ⟨#[]⟩, .bool false, .int .u64 0, .string ⟨#[]⟩]), (b5, [.int .u64 ((zl y.num : Nat) : Int), .string (zh y.num), .bool (zs y.num), .int .u64 ((lo (fe y) : Nat) : Int), .string (hs (fe y))]), (b4, [.int .u64 ((zl x.num : Nat) : Int), .string (zh x.num), .bool (zs x.num), .int .u64 ((lo (fe x) : Nat) : Int), .string (hs (fe x))])])
  case atStart => exact ⟨0, 0, _, Nat.zero_add n2, rfl, by first | rfl | go_num, rfl, World.ownsRow_nil _ _ _ _, Below.refl _ _, hL0⟩
  case round =>
   clear hL0
   obtain ⟨k, zi, vs, hik, rfl, rfl, hzi, hown, hBz, hL0⟩ := hrel
   replace hBz := Lib.hid hBz
   replace hown := Lib.hid hown
   rcases Nat.lt_or_ge k n2 with hin | hin
   ·subst hzi
    have hkP : k < P.length := by rw [← hnl.out]; exact hin
    have hko : k < (ofL P).length := by rw [ofL_length]; exact hkP
    obtain ⟨g, rfl, hts⟩ := hpp.out (by omega)
    have hf := ((hts.below hbz.out).below hBz.out).cell k hko
    have k1 : (k : Int) < (n2 : Int) := by omega
    have k0 : (0 : Int) ≤ (k : Int) := Int.natCast_nonneg _
    obtain ⟨an, bn, q, hPk⟩ : ∃ a b q, P[k] = (a, b, q) := ⟨_, _, _, rfl⟩
    rw [ofL_get hkP hko hPk] at hf
    simp only at hf
    have hmem : (an, bn, q) ∈ P := by rw [← hPk]; exact List.getElem_mem hkP
    have hNN := hPN.out _ hmem
    simp only at hNN
    have hm1 := HM1.out _ hmem
    have hm2 := HM2.out _ hmem
    have hanl : an < (pws x N).length := by rw [pws_len]; have := hNN.1; omega
    have hbnl : bn < (pws y N).length := by rw [pws_len]; have := hNN.2; omega
    simp only at hm1 hm2
    obtain ⟨px, hpx⟩ : ∃ px, px = (pws x N)[an] := ⟨_, rfl⟩
    obtain ⟨py, hpy⟩ : ∃ py, py = (pws y N)[bn] := ⟨_, rfl⟩
    have e1 : x ^ an = px := by rw [hpx, pws_get]
    have e2 : y ^ bn = py := by rw [hpy, pws_get]
    obtain ⟨r, hr⟩ : ∃ r, r = q * (x ^ an * y ^ bn) := ⟨_, rfl⟩
    have htk : VL.take (k + 1) = VL.take k ++ [r] := by
     rw [hVL.out, ← List.map_take, ← List.map_take, List.take_succ_eq_append_getElem hkP, List.map_append, hPk, hr]; rfl
    rw [← hr] at hm2
    rw [e1, e2] at hm1 hm2
    obtain ⟨pxy, hpxy⟩ : ∃ pxy, pxy = px * py := ⟨_, rfl⟩
    rw [← hpxy] at hm1 hm2
    have k4 : ((an : Nat) : Int) < (d3 : Int) := by rw [hnx.out]; have := hNN.1; omega
    have k5 : an < d3 := by rw [hnx.out]; have := hNN.1; omega
    have k6 : ¬ ((an : Nat) : Int) < 0 := by omega
    have k7 : ((bn : Nat) : Int) < (d4 : Int) := by rw [hny.out]; have := hNN.2; omega
    have k8 : bn < d4 := by rw [hny.out]; have := hNN.2; omega
    have k9 : ¬ ((bn : Nat) : Int) < 0 := by omega
    replace HM1 := Lib.hid hm1
    replace HM2 := Lib.hid hm2
    replace hanl := Lib.hid hanl
    replace hbnl := Lib.hid hbnl
    replace hpx := Lib.hid hpx
    replace hpy := Lib.hid hpy
    replace hpxy := Lib.hid hpxy
    replace hr := Lib.hid hr
    replace htk := Lib.hid htk
    replace hPk := Lib.hid hPk
    replace hNN := Lib.hid hNN
    replace e1 := Lib.hid e1
    replace e2 := Lib.hid e2
    clear hts hm1 hm2
    obtain ⟨f0, f1, f2, f3, f4, f5, f6⟩ := hf
    replace hL0 := hL0.new rfl [.int .i64 (an : Int), .int .i64 (bn : Int), .int .u64 ((zl q.num : Nat) : Int), .string (zh q.num), .bool (zs q.num), .int .u64 ((lo (fe q) : Nat) : Int), .string (hs (fe q))] 84
    generalize hweq : wr.alloc (.cells #[.int .i64 (an : Int), .int .i64 (bn : Int), .int .u64 ((zl q.num : Nat) : Int), .string (zh q.num), .bool (zs q.num), .int .u64 ((lo (fe q) : Nat) : Int), .string (hs (fe q))] 84) = y3 at hL0
    have hb9 : Below wr.heap.size wr y3 := by rw [← hweq]; exact (Below.refl _ _).alloc (Nat.le_refl _) _
    have hown3 := Lib.hid (own_below hown.out hb9)
    have hBz3 := Lib.hid (hBz.out.trans (hb9.mono hBz.out.size))
    have hEw3 := Lib.hid (show x51.heap.size ≤ y3.heap.size from hBz3.out.size)
    have hfx2 := Lib.hid (hfx.out.below hBz3.out)
    have hfy2 := Lib.hid (hfy.out.below hBz3.out)
    clear hb9
    go_upto_region 7 with fail
    clear hweq f0 f1 f2 f3 f4 f5 f6 hown hBz
    generalize hb11 : wr.heap.size = b11 at hL0 ⊢
    replace hb11 := Lib.hid hb11
    have hS : SS y3 [] := SS.nil y3
    refine region_tl 16 [EV vs, EV (.pointer (some ⟨b11, 2, none⟩)), EV (.agg #[.int .u64 ((zl q.num : Nat) : Int), .string (zh q.num), .bool (zs q.num), .int .u64 ((lo (fe q) : Nat) : Int), .string (hs (fe q))]), EV (.slice (some ⟨gx, 0, none⟩) d3 g3c), EV (.pointer (some ⟨b11, 0, none⟩)), EV (.int .i64 (an : Int)), EV (.pointer (some ⟨gx, an * 5, none⟩)), EV (.agg #[.int .u64 ((zl px.num : Nat) : Int), .string (zh px.num), .bool (zs px.num), .int .u64 ((lo (fe px) : Nat) : Int), .string (hs (fe px))]), EV (.slice (some ⟨gy, 0, none⟩) d4 g4c), EV (.pointer (some ⟨b11, 1, none⟩)), EV (.int .i64 (bn : Int)), EV (.pointer (some ⟨gy, bn * 5, none⟩)), EV (.agg #[.int .u64 ((zl py.num : Nat) : Int), .string (zh py.num), .bool (zs py.num), .int .u64 ((lo (fe py) : Nat) : Int), .string (hs (fe py))]), EV (.agg #[.int .u64 ((zl pxy.num : Nat) : Int), .string (zh pxy.num), .bool (zs pxy.num), .int .u64 ((lo (fe pxy) : Nat) : Int), .string (hs (fe pxy))]), EV (.agg #[.int .u64 ((zl r.num : Nat) : Int), .string (zh r.num), .bool (zs r.num), .int .u64 ((lo (fe r) : Nat) : Int), .string (hs (fe r))]), NewS (y3.heap.size, [.int .u64 ((zl r.num : Nat) : Int), .string (zh r.num), .bool (zs r.num), .int .u64 ((lo (fe r) : Nat) : Int), .string (hs (fe r))], 1)] (by kernel_rfl) (by kernel_rfl) ?_ ?_ ?_
    ·repeat' first | exact stays_nil | apply stays_cons | exact stays_eq _ | exact stays_news _
    ·simp only [List.take_succ_cons, List.take_zero, hopsR, and_true]
     refine ⟨?_, ?_, ?_, ?_, ?_, ?_, ?_, ?_, ?_, ?_, ?_, ?_, ?_, ?_, ?_, ?_⟩ <;> intro fv w1 hb1 hp
     all_goals (have hc := (hL0.call (below_drew hb1)).fc; simp only [zF, Nat.reduceAdd] at hc; simp only [putsV, Act.put, zP, Nat.zero_add, Nat.reduceAdd])
     ·refine tyAt_none rfl ?_
      simp [tyUpon, execOp, go_sem, Act.eval, k4, k5, k6, k7, k8, k9, Below.refl]
     ·refine tyAt_none rfl ?_
      simp [tyUpon, execOp, go_sem, Act.eval, k4, k5, k6, k7, k8, k9, Below.refl]
     ·have h1 : EV _ (fv 1) w1 := hp 1 (LC (by kernel_rfl))
      refine tyAt_none rfl ?_
      simp [tyUpon, execOp, go_sem, Act.eval, hc, h1, k4, k5, k6, k7, k8, k9, Below.refl]
     ·refine tyAt_none rfl ?_
      simp [tyUpon, execOp, go_sem, Act.eval, k4, k5, k6, k7, k8, k9, Below.refl]
     ·refine tyAt_none rfl ?_
      simp [tyUpon, execOp, go_sem, Act.eval, k4, k5, k6, k7, k8, k9, Below.refl]
     ·have h4 : EV _ (fv 4) w1 := hp 4 (LC (by kernel_rfl))
      refine tyAt_none rfl ?_
      simp [tyUpon, execOp, go_sem, Act.eval, hc, h4, k4, k5, k6, k7, k8, k9, Below.refl]
     ·have h3 : EV _ (fv 3) w1 := hp 3 (LC (by kernel_rfl))
      have h5 : EV _ (fv 5) w1 := hp 5 (LC (by kernel_rfl))
      refine tyAt_none rfl ?_
      simp [tyUpon, execOp, go_sem, Act.eval, h3, h5, k4, k5, k6, k7, k8, k9, Below.refl]
     ·have h6 : EV _ (fv 6) w1 := hp 6 (LC (by kernel_rfl))
      refine tyAt_none rfl ?_
      have hx := (hfx2.out.below (below_drew hb1)).cell an hanl.out
      rw [← hpx.out] at hx
      have hy := (hfy2.out.below (below_drew hb1)).cell bn hbnl.out
      rw [← hpy.out] at hy
      simp [tyUpon, execOp, go_sem, Act.eval, hc, h6, k4, k5, k6, k7, k8, k9, hx, hy, Below.refl]
     ·refine tyAt_none rfl ?_
      simp [tyUpon, execOp, go_sem, Act.eval, k4, k5, k6, k7, k8, k9, Below.refl]
     ·refine tyAt_none rfl ?_
      simp [tyUpon, execOp, go_sem, Act.eval, k4, k5, k6, k7, k8, k9, Below.refl]
     ·have h9 : EV _ (fv 9) w1 := hp 9 (LC (by kernel_rfl))
      refine tyAt_none rfl ?_
      simp [tyUpon, execOp, go_sem, Act.eval, hc, h9, k4, k5, k6, k7, k8, k9, Below.refl]
     ·have h8 : EV _ (fv 8) w1 := hp 8 (LC (by kernel_rfl))
      have h10 : EV _ (fv 10) w1 := hp 10 (LC (by kernel_rfl))
      refine tyAt_none rfl ?_
      simp [tyUpon, execOp, go_sem, Act.eval, h8, h10, k4, k5, k6, k7, k8, k9, Below.refl]
     ·have h11 : EV _ (fv 11) w1 := hp 11 (LC (by kernel_rfl))
      refine tyAt_none rfl ?_
      have hx := (hfx2.out.below (below_drew hb1)).cell an hanl.out
      rw [← hpx.out] at hx
      have hy := (hfy2.out.below (below_drew hb1)).cell bn hbnl.out
      rw [← hpy.out] at hy
      simp [tyUpon, execOp, go_sem, Act.eval, hc, h11, k4, k5, k6, k7, k8, k9, hx, hy, Below.refl]
     ·have h7 : EV _ (fv 7) w1 := hp 7 (LC (by kernel_rfl))
      have h12 : EV _ (fv 12) w1 := hp 12 (LC (by kernel_rfl))
      refine tyAt_none rfl ?_
      refine ty_call (f := 28) (args := #[.agg #[.int .u64 ((zl px.num : Nat) : Int), .string (zh px.num), .bool (zs px.num), .int .u64 ((lo (fe px) : Nat) : Int), .string (hs (fe px))], .agg #[.int .u64 ((zl py.num : Nat) : Int), .string (zh py.num), .bool (zs py.num), .int .u64 ((lo (fe py) : Nat) : Int), .string (hs (fe py))]]) (by simp [execOp, go_sem, Act.eval, h7, h12]) ?_
      exact (HM1.out w1).mono fun e w2 ⟨h1, h2⟩ => ⟨_, h1, rfl, h2⟩
     ·have h2 : EV _ (fv 2) w1 := hp 2 (LC (by kernel_rfl))
      have h13 : EV _ (fv 13) w1 := hp 13 (LC (by kernel_rfl))
      refine tyAt_none rfl ?_
      refine ty_call (f := 28) (args := #[.agg #[.int .u64 ((zl q.num : Nat) : Int), .string (zh q.num), .bool (zs q.num), .int .u64 ((lo (fe q) : Nat) : Int), .string (hs (fe q))], .agg #[.int .u64 ((zl pxy.num : Nat) : Int), .string (zh pxy.num), .bool (zs pxy.num), .int .u64 ((lo (fe pxy) : Nat) : Int), .string (hs (fe pxy))]]) (by simp [execOp, go_sem, Act.eval, h2, h13]) ?_
      exact (HM2.out w1).mono fun e w2 ⟨h1, h2⟩ => ⟨_, h1, rfl, h2⟩
     ·have h14 : EV _ (fv 14) w1 := hp 14 (LC (by kernel_rfl))
      refine tyAt_none rfl ?_
      refine ty_val8 (u := .slice (some ⟨w1.heap.size, 0, none⟩) 1 1) (w' := w1.alloc (.cells #[.int .u64 ((zl r.num : Nat) : Int), .string (zh r.num), .bool (zs r.num), .int .u64 ((lo (fe r) : Nat) : Int), .string (hs (fe r))] 47)) (by simp [execOp, go_sem, Act.eval, h14]) ((Below.refl _ _).alloc (Nat.le_refl _) _) (news_mk (below_drew hb1).size)
    ·intro fv x61 hb1 hv
     have e0 : fv 0 = _ := hv 0 (by omega)
     have e1 : fv 1 = _ := hv 1 (by omega)
     have e2 : fv 2 = _ := hv 2 (by omega)
     have e3 : fv 3 = _ := hv 3 (by omega)
     have e4 : fv 4 = _ := hv 4 (by omega)
     have e5 : fv 5 = _ := hv 5 (by omega)
     have e6 : fv 6 = _ := hv 6 (by omega)
     have e7 : fv 7 = _ := hv 7 (by omega)
     have e8 : fv 8 = _ := hv 8 (by omega)
     have e9 : fv 9 = _ := hv 9 (by omega)
     have e10 : fv 10 = _ := hv 10 (by omega)
     have e11 : fv 11 = _ := hv 11 (by omega)
     have e12 : fv 12 = _ := hv 12 (by omega)
     have e13 : fv 13 = _ := hv 13 (by omega)
     have e14 : fv 14 = _ := hv 14 (by omega)
     have q15 : NewS ((y3.heap.size, [.int .u64 ((zl r.num : Nat) : Int), .string (zh r.num), .bool (zs r.num), .int .u64 ((lo (fe r) : Nat) : Int), .string (hs (fe r))], 1)) (fv 15) x61 := hv 15 (by omega)
     obtain ⟨g1, e15, ng1, mg1⟩ := news_parts q15
     rw [e15] at q15
     simp only [List.take_succ_cons, List.take_zero, putsV, Act.put, zP, List.drop_succ_cons, List.drop_zero, Nat.zero_add, Nat.reduceAdd, e0, e1, e2, e3, e4, e5, e6, e7, e8, e9, e10, e11, e12, e13, e14, e15]
     replace hL0 := hL0.call (below_drew hb1)
     replace hS := hS.call (below_drew hb1)
     have hown7 := Lib.hid (own_below hown3.out (below_drew hb1))
     have hEw7 := Lib.hid (Nat.le_trans hEw3.out (below_drew hb1).size)
     have hBz7 := Lib.hid (hBz3.out.trans ((below_drew hb1).mono hBz3.out.size))
     clear e0 e1 e2 e3 e4 e5 e6 e7 e8 e9 e10 e11 e12 e13 e14 e15 hb1 hv q15 fv
     have hH := Lib.hid mg1
     go_wp2_with (at_builtin; refine wp_appendF rfl _ _ rfl x51.heap.size _ _ _ rfl hown7.out _ r rfl hH.out (by omega) hEw7.out ?_)
     intro v' w8 hown8 hgrow
     rw [← htk.out] at hown8
     have hL8 := gl_grown (hL0.weak (List.Sublist.cons _ (List.Sublist.refl _))) hgrow (fun z hz => ⟨Nat.le_trans hwE.out (hown7.out.lt z hz).1, fun p hp => Nat.ne_of_lt (Nat.lt_of_lt_of_le (hbs.out p hp) (hown7.out.lt z hz).1)⟩)
     have hBz8 := Lib.hid (hBz7.out.grown hgrow hBz7.out.size (fun z hz => (hown7.out.lt z hz).1))
     replace hown8 := Lib.hid hown8
     clear hgrow hown7 hEw7 hL0 hH hBz7
     go_wp2_with fail
     go_roundg (n2 - (k + 1))
     case measure => omega
     case rel => exact ⟨k + 1, _, _, by omega, rfl, by first | rfl | go_num, by omega, hown8.out, hBz8.out, hL8⟩
   ·obtain rfl : k = n2 := by omega
    subst hzi
    have k1 : ¬ (k : Int) < (k : Int) := by omega
    have hvl : VL.length = k := by rw [hVL.out, List.length_map, hnl.out]
    have hsl := own_slq hown.out (by rw [List.length_take, hvl]; omega)
    rw [List.take_of_length_le (Nat.le_of_eq hvl)] at hsl
    replace hsl := Lib.hid hsl
    go_wp2_with fail
    with_reducible refine Calls.mono (HSm.out _ _ hsl.out) ?_
    rintro e y9 ⟨rfl, hb⟩
    replace hL0 := hL0.call hb
    clear hb
    have hA := hL0.fc
    simp only [zF, Nat.reduceAdd] at hA
    have hPt := hL0.put 0 b6 _ rfl [.int .u64 ((zl s.num : Nat) : Int), .string (zh s.num), .bool (zs s.num), .int .u64 ((lo (fe s) : Nat) : Int), .string (hs (fe s))] rfl
    simp only [setAll, List.set_cons_zero, List.set_cons_succ] at hPt
    generalize hput1 : (((((y9.setCell ⟨b6, 0, none⟩ (.int .u64 ((zl s.num : Nat) : Int))).setCell ⟨b6, 1, none⟩ (.string (zh s.num))).setCell ⟨b6, 2, none⟩ (.bool (zs s.num))).setCell ⟨b6, 3, none⟩ (.int .u64 ((lo (fe s) : Nat) : Int))).setCell ⟨b6, 4, none⟩ (.string (hs (fe s)))) = y10 at hPt
    have hB1 := hPt.fc
    simp only [zF, Nat.reduceAdd] at hB1
    go_wp2_with fail
    exact bodyPost_ret (v := fracV s) (by simp [results, Tryz.results27, go_sem, hB1]) rfl ⟨rfl, hPt.bl⟩
end Go.Proofs.YtkpghlnegbimdaaGreatDoor
namespace Go.Proofs.YtkpghlnegbimdaaGreatDoor
open Go.RowKit
attribute [local irreducible] lo hs sm s64 c64 d64 b64 mh ml pd pc qd qc val hiB str cmpI srD lz nb zl zh zs fe klT ordZ
def pwL (c : UInt8) (n : Nat) : List UInt8 := if n = 1 then [c] else c :: 94 :: Lib.decDigits n
def sgL (neg first : Bool) : List UInt8 := if neg then (if first then [45] else [32, 45, 32]) else if first then [] else [32, 43, 32]
theorem sign8_any (neg first : Bool) (w : World) : Calls Tryz.prog 54 #[.bool neg, .bool first] w fun e w' => e = .returned (.string ⟨(sgL neg first).toArray⟩) ∧ Below w.heap.size w w' := by
 cases neg <;> cases first <;> (go_enter Tryz.func54, Tryz.ntmps54; go_wp2_with fail; exact bodyPost_ret (v := .string ⟨(sgL _ _).toArray⟩) (by simp [results, Tryz.results54, go_sem] <;> rfl) rfl ⟨rfl, Below.refl _ _⟩)
theorem dec_small8 : (List.range 100).all (fun n => decide ((Lib.decDigits n).length ≤ 2)) = true := by kernel_rfl
theorem dec_len8 {n : Nat} (h : n < 100) : (Lib.decDigits n).length ≤ 2 := by
 have := List.all_eq_true.1 dec_small8 n (List.mem_range.2 h)
 exact of_decide_eq_true this
theorem power8_any (c : UInt8) (n : Nat) (hn : n < 100) (w : World) :
  Calls Tryz.prog 103 #[.string ⟨#[c]⟩, .int .i64 (n : Int)] w fun e w' => e = .returned (.string ⟨(pwL c n).toArray⟩) ∧ Below w.heap.size w w' := by
 by_cases h1 : n = 1
 ·subst h1
  go_enter Tryz.func103, Tryz.ntmps103
  go_wp2_with fail
  exact bodyPost_ret (v := .string ⟨(pwL c 1).toArray⟩) (by simp [results, Tryz.results103, go_sem] <;> rfl) rfl ⟨rfl, Below.refl _ _⟩
 ·have k1 : ¬ ((n : Int) = 1) := by omega
  have hp : pwL c n = [c] ++ [94] ++ Lib.decDigits n := by unfold pwL; rw [if_neg h1]; rfl
  have HI := Lib.hid (fun w => Tryz.strconv_Itoa_small n hn w)
  obtain ⟨D, hD⟩ : ∃ D, D = Lib.decDigits n := ⟨_, rfl⟩
  have hd := dec_len8 hn
  rw [← hD] at hp HI hd
  have hd2 : (D.length : Int) ≤ 2 := by omega
  have hd3 : ¬ (9223372036854775807 : Int) < 2 + (D.length : Int) := by omega
  rw [hp]
  clear hD hp
  go_enter Tryz.func103, Tryz.ntmps103
  go_wp2_with fail
  refine (HI.out _).mono ?_
  rintro e w' ⟨rfl, rfl⟩
  go_wp2_with fail
  exact bodyPost_ret (v := .string ⟨([c] ++ [94] ++ D).toArray⟩) (by simp [results, Tryz.results103, go_sem]; apply ByteArray.ext; simp) rfl ⟨rfl, Below.refl _ _⟩
/-- A row of strings of one's own. -/
abbrev OwnS (w : World) (B : Nat) (v : Value) (n : Nat) (l : List ByteArray) : Prop := w.ownsRow B 9 1 v n (l.map .string)
theorem infoS8 : (Tryz.prog.info? 9).map (fun i => (i.zero, i.size, i.bytes)) = some (some (.string ⟨#[]⟩), 1, 16) := by kernel_rfl
theorem wp_appendS {w : World} {ops : Array Oper} {rest : List Oper} {o : Oper} {a : Act} {Q : Exit → Act → World → Prop} (hgd : o.guard = none) (s x : Operand)
  (ho : o.op = .call { callee := .builtin .append, args := #[s, x], argTypes := #[108, 108] }) (B : Nat) (v : Value) (n : Nat) (L : List ByteArray) (hs : a.eval s = v) (hown : OwnS w B v n L) (g : Nat) (t : ByteArray) (hx : a.eval x = .slice (some ⟨g, 0, none⟩) 1 1) (hH : Hd w g [.string t])
  (hn : n ≤ 100000) (hbase : B ≤ w.heap.size)
  (h : ∀ v' w', OwnS w' B v' (n + 1) (L ++ [t]) → w.grownBy w' v.ownBlock → (v'.ownBlock = v.ownBlock ∨ v'.ownBlock = some w.heap.size) → wpList Tryz.prog ops Q rest (a.put o.dst v') w') : wpList Tryz.prog ops Q (o :: rest) a w := by
 obtain ⟨i0, hi, hz1, hz2, hz3⟩ := info_parts infoS8
 refine wpList_append_own_at w hgd s x 108 ho B 9 i0 (.string ⟨#[]⟩) 1 16 Tryz.underlying108 hi hz1 hz2 hz3 rfl (by decide) v n (L.map .string) hs hown ⟨g, 0, none⟩ 1 1 [.string t] hx rfl (hd_newsH hH) (fun u hu => by rw [List.mem_singleton.1 hu]; rfl) (by unfold maxLen; omega) (by omega) hbase ?_
 intro v' w' h1 h2 _ h4
 refine h v' w' ?_ h2 h4
 unfold OwnS
 rw [List.map_append]; exact h1
theorem ownS_below {w w' : World} {B n : Nat} {v : Value} {l : List ByteArray} (h : OwnS w B v n l) (hb : Below w.heap.size w w') : OwnS w' B v n l := by
 refine ⟨h.1, ?_⟩
 rcases h.2 with h1 | ⟨g, cap, cur, h1, h2, h3, h4⟩
 ·exact .inl h1
 ·refine .inr ⟨g, cap, cur, h1, h2, ?_, h4⟩
  have hg := (World.ownsRow.lt h g (by rw [h1]; rfl)).2
  rw [hb.block g hg]; exact h3
theorem ownS_cells {w : World} {B n : Nat} {v : Value} {l : List ByteArray} (h : OwnS w B v n l) (h0 : 0 < l.length) : ∃ g c, v = .slice (some ⟨g, 0, none⟩) l.length c ∧ l.length ≤ c ∧ g < w.heap.size ∧ ∀ (j : Nat) (x : ByteArray), l[j]? = some x → w.cell? ⟨g, 0 + j, none⟩ = some (.string x) := by
 have hl : l.length = n := by have := h.1; rw [List.length_map] at this; omega
 rcases h.2 with ⟨_, h1⟩ | ⟨g, cap, cur, h1, h2, h3, h4, h5, h6, h7⟩
 ·omega
 ·refine ⟨g, cap, by rw [h1, hl], by omega, (World.ownsRow.lt h g (by rw [h1]; rfl)).2, fun j x hx => ?_⟩
  rw [cell_of_row _ _ _ _ _ _ h3, Nat.zero_add]
  have hj : (l.map Value.string)[j]? = some (.string x) := by rw [List.getElem?_map, hx]; rfl
  rw [← h7, List.getElem?_take] at hj
  split at hj
  ·rw [← Array.getElem?_toList]; exact hj
  ·cases hj
def nkF (i j k : Nat) : Nat := if k = 0 then i else j
def ckF (k : Nat) : UInt8 := if k = 0 then 120 else 121
def facK (b : List ByteArray) (i j : Nat) : Nat → List ByteArray
 | 0 => b
 | k + 1 => facK b i j k ++ (if 0 < nkF i j k then [⟨(pwL (ckF k) (nkF i j k)).toArray⟩] else [])
theorem facK_len (b : List ByteArray) (i j : Nat) : ∀ k, (facK b i j k).length ≤ b.length + k
 | 0 => Nat.le_refl _
 | k + 1 => by
  have := facK_len b i j k
  unfold facK
  rw [List.length_append]
  split <;> simp <;> omega
theorem fac_neq (i j : Nat) (q c one : Rat) (S : ByteArray) (hi : i ≤ 12) (hj : j ≤ 12)
  (HA : ∀ w : World, Calls Tryz.prog 47 #[fracV q] w fun xe w' => xe = .returned (fracV c) ∧ Below w.heap.size w w')
  (HI : ∀ w : World, Calls Tryz.prog 35 #[.int .i64 1] w fun xe w' => xe = .returned (fracV one) ∧ Below w.heap.size w w')
  (HT : ∀ w : World, Tab w → Calls Tryz.prog 46 #[fracV c] w fun xe w' => xe = .returned (.string S) ∧ Below w.heap.size w w')
  (hy : false = decide (c = one))  (w : World) (ht : Tab w) :
  Calls Tryz.prog 57 #[.agg #[.int .i64 (i : Int), .int .i64 (j : Int), .int .u64 ((zl q.num : Nat) : Int), .string (zh q.num), .bool (zs q.num), .int .u64 ((lo (fe q) : Nat) : Int), .string (hs (fe q))]] w fun xe w' => ∃ v n, xe = .returned v ∧ OwnS w' w.heap.size v n (facK [S] i j 2) ∧ Below w.heap.size w w' := by
 replace HA := Lib.hid HA
 replace HI := Lib.hid HI
 replace HT := Lib.hid HT
 replace ht := Lib.hid ht
 have HE := fun W => run_neqF c one false hy W
 clear hy
 have k0 : True := trivial
 have k1 : (i : Int) ≤ 12 := by omega
 have k2 : (j : Int) ≤ 12 := by omega
 have k3 : (0 : Int) ≤ (i : Int) := by omega
 have k4 : (0 : Int) ≤ (j : Int) := by omega
 have hL0 : GL w w [] := GL.start w
 obtain ⟨x1, hweq, hL0⟩ := GL.named (hL0.new rfl [.int .i64 (i : Int), .int .i64 (j : Int), .int .u64 ((zl q.num : Nat) : Int), .string (zh q.num), .bool (zs q.num), .int .u64 ((lo (fe q) : Nat) : Int), .string (hs (fe q))] 84)
 have hN0 := cells_of _ 0 [] rfl (hL0.get _ _ mZ)
 simp only [zF, Nat.reduceAdd] at hN0
 go_enter Tryz.func57, Tryz.ntmps57
 go_wp2_with fail
 with_reducible refine Calls.mono (HA.out _) ?_
 rintro e y1 ⟨rfl, hb⟩
 clear hN0 hweq
 replace hL0 := hL0.call hb
 clear hb
 generalize hb1 : w.heap.size = b1 at hL0 ⊢
 replace hb1 := Lib.hid hb1
 obtain ⟨x2, hweq, hL0⟩ := GL.named (hL0.new rfl [.int .u64 ((zl c.num : Nat) : Int), .string (zh c.num), .bool (zs c.num), .int .u64 ((lo (fe c) : Nat) : Int), .string (hs (fe c))] 47)
 go_upto_region 3 with fail
 generalize hb4 : y1.heap.size = b4 at hL0 ⊢
 replace hb4 := Lib.hid hb4
 clear hweq
 obtain ⟨α, iα, F, hF1, hF2⟩ := cls x2
 have hq0 := cls_box hF1 hL0 _ _ mZ
 simp only [zC, Nat.reduceAdd] at hq0
 have hq1 := cls_box hF1 hL0 _ _ (mK mZ)
 simp only [zC, Nat.reduceAdd] at hq1
 refine region_qs 11 (C := fun w' => ∃ x, w' = F x) (by kernel_rfl) (by kernel_rfl) (cls_drew hF2) ?_
 simp only [zT]
 repeat (go_big_quiet_step (first | fail | (go_at_call 35; with_reducible exact cls_call hF1 hF2 HI.out _)))
 refine wpQuiet_nil ?_
 rintro wq ⟨xq, rfl⟩
 replace hL0 := hL0.call (hF1 xq)
 clear  hq0 hq1 hF2 HE
 generalize F xq = x3 at hL0 ⊢
 clear hF1 xq iα F α
 have hN0 := cells_of _ 0 [] rfl (hL0.get _ _ mZ)
 simp only [zF, Nat.reduceAdd] at hN0
 go_wp2_with fail
 with_reducible refine Calls.mono (HT.out _ (ht.out.below (hb1.out ▸ hL0.bl))) ?_
 rintro e y3 ⟨rfl, hb⟩
 clear hN0
 replace hL0 := hL0.call hb
 clear hb
 have hown0 : OwnS y3 b1 (.slice none 0 0) 0 [] := World.ownsRow_nil _ _ _ _
 replace hL0 := hL0.new rfl [.string S] 9
 generalize hweq : y3.alloc (.cells #[.string S] 9) = y4 at hL0
 have hA : Below y3.heap.size y3 y4 := hweq ▸ ((Below.refl _ _).alloc (Nat.le_refl _) _)
 have hown1 := Lib.hid (ownS_below hown0 hA)
 have hH := Lib.hid (hL0.get _ _ mZ)
 have hbE := Lib.hid (show b1 ≤ y4.heap.size from hb1.out ▸ hL0.bl.size)
 go_wp2_with (at_builtin; refine wp_appendS rfl _ _ rfl b1 _ 0 [] rfl hown1.out _ S rfl hH.out (by omega) hbE.out ?_)
 intro v' w5 hown5 hgrow hvw
 have hL5 := gl_grown hL0 hgrow (fun x hx => by cases hx)
 replace hown5 := Lib.hid hown5
 clear hgrow hown1 hH hbE hL0 hown0 hA hweq hvw
 have hL0 := hL5.weak (.cons _ (.cons _ (.refl _)))
 clear hL5
 have hN0 := cells_of _ 0 [] rfl (hL0.get _ _ mZ)
 simp only [zF, Nat.reduceAdd] at hN0
 obtain ⟨v5, n5, hv5, hn5⟩ : ∃ v5 n5, v5 = v' ∧ n5 = 1 := ⟨_, _, rfl, rfl⟩
 obtain ⟨x6, hweq, hL0⟩ := GL.named (hL0.new rfl [.string ⟨#[120]⟩, .int .i64 (i : Int), .string ⟨#[121]⟩, .int .i64 (j : Int)] 154)
 have hA : Below w5.heap.size w5 x6 := hweq ▸ ((Below.refl _ _).alloc (Nat.le_refl _) _)
 have hown6 := Lib.hid (ownS_below hown5.out hA)
 have hne6 := Lib.hid (fun g hg => Nat.ne_of_gt (World.ownsRow.lt hown5.out g hg).2)
 have hbE := Lib.hid (show b1 ≤ x6.heap.size from hb1.out ▸ hL0.bl.size)
 clear hA hown5
 go_wp2_with fail
 clear hweq hN0
 generalize hb6 : w5.heap.size = b6 at hL0 hne6 ⊢
 replace hb6 := Lib.hid hb6
 replace hL0 := hL0.weak (.cons_cons _ (.cons _ (.refl _)))
 rw [← hv5] at hown6 hne6 ⊢
 have hown6' : OwnS x6 b1 v5 n5 [S] := by rw [hn5]; exact hown6.out
 have hn5' : n5 ≤ 1 := by omega
 replace hown6' := Lib.hid hown6'
 replace hv5 := Lib.hid hv5
 replace hn5 := Lib.hid hn5
 clear hown6
 go_loopg [3, 34] 2 (fun gk sv iv wr => ∃ (k : Nat) (zi : Int) (vs : Value) (m : Nat), k + gk = 2 ∧ vs = sv ∧ iv = .int .i64 zi ∧ zi = (k : Int) ∧ m ≤ 1 + k ∧ OwnS wr b1 vs m (facK [S] i j k) ∧ (∀ g, vs.ownBlock = some g → b6 ≠ g) ∧ b1 ≤ wr.heap.size ∧ GL w wr [(b6, [.string ⟨#[120]⟩, .int .i64 (i : Int), .string ⟨#[121]⟩, .int .i64 (j : Int)])])
 case atStart => exact ⟨0, 0, _, n5, Nat.zero_add 2, rfl, by first | rfl | go_num, rfl, by omega, hown6'.out, hne6.out, hbE.out, hL0⟩
 case round =>
  clear hown6' hne6 hbE hL0
  obtain ⟨k, zi, vs, m, hik, rfl, rfl, hzi, hm, hown, hne, hbE, hL0⟩ := hrel
  replace hown := Lib.hid hown
  replace hne := Lib.hid hne
  replace hbE := Lib.hid hbE
  rcases Nat.lt_or_ge k 2 with hin | hin
  ·subst hzi
   have hN := cells_of _ 0 [] rfl (hL0.get _ _ mZ)
   simp only [zF, Nat.reduceAdd] at hN
   obtain ⟨c0, c1, c2, c3⟩ := hN
   have hx : wr.cell? ⟨b6, k * 2, none⟩ = some (.string ⟨#[ckF k]⟩) := by
    rcases (by omega : k = 0 ∨ k = 1) with rfl | rfl
    ·simpa [ckF] using c0
    ·simpa [ckF] using c2
   have hz : wr.cell? ⟨b6, k * 2 + 1, none⟩ = some (.int .i64 (nkF i j k : Int)) := by
    rcases (by omega : k = 0 ∨ k = 1) with rfl | rfl
    ·simpa [nkF] using c1
    ·simpa [nkF] using c3
   have hF : facK [S] i j (k + 1) = facK [S] i j k ++ (if 0 < nkF i j k then [⟨(pwL (ckF k) (nkF i j k)).toArray⟩] else []) := rfl
   have hnk : nkF i j k ≤ 12 := by unfold nkF; split <;> omega
   clear c0 c1 c2 c3
   generalize nkF i j k = nn at hx hz hF hnk
   generalize ckF k = cc at hx hz hF
   have k5 : (k : Int) < 2 := by omega
   have k6 : (0 : Int) ≤ (k : Int) := Int.natCast_nonneg _
   have k7 : (nn : Int) ≤ 12 := by omega
   have k8 : (0 : Int) ≤ (nn : Int) := Int.natCast_nonneg _
   replace hF := Lib.hid hF
   have HP := Lib.hid (fun w => power8_any cc nn (by omega) w)
   obtain ⟨X, hX⟩ : ∃ X, X = (pwL cc nn).toArray := ⟨_, rfl⟩
   rw [← hX] at HP hF
   clear hX
   replace hL0 := hL0.new rfl [.string ⟨#[cc]⟩, .int .i64 (nn : Int)] 154
   generalize hweq : wr.alloc (.cells #[.string ⟨#[cc]⟩, .int .i64 (nn : Int)] 154) = y6 at hL0
   have hA : Below wr.heap.size wr y6 := hweq ▸ ((Below.refl _ _).alloc (Nat.le_refl _) _)
   have hown6 := Lib.hid (ownS_below hown.out hA)
   have hbE6 := Lib.hid (Nat.le_trans hbE.out hA.size)
   clear hA hown hbE
   have hN0 := cells_of _ 0 [] rfl (hL0.get _ _ mZ)
   simp only [zF, Nat.reduceAdd] at hN0
   by_cases hn0 : 0 < nn
   ·have k9 : (0 : Int) < (nn : Int) := by omega
    rw [if_pos hn0] at hF
    go_wp2_with fail
    with_reducible refine Calls.mono (HP.out _) ?_
    rintro e y7 ⟨rfl, hb⟩
    clear hN0 hweq
    replace hL0 := hL0.call hb
    have hown7 := Lib.hid (ownS_below hown6.out hb)
    have hbE7 := Lib.hid (Nat.le_trans hbE6.out hb.size)
    clear hb hown6 hbE6
    replace hL0 := hL0.new rfl [.string ⟨X⟩] 9
    generalize hweq : y7.alloc (.cells #[.string ⟨X⟩] 9) = y8 at hL0
    have hA : Below y7.heap.size y7 y8 := hweq ▸ ((Below.refl _ _).alloc (Nat.le_refl _) _)
    have hown8 := Lib.hid (ownS_below hown7.out hA)
    have hbE8 := Lib.hid (Nat.le_trans hbE7.out hA.size)
    have hH := Lib.hid (hL0.get _ _ mZ)
    clear hA hown7 hbE7
    go_wp2_with (at_builtin; refine wp_appendS rfl _ _ rfl b1 _ m _ rfl hown8.out _ ⟨X⟩ rfl hH.out (by omega) hbE8.out ?_)
    intro v9 w9 hown9 hgrow hvw
    have hL9 := gl_grown (hL0.weak (L' := [(b6, [.string ⟨#[120]⟩, .int .i64 (i : Int), .string ⟨#[121]⟩, .int .i64 (j : Int)])]) (.cons _ (.cons _ (.refl _)))) hgrow (fun g hg => ⟨by rw [hb1.out]; exact (World.ownsRow.lt hown8.out g hg).1, fun p hp => by rw [List.mem_singleton.1 hp]; exact hne.out g hg⟩)
    rw [← hF.out] at hown9
    have h66 : b6 < y8.heap.size := (hL0.get _ _ (mK (mK mZ))).lt
    have hne9 : ∀ g, v9.ownBlock = some g → b6 ≠ g := by
     intro g hg
     rcases hvw with h | h
     ·exact hne.out g (by rw [← h]; exact hg)
     ·rw [h] at hg
      cases hg
      exact Nat.ne_of_lt h66
    have hbE9 := Nat.le_trans hbE8.out hgrow.size
    clear hgrow hown8 hH hbE8 hL0 hweq hvw hne h66 hx hz
    replace hown9 := Lib.hid hown9
    replace hne9 := Lib.hid hne9
    replace hL9 := Lib.hid hL9
    go_wp2_with fail
    go_roundg (2 - (k + 1))
    case measure => omega
    case rel => exact ⟨k + 1, _, _, m + 1, by omega, rfl, by first | rfl | go_num, by omega, by omega, hown9.out, hne9.out, hbE9, hL9.out⟩
   ·have k9 : ¬ (0 : Int) < (nn : Int) := by omega
    rw [if_neg hn0, List.append_nil] at hF
    go_wp2_with fail
    clear hN0 hweq hx hz
    go_roundg (2 - (k + 1))
    case measure => omega
    case rel => exact ⟨k + 1, _, _, m, by omega, rfl, by first | rfl | go_num, by omega, by omega, by rw [hF.out]; exact hown6.out, hne.out, hbE6.out, hL0.weak (.cons _ (.refl _))⟩
  ·obtain rfl : k = 2 := by omega
   subst hzi
   go_wp2_with fail
   exact bodyPost_ret (v := vs) (by simp [results, Tryz.results57, go_sem]) rfl ⟨_, m, rfl, (by rw [hb1.out]; exact hown.out), hL0.bl⟩
theorem fac_zero (i j : Nat) (q c one : Rat) (S : ByteArray) (hi : i ≤ 12) (hj : j ≤ 12)
  (HA : ∀ w : World, Calls Tryz.prog 47 #[fracV q] w fun xe w' => xe = .returned (fracV c) ∧ Below w.heap.size w w')
  (HI : ∀ w : World, Calls Tryz.prog 35 #[.int .i64 1] w fun xe w' => xe = .returned (fracV one) ∧ Below w.heap.size w w')
  (HT : ∀ w : World, Tab w → Calls Tryz.prog 46 #[fracV c] w fun xe w' => xe = .returned (.string S) ∧ Below w.heap.size w w')
  (hy : true = decide (c = one)) (hz : i + j = 0) (w : World) (ht : Tab w) :
  Calls Tryz.prog 57 #[.agg #[.int .i64 (i : Int), .int .i64 (j : Int), .int .u64 ((zl q.num : Nat) : Int), .string (zh q.num), .bool (zs q.num), .int .u64 ((lo (fe q) : Nat) : Int), .string (hs (fe q))]] w fun xe w' => ∃ v n, xe = .returned v ∧ OwnS w' w.heap.size v n (facK [S] i j 2) ∧ Below w.heap.size w w' := by
 replace HA := Lib.hid HA
 replace HI := Lib.hid HI
 replace HT := Lib.hid HT
 replace ht := Lib.hid ht
 have HE := fun W => run_neqF c one true hy W
 clear hy
 have k0 : (i : Int) + (j : Int) = 0 := by omega
 have k1 : (i : Int) ≤ 12 := by omega
 have k2 : (j : Int) ≤ 12 := by omega
 have k3 : (0 : Int) ≤ (i : Int) := by omega
 have k4 : (0 : Int) ≤ (j : Int) := by omega
 have hL0 : GL w w [] := GL.start w
 obtain ⟨x1, hweq, hL0⟩ := GL.named (hL0.new rfl [.int .i64 (i : Int), .int .i64 (j : Int), .int .u64 ((zl q.num : Nat) : Int), .string (zh q.num), .bool (zs q.num), .int .u64 ((lo (fe q) : Nat) : Int), .string (hs (fe q))] 84)
 have hN0 := cells_of _ 0 [] rfl (hL0.get _ _ mZ)
 simp only [zF, Nat.reduceAdd] at hN0
 go_enter Tryz.func57, Tryz.ntmps57
 go_wp2_with fail
 with_reducible refine Calls.mono (HA.out _) ?_
 rintro e y1 ⟨rfl, hb⟩
 clear hN0 hweq
 replace hL0 := hL0.call hb
 clear hb
 generalize hb1 : w.heap.size = b1 at hL0 ⊢
 replace hb1 := Lib.hid hb1
 obtain ⟨x2, hweq, hL0⟩ := GL.named (hL0.new rfl [.int .u64 ((zl c.num : Nat) : Int), .string (zh c.num), .bool (zs c.num), .int .u64 ((lo (fe c) : Nat) : Int), .string (hs (fe c))] 47)
 go_upto_region 3 with fail
 generalize hb4 : y1.heap.size = b4 at hL0 ⊢
 replace hb4 := Lib.hid hb4
 clear hweq
 obtain ⟨α, iα, F, hF1, hF2⟩ := cls x2
 have hq0 := cls_box hF1 hL0 _ _ mZ
 simp only [zC, Nat.reduceAdd] at hq0
 have hq1 := cls_box hF1 hL0 _ _ (mK mZ)
 simp only [zC, Nat.reduceAdd] at hq1
 refine region_qs 11 (C := fun w' => ∃ x, w' = F x) (by kernel_rfl) (by kernel_rfl) (cls_drew hF2) ?_
 simp only [zT]
 repeat (go_big_quiet_step (first | fail | (go_at_call 35; with_reducible exact cls_call hF1 hF2 HI.out _)))
 refine wpQuiet_nil ?_
 rintro wq ⟨xq, rfl⟩
 replace hL0 := hL0.call (hF1 xq)
 clear  hq0 hq1 hF2 HE
 generalize F xq = x3 at hL0 ⊢
 clear hF1 xq iα F α
 have hN0 := cells_of _ 0 [] rfl (hL0.get _ _ mZ)
 simp only [zF, Nat.reduceAdd] at hN0
 go_wp2_with fail
 with_reducible refine Calls.mono (HT.out _ (ht.out.below (hb1.out ▸ hL0.bl))) ?_
 rintro e y3 ⟨rfl, hb⟩
 clear hN0
 replace hL0 := hL0.call hb
 clear hb
 have hown0 : OwnS y3 b1 (.slice none 0 0) 0 [] := World.ownsRow_nil _ _ _ _
 replace hL0 := hL0.new rfl [.string S] 9
 generalize hweq : y3.alloc (.cells #[.string S] 9) = y4 at hL0
 have hA : Below y3.heap.size y3 y4 := hweq ▸ ((Below.refl _ _).alloc (Nat.le_refl _) _)
 have hown1 := Lib.hid (ownS_below hown0 hA)
 have hH := Lib.hid (hL0.get _ _ mZ)
 have hbE := Lib.hid (show b1 ≤ y4.heap.size from hb1.out ▸ hL0.bl.size)
 go_wp2_with (at_builtin; refine wp_appendS rfl _ _ rfl b1 _ 0 [] rfl hown1.out _ S rfl hH.out (by omega) hbE.out ?_)
 intro v' w5 hown5 hgrow hvw
 have hL5 := gl_grown hL0 hgrow (fun x hx => by cases hx)
 replace hown5 := Lib.hid hown5
 clear hgrow hown1 hH hbE hL0 hown0 hA hweq hvw
 have hL0 := hL5.weak (.cons _ (.cons _ (.refl _)))
 clear hL5
 have hN0 := cells_of _ 0 [] rfl (hL0.get _ _ mZ)
 simp only [zF, Nat.reduceAdd] at hN0
 obtain ⟨v5, n5, hv5, hn5⟩ : ∃ v5 n5, v5 = v' ∧ n5 = 1 := ⟨_, _, rfl, rfl⟩
 obtain ⟨x6, hweq, hL0⟩ := GL.named (hL0.new rfl [.string ⟨#[120]⟩, .int .i64 (i : Int), .string ⟨#[121]⟩, .int .i64 (j : Int)] 154)
 have hA : Below w5.heap.size w5 x6 := hweq ▸ ((Below.refl _ _).alloc (Nat.le_refl _) _)
 have hown6 := Lib.hid (ownS_below hown5.out hA)
 have hne6 := Lib.hid (fun g hg => Nat.ne_of_gt (World.ownsRow.lt hown5.out g hg).2)
 have hbE := Lib.hid (show b1 ≤ x6.heap.size from hb1.out ▸ hL0.bl.size)
 clear hA hown5
 go_wp2_with fail
 clear hweq hN0
 generalize hb6 : w5.heap.size = b6 at hL0 hne6 ⊢
 replace hb6 := Lib.hid hb6
 replace hL0 := hL0.weak (.cons_cons _ (.cons _ (.refl _)))
 rw [← hv5] at hown6 hne6 ⊢
 have hown6' : OwnS x6 b1 v5 n5 [S] := by rw [hn5]; exact hown6.out
 have hn5' : n5 ≤ 1 := by omega
 replace hown6' := Lib.hid hown6'
 replace hv5 := Lib.hid hv5
 replace hn5 := Lib.hid hn5
 clear hown6
 go_loopg [3, 34] 2 (fun gk sv iv wr => ∃ (k : Nat) (zi : Int) (vs : Value) (m : Nat), k + gk = 2 ∧ vs = sv ∧ iv = .int .i64 zi ∧ zi = (k : Int) ∧ m ≤ 1 + k ∧ OwnS wr b1 vs m (facK [S] i j k) ∧ (∀ g, vs.ownBlock = some g → b6 ≠ g) ∧ b1 ≤ wr.heap.size ∧ GL w wr [(b6, [.string ⟨#[120]⟩, .int .i64 (i : Int), .string ⟨#[121]⟩, .int .i64 (j : Int)])])
 case atStart => exact ⟨0, 0, _, n5, Nat.zero_add 2, rfl, by first | rfl | go_num, rfl, by omega, hown6'.out, hne6.out, hbE.out, hL0⟩
 case round =>
  clear hown6' hne6 hbE hL0
  obtain ⟨k, zi, vs, m, hik, rfl, rfl, hzi, hm, hown, hne, hbE, hL0⟩ := hrel
  replace hown := Lib.hid hown
  replace hne := Lib.hid hne
  replace hbE := Lib.hid hbE
  rcases Nat.lt_or_ge k 2 with hin | hin
  ·subst hzi
   have hN := cells_of _ 0 [] rfl (hL0.get _ _ mZ)
   simp only [zF, Nat.reduceAdd] at hN
   obtain ⟨c0, c1, c2, c3⟩ := hN
   have hx : wr.cell? ⟨b6, k * 2, none⟩ = some (.string ⟨#[ckF k]⟩) := by
    rcases (by omega : k = 0 ∨ k = 1) with rfl | rfl
    ·simpa [ckF] using c0
    ·simpa [ckF] using c2
   have hz : wr.cell? ⟨b6, k * 2 + 1, none⟩ = some (.int .i64 (nkF i j k : Int)) := by
    rcases (by omega : k = 0 ∨ k = 1) with rfl | rfl
    ·simpa [nkF] using c1
    ·simpa [nkF] using c3
   have hF : facK [S] i j (k + 1) = facK [S] i j k ++ (if 0 < nkF i j k then [⟨(pwL (ckF k) (nkF i j k)).toArray⟩] else []) := rfl
   have hnk : nkF i j k ≤ 12 := by unfold nkF; split <;> omega
   clear c0 c1 c2 c3
   generalize nkF i j k = nn at hx hz hF hnk
   generalize ckF k = cc at hx hz hF
   have k5 : (k : Int) < 2 := by omega
   have k6 : (0 : Int) ≤ (k : Int) := Int.natCast_nonneg _
   have k7 : (nn : Int) ≤ 12 := by omega
   have k8 : (0 : Int) ≤ (nn : Int) := Int.natCast_nonneg _
   replace hF := Lib.hid hF
   have HP := Lib.hid (fun w => power8_any cc nn (by omega) w)
   obtain ⟨X, hX⟩ : ∃ X, X = (pwL cc nn).toArray := ⟨_, rfl⟩
   rw [← hX] at HP hF
   clear hX
   replace hL0 := hL0.new rfl [.string ⟨#[cc]⟩, .int .i64 (nn : Int)] 154
   generalize hweq : wr.alloc (.cells #[.string ⟨#[cc]⟩, .int .i64 (nn : Int)] 154) = y6 at hL0
   have hA : Below wr.heap.size wr y6 := hweq ▸ ((Below.refl _ _).alloc (Nat.le_refl _) _)
   have hown6 := Lib.hid (ownS_below hown.out hA)
   have hbE6 := Lib.hid (Nat.le_trans hbE.out hA.size)
   clear hA hown hbE
   have hN0 := cells_of _ 0 [] rfl (hL0.get _ _ mZ)
   simp only [zF, Nat.reduceAdd] at hN0
   by_cases hn0 : 0 < nn
   ·have k9 : (0 : Int) < (nn : Int) := by omega
    rw [if_pos hn0] at hF
    go_wp2_with fail
    with_reducible refine Calls.mono (HP.out _) ?_
    rintro e y7 ⟨rfl, hb⟩
    clear hN0 hweq
    replace hL0 := hL0.call hb
    have hown7 := Lib.hid (ownS_below hown6.out hb)
    have hbE7 := Lib.hid (Nat.le_trans hbE6.out hb.size)
    clear hb hown6 hbE6
    replace hL0 := hL0.new rfl [.string ⟨X⟩] 9
    generalize hweq : y7.alloc (.cells #[.string ⟨X⟩] 9) = y8 at hL0
    have hA : Below y7.heap.size y7 y8 := hweq ▸ ((Below.refl _ _).alloc (Nat.le_refl _) _)
    have hown8 := Lib.hid (ownS_below hown7.out hA)
    have hbE8 := Lib.hid (Nat.le_trans hbE7.out hA.size)
    have hH := Lib.hid (hL0.get _ _ mZ)
    clear hA hown7 hbE7
    go_wp2_with (at_builtin; refine wp_appendS rfl _ _ rfl b1 _ m _ rfl hown8.out _ ⟨X⟩ rfl hH.out (by omega) hbE8.out ?_)
    intro v9 w9 hown9 hgrow hvw
    have hL9 := gl_grown (hL0.weak (L' := [(b6, [.string ⟨#[120]⟩, .int .i64 (i : Int), .string ⟨#[121]⟩, .int .i64 (j : Int)])]) (.cons _ (.cons _ (.refl _)))) hgrow (fun g hg => ⟨by rw [hb1.out]; exact (World.ownsRow.lt hown8.out g hg).1, fun p hp => by rw [List.mem_singleton.1 hp]; exact hne.out g hg⟩)
    rw [← hF.out] at hown9
    have h66 : b6 < y8.heap.size := (hL0.get _ _ (mK (mK mZ))).lt
    have hne9 : ∀ g, v9.ownBlock = some g → b6 ≠ g := by
     intro g hg
     rcases hvw with h | h
     ·exact hne.out g (by rw [← h]; exact hg)
     ·rw [h] at hg
      cases hg
      exact Nat.ne_of_lt h66
    have hbE9 := Nat.le_trans hbE8.out hgrow.size
    clear hgrow hown8 hH hbE8 hL0 hweq hvw hne h66 hx hz
    replace hown9 := Lib.hid hown9
    replace hne9 := Lib.hid hne9
    replace hL9 := Lib.hid hL9
    go_wp2_with fail
    go_roundg (2 - (k + 1))
    case measure => omega
    case rel => exact ⟨k + 1, _, _, m + 1, by omega, rfl, by first | rfl | go_num, by omega, by omega, hown9.out, hne9.out, hbE9, hL9.out⟩
   ·have k9 : ¬ (0 : Int) < (nn : Int) := by omega
    rw [if_neg hn0, List.append_nil] at hF
    go_wp2_with fail
    clear hN0 hweq hx hz
    go_roundg (2 - (k + 1))
    case measure => omega
    case rel => exact ⟨k + 1, _, _, m, by omega, rfl, by first | rfl | go_num, by omega, by omega, by rw [hF.out]; exact hown6.out, hne.out, hbE6.out, hL0.weak (.cons _ (.refl _))⟩
  ·obtain rfl : k = 2 := by omega
   subst hzi
   go_wp2_with fail
   exact bodyPost_ret (v := vs) (by simp [results, Tryz.results57, go_sem]) rfl ⟨_, m, rfl, (by rw [hb1.out]; exact hown.out), hL0.bl⟩
theorem fac_skip (i j : Nat) (q c one : Rat) (S : ByteArray) (hi : i ≤ 12) (hj : j ≤ 12)
  (HA : ∀ w : World, Calls Tryz.prog 47 #[fracV q] w fun xe w' => xe = .returned (fracV c) ∧ Below w.heap.size w w')
  (HI : ∀ w : World, Calls Tryz.prog 35 #[.int .i64 1] w fun xe w' => xe = .returned (fracV one) ∧ Below w.heap.size w w')
  (HT : ∀ w : World, Tab w → Calls Tryz.prog 46 #[fracV c] w fun xe w' => xe = .returned (.string S) ∧ Below w.heap.size w w')
  (hy : true = decide (c = one)) (hz : i + j ≠ 0) (w : World) (ht : Tab w) :
  Calls Tryz.prog 57 #[.agg #[.int .i64 (i : Int), .int .i64 (j : Int), .int .u64 ((zl q.num : Nat) : Int), .string (zh q.num), .bool (zs q.num), .int .u64 ((lo (fe q) : Nat) : Int), .string (hs (fe q))]] w fun xe w' => ∃ v n, xe = .returned v ∧ OwnS w' w.heap.size v n (facK [] i j 2) ∧ Below w.heap.size w w' := by
 replace HA := Lib.hid HA
 replace HI := Lib.hid HI
 replace HT := Lib.hid HT
 replace ht := Lib.hid ht
 have HE := fun W => run_neqF c one true hy W
 clear hy
 have k0 : ¬ ((i : Int) + (j : Int) = 0) := by omega
 have k1 : (i : Int) ≤ 12 := by omega
 have k2 : (j : Int) ≤ 12 := by omega
 have k3 : (0 : Int) ≤ (i : Int) := by omega
 have k4 : (0 : Int) ≤ (j : Int) := by omega
 have hL0 : GL w w [] := GL.start w
 obtain ⟨x1, hweq, hL0⟩ := GL.named (hL0.new rfl [.int .i64 (i : Int), .int .i64 (j : Int), .int .u64 ((zl q.num : Nat) : Int), .string (zh q.num), .bool (zs q.num), .int .u64 ((lo (fe q) : Nat) : Int), .string (hs (fe q))] 84)
 have hN0 := cells_of _ 0 [] rfl (hL0.get _ _ mZ)
 simp only [zF, Nat.reduceAdd] at hN0
 go_enter Tryz.func57, Tryz.ntmps57
 go_wp2_with fail
 with_reducible refine Calls.mono (HA.out _) ?_
 rintro e y1 ⟨rfl, hb⟩
 clear hN0 hweq
 replace hL0 := hL0.call hb
 clear hb
 generalize hb1 : w.heap.size = b1 at hL0 ⊢
 replace hb1 := Lib.hid hb1
 obtain ⟨x2, hweq, hL0⟩ := GL.named (hL0.new rfl [.int .u64 ((zl c.num : Nat) : Int), .string (zh c.num), .bool (zs c.num), .int .u64 ((lo (fe c) : Nat) : Int), .string (hs (fe c))] 47)
 go_upto_region 3 with fail
 generalize hb4 : y1.heap.size = b4 at hL0 ⊢
 replace hb4 := Lib.hid hb4
 clear hweq
 obtain ⟨α, iα, F, hF1, hF2⟩ := cls x2
 have hq0 := cls_box hF1 hL0 _ _ mZ
 simp only [zC, Nat.reduceAdd] at hq0
 have hq1 := cls_box hF1 hL0 _ _ (mK mZ)
 simp only [zC, Nat.reduceAdd] at hq1
 refine region_qs 11 (C := fun w' => ∃ x, w' = F x) (by kernel_rfl) (by kernel_rfl) (cls_drew hF2) ?_
 simp only [zT]
 repeat (go_big_quiet_step (first | fail | (go_at_call 35; with_reducible exact cls_call hF1 hF2 HI.out _)))
 refine wpQuiet_nil ?_
 rintro wq ⟨xq, rfl⟩
 replace hL0 := hL0.call (hF1 xq)
 clear  hq0 hq1 hF2 HE
 generalize F xq = x3 at hL0 ⊢
 clear hF1 xq iα F α
 have hown5 := Lib.hid (show OwnS x3 b1 (.slice none 0 0) 0 [] from World.ownsRow_nil _ _ _ _)
 replace hL0 := hL0.weak (.cons _ (.refl _))
 have hN0 := cells_of _ 0 [] rfl (hL0.get _ _ mZ)
 simp only [zF, Nat.reduceAdd] at hN0
 obtain ⟨v5, n5, hv5, hn5⟩ : ∃ v5 n5, v5 = Value.slice none 0 0 ∧ n5 = 0 := ⟨_, _, rfl, rfl⟩
 obtain ⟨x6, hweq, hL0⟩ := GL.named (hL0.new rfl [.string ⟨#[120]⟩, .int .i64 (i : Int), .string ⟨#[121]⟩, .int .i64 (j : Int)] 154)
 have hA : Below x3.heap.size x3 x6 := hweq ▸ ((Below.refl _ _).alloc (Nat.le_refl _) _)
 have hown6 := Lib.hid (ownS_below hown5.out hA)
 have hne6 := Lib.hid (fun g hg => Nat.ne_of_gt (World.ownsRow.lt hown5.out g hg).2)
 have hbE := Lib.hid (show b1 ≤ x6.heap.size from hb1.out ▸ hL0.bl.size)
 clear hA hown5
 go_wp2_with fail
 clear hweq hN0
 generalize hb6 : x3.heap.size = b6 at hL0 hne6 ⊢
 replace hb6 := Lib.hid hb6
 replace hL0 := hL0.weak (.cons_cons _ (.cons _ (.refl _)))
 rw [← hv5] at hown6 hne6 ⊢
 have hown6' : OwnS x6 b1 v5 n5 [] := by rw [hn5]; exact hown6.out
 have hn5' : n5 ≤ 1 := by omega
 replace hown6' := Lib.hid hown6'
 replace hv5 := Lib.hid hv5
 simp only [show ((i : Int) + (j : Int) == 0) = false from beq_eq_false_iff_ne.2 k0]
 replace hn5 := Lib.hid hn5
 clear hown6
 go_loopg [3, 34] 2 (fun gk sv iv wr => ∃ (k : Nat) (zi : Int) (vs : Value) (m : Nat), k + gk = 2 ∧ vs = sv ∧ iv = .int .i64 zi ∧ zi = (k : Int) ∧ m ≤ 1 + k ∧ OwnS wr b1 vs m (facK [] i j k) ∧ (∀ g, vs.ownBlock = some g → b6 ≠ g) ∧ b1 ≤ wr.heap.size ∧ GL w wr [(b6, [.string ⟨#[120]⟩, .int .i64 (i : Int), .string ⟨#[121]⟩, .int .i64 (j : Int)])])
 case atStart => exact ⟨0, 0, _, n5, Nat.zero_add 2, rfl, by first | rfl | go_num, rfl, by omega, hown6'.out, hne6.out, hbE.out, hL0⟩
 case round =>
  clear hown6' hne6 hbE hL0
  obtain ⟨k, zi, vs, m, hik, rfl, rfl, hzi, hm, hown, hne, hbE, hL0⟩ := hrel
  replace hown := Lib.hid hown
  replace hne := Lib.hid hne
  replace hbE := Lib.hid hbE
  rcases Nat.lt_or_ge k 2 with hin | hin
  ·subst hzi
   have hN := cells_of _ 0 [] rfl (hL0.get _ _ mZ)
   simp only [zF, Nat.reduceAdd] at hN
   obtain ⟨c0, c1, c2, c3⟩ := hN
   have hx : wr.cell? ⟨b6, k * 2, none⟩ = some (.string ⟨#[ckF k]⟩) := by
    rcases (by omega : k = 0 ∨ k = 1) with rfl | rfl
    ·simpa [ckF] using c0
    ·simpa [ckF] using c2
   have hz : wr.cell? ⟨b6, k * 2 + 1, none⟩ = some (.int .i64 (nkF i j k : Int)) := by
    rcases (by omega : k = 0 ∨ k = 1) with rfl | rfl
    ·simpa [nkF] using c1
    ·simpa [nkF] using c3
   have hF : facK [] i j (k + 1) = facK [] i j k ++ (if 0 < nkF i j k then [⟨(pwL (ckF k) (nkF i j k)).toArray⟩] else []) := rfl
   have hnk : nkF i j k ≤ 12 := by unfold nkF; split <;> omega
   clear c0 c1 c2 c3
   generalize nkF i j k = nn at hx hz hF hnk
   generalize ckF k = cc at hx hz hF
   have k5 : (k : Int) < 2 := by omega
   have k6 : (0 : Int) ≤ (k : Int) := Int.natCast_nonneg _
   have k7 : (nn : Int) ≤ 12 := by omega
   have k8 : (0 : Int) ≤ (nn : Int) := Int.natCast_nonneg _
   replace hF := Lib.hid hF
   have HP := Lib.hid (fun w => power8_any cc nn (by omega) w)
   obtain ⟨X, hX⟩ : ∃ X, X = (pwL cc nn).toArray := ⟨_, rfl⟩
   rw [← hX] at HP hF
   clear hX
   replace hL0 := hL0.new rfl [.string ⟨#[cc]⟩, .int .i64 (nn : Int)] 154
   generalize hweq : wr.alloc (.cells #[.string ⟨#[cc]⟩, .int .i64 (nn : Int)] 154) = y6 at hL0
   have hA : Below wr.heap.size wr y6 := hweq ▸ ((Below.refl _ _).alloc (Nat.le_refl _) _)
   have hown6 := Lib.hid (ownS_below hown.out hA)
   have hbE6 := Lib.hid (Nat.le_trans hbE.out hA.size)
   clear hA hown hbE
   have hN0 := cells_of _ 0 [] rfl (hL0.get _ _ mZ)
   simp only [zF, Nat.reduceAdd] at hN0
   by_cases hn0 : 0 < nn
   ·have k9 : (0 : Int) < (nn : Int) := by omega
    rw [if_pos hn0] at hF
    go_wp2_with fail
    with_reducible refine Calls.mono (HP.out _) ?_
    rintro e y7 ⟨rfl, hb⟩
    clear hN0 hweq
    replace hL0 := hL0.call hb
    have hown7 := Lib.hid (ownS_below hown6.out hb)
    have hbE7 := Lib.hid (Nat.le_trans hbE6.out hb.size)
    clear hb hown6 hbE6
    replace hL0 := hL0.new rfl [.string ⟨X⟩] 9
    generalize hweq : y7.alloc (.cells #[.string ⟨X⟩] 9) = y8 at hL0
    have hA : Below y7.heap.size y7 y8 := hweq ▸ ((Below.refl _ _).alloc (Nat.le_refl _) _)
    have hown8 := Lib.hid (ownS_below hown7.out hA)
    have hbE8 := Lib.hid (Nat.le_trans hbE7.out hA.size)
    have hH := Lib.hid (hL0.get _ _ mZ)
    clear hA hown7 hbE7
    go_wp2_with (at_builtin; refine wp_appendS rfl _ _ rfl b1 _ m _ rfl hown8.out _ ⟨X⟩ rfl hH.out (by omega) hbE8.out ?_)
    intro v9 w9 hown9 hgrow hvw
    have hL9 := gl_grown (hL0.weak (L' := [(b6, [.string ⟨#[120]⟩, .int .i64 (i : Int), .string ⟨#[121]⟩, .int .i64 (j : Int)])]) (.cons _ (.cons _ (.refl _)))) hgrow (fun g hg => ⟨by rw [hb1.out]; exact (World.ownsRow.lt hown8.out g hg).1, fun p hp => by rw [List.mem_singleton.1 hp]; exact hne.out g hg⟩)
    rw [← hF.out] at hown9
    have h66 : b6 < y8.heap.size := (hL0.get _ _ (mK (mK mZ))).lt
    have hne9 : ∀ g, v9.ownBlock = some g → b6 ≠ g := by
     intro g hg
     rcases hvw with h | h
     ·exact hne.out g (by rw [← h]; exact hg)
     ·rw [h] at hg
      cases hg
      exact Nat.ne_of_lt h66
    have hbE9 := Nat.le_trans hbE8.out hgrow.size
    clear hgrow hown8 hH hbE8 hL0 hweq hvw hne h66 hx hz
    replace hown9 := Lib.hid hown9
    replace hne9 := Lib.hid hne9
    replace hL9 := Lib.hid hL9
    go_wp2_with fail
    go_roundg (2 - (k + 1))
    case measure => omega
    case rel => exact ⟨k + 1, _, _, m + 1, by omega, rfl, by first | rfl | go_num, by omega, by omega, hown9.out, hne9.out, hbE9, hL9.out⟩
   ·have k9 : ¬ (0 : Int) < (nn : Int) := by omega
    rw [if_neg hn0, List.append_nil] at hF
    go_wp2_with fail
    clear hN0 hweq hx hz
    go_roundg (2 - (k + 1))
    case measure => omega
    case rel => exact ⟨k + 1, _, _, m, by omega, rfl, by first | rfl | go_num, by omega, by omega, by rw [hF.out]; exact hown6.out, hne.out, hbE6.out, hL0.weak (.cons _ (.refl _))⟩
  ·obtain rfl : k = 2 := by omega
   subst hzi
   go_wp2_with fail
   exact bodyPost_ret (v := vs) (by simp [results, Tryz.results57, go_sem]) rfl ⟨_, m, rfl, (by rw [hb1.out]; exact hown.out), hL0.bl⟩
end Go.Proofs.YtkpghlnegbimdaaGreatDoor
