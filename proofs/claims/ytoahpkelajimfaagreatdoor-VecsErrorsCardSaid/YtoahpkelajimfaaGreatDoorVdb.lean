/-
  The law answers true at every input, and leaves its arguments as they were: a part of the proof. CONDITIONS: the package-level tables start as the program's text lays them (the card ties them).
-/
import Derived.Test.YtoahpkelajimfaaGreatDoorVda
set_option linter.unusedVariables false
set_option linter.unusedSimpArgs false
namespace Go.Proofs.YtoahpkelajimfaaGreatDoor
open Go.RowKit
section
variable {P : Program} {ops : Array Oper} {C : World → Prop}
/-- .. and, if c says so, its value's block is new. -/
def FrT (T : Value → World → Prop) (c : Bool) (w : World) : Value → World → Prop := fun u w' => T u w' ∧ (c = true → ∀ g, u.ownBlock = some g → w.heap.size ≤ g)
theorem tyUpon_mono {w : World} {T U : Value → World → Prop} {r : Result Next} (h : ∀ u w', T u w' → U u w') (hr : tyUpon P w T r) : tyUpon P w U r := by
 cases r with
 | ok nx w' =>
  cases nx <;> simp only [tyUpon] at hr ⊢
  case value u => exact ⟨hr.1, h _ _ hr.2⟩
  case skip => exact ⟨hr.1, h _ _ hr.2⟩
  case enter f args => exact ⟨hr.1, hr.2.mono fun e w'' ⟨u, h1, h2, h3⟩ => ⟨u, h1, h _ _ h2, h3⟩⟩
 | halt x w' => simp only [tyUpon] at hr
theorem fr_no {o : Oper} {a : Act} {w : World} {T : Value → World → Prop} {c : Bool} (hc : c = false) (h : TyAt P ops o a w T) : TyAt P ops o a w (FrT T c w) := by
 subst hc
 unfold TyAt at h ⊢
 split at h
 ·rename_i hw; rw [if_pos hw]; exact tyUpon_mono (fun u w' hu => ⟨hu, fun h => by cases h⟩) h
 ·rename_i hw; rw [if_neg hw]; exact ⟨h, fun h => by cases h⟩
theorem wpAny_tf {n s : Nat} {l : List Oper} {T : Nat → Value → World → Prop} {w0 : World} {a0 : Act} {Q : Exit → Act → World → Prop} {A Cf : Nat → Bool} (hT : ∀ i, Stays (T i)) (hsel : Region.noSelect l.toArray = true) (hn : n ≤ l.length)
  (hB : barB .any l.toArray n = true) (hN : nodupD (l.take n) = true) (hD : depB l.toArray n = true)
  (hops : ∀ j o, j < n → l[j]? = some o → ∀ v w, Below w0.heap.size w0 w → (∀ p ∈ predsOf .any l.toArray j, T p (v p) w) → TyAt P l.toArray o (putsV (l.take n) 0 v a0) w (FrT (T j) (Cf j) w))
  (hptr : ∀ j, A j = true → ∀ u w, T j u w → ∃ k, u = .pointer (some ⟨k, 0, none⟩) ∧ k < w.heap.size)
  (hown : ∀ j, Cf j = true → ∀ u w, T j u w → ∀ g, u.ownBlock = some g → g < w.heap.size)
  (hnew : ∀ j o, l[j]? = some o → A j = true → o.guard = none ∧ ∃ e c t, o.op = .alloc e ∧ ∀ w, (Instr.alloc e true (.tuple #[])).run P w = .ok (.pointer (some ⟨w.heap.size, 0, none⟩)) (w.alloc (.cells c t)))
  (hend : ∀ v w, Below w0.heap.size w0 w → (∀ i, i < n → T i (v i) w) → (∀ i j, i < n → j < n → i ≠ j → A i = true → A j = true → v i ≠ v j) → (∀ i k, i < n → k < n → A i = true → Cf k = true → ∀ g, (v k).ownBlock = some g → v i ≠ .pointer (some ⟨g, 0, none⟩)) → wpAny P .any l.toArray Q s (canonL l.length n) (putsV (l.take n) 0 v a0) w) :
  ∀ (m : Nat) (listed : Array Bool) (v : Nat → Value) (w : World), left n listed = m → closedL .any l.toArray listed → sufL n l.toArray listed → Below w0.heap.size w0 w →
   (∀ i, i < n → listed.getD i false = true → T i (v i) w) → (∀ i j, i < n → j < n → i ≠ j → A i = true → A j = true → listed.getD i false = true → listed.getD j false = true → v i ≠ v j) → (∀ i k, i < n → k < n → A i = true → Cf k = true → listed.getD i false = true → listed.getD k false = true → ∀ g, (v k).ownBlock = some g → v i ≠ .pointer (some ⟨g, 0, none⟩)) → wpAny P .any l.toArray Q (s + m) listed (putsIf (l.take n) 0 (fun i => listed.getD i false) v a0) w := by
 intro m
 have hlen : (l.take n).length = n := by rw [List.length_take]; omega
 induction m with
 | zero =>
  intro listed v w hl hc hu hb ht hne hse
  have hd := left_zero hl
  rw [putsIf_all (l.take n) 0 a0 fun i _ h2 => doneN_iff.1 hd i (by omega)]
  have e := canon_of hu hd
  rw [show l.toArray.size = l.length by simp] at e
  rw [e]
  exact hend v w hb (fun i hi => ht i hi (doneN_iff.1 hd i hi)) (fun i j hi hj hij ha hb' => hne i j hi hj hij ha hb' (doneN_iff.1 hd i hi) (doneN_iff.1 hd j hj)) (fun i k hi hk ha hb' => hse i k hi hk ha hb' (doneN_iff.1 hd i hi) (doneN_iff.1 hd k hk))
 | succ m ih =>
  intro listed v w hl hc hu hb ht hne hse
  have hnd := left_some hl
  refine ⟨fun h0 => absurd h0 (ready_some hu.1 (by simpa using hn) hD hl), fun j hj => ?_⟩
  have hjn := bar hB hc hj hnd
  obtain ⟨hju, o, ho, -⟩ := mem_ready.1 hj
  have hpre := preds_of_ready hj
  have hol : l[j]? = some o := by simpa using ho
  have hjs : j < l.toArray.size := (Array.getElem?_eq_some_iff.1 ho).1
  have hty := hops j o hjn hol v w hb fun p hp => ht p (by have := depB_pred hD hjn hp; omega) (hpre p hp)
  have hag : ∀ t ∈ o.looksAt l.toArray, (putsIf (l.take n) 0 (fun i => listed.getD i false) v a0).tmps[t]? = (putsV (l.take n) 0 v a0).tmps[t]? := fun t ht' =>
   get_puts (l.take n) 0 a0 a0 rfl fun i o' ho' hd' => by
    have hin : i < n := by rw [← hlen]; exact (List.getElem?_eq_some_iff.1 ho').1
    have ho2 : l.toArray[i]? = some o' := by rw [List.getElem?_take, if_pos hin] at ho'; simpa using ho'
    rw [Nat.zero_add]
    exact hpre i (depB_looks hD hjn hin ho ho2 ht' hd')
  have step : ∀ u w', Below w.heap.size w w' → T j u w' → (A j = true → u = .pointer (some ⟨w.heap.size, 0, none⟩)) → (Cf j = true → ∀ g, u.ownBlock = some g → w.heap.size ≤ g) → wpAny P .any l.toArray Q (s + m) (listed.setIfInBounds j true) ((putsIf (l.take n) 0 (fun i => listed.getD i false) v a0).put o.dst u) w' := by
   intro u w' hw' hu' hun hfr
   have e := put_at (v := v) (v' := fun i => if i = j then u else v i) (b := fun i => listed.getD i false) (b' := fun i => (listed.setIfInBounds j true).getD i false) (j := j) (u := u) (unl hju) (by simp [hu.1]; simpa using hjs) (by simp)
    (fun i hi => ⟨getD_set_ne false fun e => hi e.symm, by simp [hi]⟩) (l.take n) 0 a0 o hN (Nat.zero_le _) (by rw [Nat.sub_zero, List.getElem?_take, if_pos hjn]; exact hol)
   rw [e]
   refine ih _ _ w' (left_set (ops := l.toArray) hu.1 hjn hjs (unl hju) hl) (hc.set hj) ⟨by simpa using hu.1, fun k hk hks => by rw [getD_set_ne true (by omega)]; exact hu.2 k hk hks⟩ (hb.trans (hw'.mono hb.size)) (fun i hi hli => ?_) ?_ ?_
   ·by_cases e : i = j
    ·subst e; simpa using hu'
    ·rw [getD_set_ne false fun e' => e e'.symm] at hli
     simp only [if_neg e]
     exact hT i _ _ _ hw' (ht i hi hli)
   rotate_left
   ·intro i k hi hk hAi hCk hli hlk g hg
    by_cases e : i = j
    ·subst e
     by_cases e2 : k = i
     ·subst e2
      simp only [if_pos] at hg
      rw [hun hAi] at hg
      cases hg
     ·rw [getD_set_ne false fun e' => e2 e'.symm] at hlk
      simp only [if_neg e2] at hg
      simp only [if_pos]
      rw [hun hAi]
      intro he
      have h9 := hown k hCk _ _ (ht k hk hlk) g hg
      simp only [Value.pointer.injEq, Option.some.injEq, Addr.mk.injEq, and_true] at he
      omega
    ·rw [getD_set_ne false fun e' => e e'.symm] at hli
     simp only [if_neg e]
     by_cases e2 : k = j
     ·subst e2
      simp only [if_pos] at hg
      obtain ⟨b, hb1, hb2⟩ := hptr i hAi _ _ (ht i hi hli)
      rw [hb1]
      intro he
      have h9 := hfr hCk g hg
      simp only [Value.pointer.injEq, Option.some.injEq, Addr.mk.injEq, and_true] at he
      omega
     ·rw [getD_set_ne false fun e' => e2 e'.symm] at hlk
      simp only [if_neg e2] at hg
      exact hse i k hi hk hAi hCk hli hlk g hg
   intro i k hi hk hik hAi hAk hli hlk
   by_cases e : i = j
   ·subst e
    have e2 : k ≠ i := fun e => hik e.symm
    rw [getD_set_ne false fun e' => e2 e'.symm] at hlk
    simp only [if_neg e2, if_pos]
    obtain ⟨b, hb1, hb2⟩ := hptr k hAk _ _ (ht k hk hlk)
    rw [hb1, hun hAi]
    intro he
    simp only [Value.pointer.injEq, Option.some.injEq, Addr.mk.injEq, and_true] at he
    omega
   ·rw [getD_set_ne false fun e' => e e'.symm] at hli
    by_cases e2 : k = j
    ·subst e2
     simp only [if_neg e, if_pos]
     obtain ⟨b, hb1, hb2⟩ := hptr i hAi _ _ (ht i hi hli)
     rw [hb1, hun hAk]
     intro he
     simp only [Value.pointer.injEq, Option.some.injEq, Addr.mk.injEq, and_true] at he
     omega
    ·rw [getD_set_ne false fun e' => e2 e'.symm] at hlk
     simp only [if_neg e, if_neg e2]
     exact hne i k hi hk hik hAi hAk hli hlk
  unfold wpOp
  simp only [ho]
  unfold TyAt at hty
  rw [← wanted_same hag] at hty
  by_cases hw : Region.wanted o (yielded l.toArray (putsIf (l.take n) 0 (fun i => listed.getD i false) v a0).tmps) = true
  ·simp only [hw, if_true] at hty ⊢
   refine .inl ?_
   unfold Oper.wp
   rw [exec_same (fun cs b => Region.noSelect_spec hsel j o cs b ho) hag]
   have hal : A j = true → ∀ u w', (execOp (putsV (l.take n) 0 v a0).eval o).run P w = .ok (.value u) w' → u = .pointer (some ⟨w.heap.size, 0, none⟩) := fun hA u w' hr => by
    obtain ⟨_, e, c, t, he, hal⟩ := hnew j o hol hA
    rw [alloc_run he hal] at hr
    simp only [Result.ok.injEq, Next.value.injEq] at hr
    exact hr.1.symm
   have hal2 : A j = true → ∀ w', (execOp (putsV (l.take n) 0 v a0).eval o).run P w ≠ .ok .skip w' := fun hA w' hr => by
    obtain ⟨_, e, c, t, he, hal⟩ := hnew j o hol hA
    rw [alloc_run he hal] at hr
    cases hr
   have hal3 : A j = true → ∀ f args w', (execOp (putsV (l.take n) 0 v a0).eval o).run P w ≠ .ok (.enter f args) w' := fun hA f args w' hr => by
    obtain ⟨_, e, c, t, he, hal⟩ := hnew j o hol hA
    rw [alloc_run he hal] at hr
    cases hr
   generalize (execOp (putsV (l.take n) 0 v a0).eval o).run P w = r at *
   cases r with
   | ok nx w' =>
    cases nx <;> simp only [tyUpon] at hty <;> simp only [Oper.upon]
    case value u => exact step u w' hty.1 hty.2.1 (fun hA => hal hA u w' rfl) hty.2.2
    case skip => exact step undef w' hty.1 hty.2.1 (fun hA => absurd rfl (hal2 hA w')) hty.2.2
    case enter f args =>
     obtain ⟨rfl, hcall⟩ := hty
     exact hcall.mono fun e w'' ⟨u, he, h1, h2⟩ => by subst he; exact step u w'' h2 h1.1 (fun hA => absurd rfl (hal3 hA f args _)) h1.2
   | halt x w' => simp only [tyUpon] at hty
  ·simp only [hw] at hty ⊢
   exact step undef w (Below.refl _ _) hty.1 (fun hA => by
    obtain ⟨hg, _⟩ := hnew j o hol hA
    exact absurd (by unfold Region.wanted; rw [hg]) hw) hty.2
/-- **A region whose first n operations each give a value of a property; then the others, in their order.** -/
theorem region_tf (n : Nat) (T : Nat → Value → World → Prop) (A Cf : Nat → Bool) {id : Nat} {Q : Exit → Act → World → Prop} {a : Act} {w : World} {l : List Oper} (hm : P.follows .mixedOrders = true) (hB : tyB n l = true) (hT : ∀ i, Stays (T i))
  (hops : ∀ j o, j < n → l[j]? = some o → ∀ v w1, Below w.drew.heap.size w.drew w1 → (∀ p ∈ predsOf .any l.toArray j, T p (v p) w1) → TyAt P l.toArray o (putsV (l.take n) 0 v a) w1 (FrT (T j) (Cf j) w1))
  (hptr : ∀ j, A j = true → ∀ u w, T j u w → ∃ k, u = .pointer (some ⟨k, 0, none⟩) ∧ k < w.heap.size)
  (hown : ∀ j, Cf j = true → ∀ u w, T j u w → ∀ g, u.ownBlock = some g → g < w.heap.size)
  (hnew : ∀ j o, l[j]? = some o → A j = true → o.guard = none ∧ ∃ e c t, o.op = .alloc e ∧ ∀ w, (Instr.alloc e true (.tuple #[])).run P w = .ok (.pointer (some ⟨w.heap.size, 0, none⟩)) (w.alloc (.cells c t)))
  (hend : ∀ v w1, Below w.drew.heap.size w.drew w1 → (∀ i, i < n → T i (v i) w1) → (∀ i j, i < n → j < n → i ≠ j → A i = true → A j = true → v i ≠ v j) → (∀ i k, i < n → k < n → A i = true → Cf k = true → ∀ g, (v k).ownBlock = some g → v i ≠ .pointer (some ⟨g, 0, none⟩)) → wpList P l.toArray Q (l.drop n) (putsV (l.take n) 0 v a) w1) : (Code.region id l.toArray true).wp P Q a w := by
 simp only [tyB, Bool.and_eq_true, decide_eq_true_eq] at hB
 obtain ⟨⟨⟨⟨⟨hs, hn⟩, hb⟩, hN⟩, hD⟩, hq⟩ := hB
 refine wp_region_any hm ?_
 have hrep : ∀ i, (Array.replicate l.length false).getD i false = false := fun i => by
  rcases Nat.lt_or_ge i l.length with h' | h' <;> simp [h']
 have h0 : closedL .any l.toArray (Array.replicate l.length false) := fun j o _ hl => by rw [hrep] at hl; cases hl
 have hleft : left n (Array.replicate l.length false) = n := by
  unfold left
  rw [List.countP_eq_length.2 fun i _ => by rw [hrep]; rfl, List.length_range]
 have h2 := wpAny_tf (A := A) (Cf := Cf) (P := P) (s := l.length - n) (Q := Q) (a0 := a) hT hs hn hb hN hD hops hptr hown hnew (fun v w1 h1 h2 hdis hsep => by
   have h3 := wpAny_of_seq (md := .any) (P := P) (Q' := Q) (l.drop n) n (canonL l.length n) (putsV (l.take n) 0 v a) w1 (fun j hj => by simp [List.getElem?_drop]) (by rw [List.length_drop]; exact hq) (hend v w1 h1 h2 hdis hsep)
   rw [List.length_drop] at h3
   exact h3) n (Array.replicate l.length false) (fun _ => undef) w.drew hleft h0 ⟨by simp, fun j _ hj => by simp at hj; simp [hj]⟩ (Below.refl _ _) (fun i _ hl => by rw [hrep] at hl; cases hl) (fun i j _ _ _ _ _ hl => by rw [hrep] at hl; cases hl) (fun i k _ _ _ _ hl => by rw [hrep] at hl; cases hl)
 rw [putsIf_none (l.take n) 0 a fun i _ _ => hrep i, Nat.sub_add_cancel hn] at h2
 simpa using h2
def hopsRF (P : Program) (ops : Array Oper) (T : Nat → Value → World → Prop) (Cf : Nat → Bool) (w0 : World) (F : (Nat → Value) → Act) : List Oper → Nat → Prop
 | [], _ => True
 | o :: l, k => (∀ v w1, Below w0.heap.size w0 w1 → (∀ p ∈ predsOf .any ops k, T p (v p) w1) → TyAt P ops o (F v) w1 (FrT (T k) (Cf k) w1)) ∧ hopsRF P ops T Cf w0 F l (k + 1)
theorem hopsF_of {T : Nat → Value → World → Prop} {Cf : Nat → Bool} {w0 : World} {F : (Nat → Value) → Act} : ∀ (l : List Oper) (k : Nat), hopsRF P ops T Cf w0 F l k → ∀ j o, l[j]? = some o → ∀ v w1, Below w0.heap.size w0 w1 → (∀ p ∈ predsOf .any ops (k + j), T p (v p) w1) → TyAt P ops o (F v) w1 (FrT (T (k + j)) (Cf (k + j)) w1)
 | [], _, _, j, o, h => by simp at h
 | o' :: l, k, hh, 0, o, h => by
  simp only [List.getElem?_cons_zero, Option.some.injEq] at h
  subst h; exact hh.1
 | o' :: l, k, hh, j + 1, o, h => by
  have := hopsF_of l (k + 1) hh.2 j o (by simpa using h)
  rwa [show k + 1 + j = k + (j + 1) by omega] at this
/-- region_tf, with its properties as a list; A: the operations that make boxes; B: the calls whose slices are new. -/
theorem region_tfl (n : Nat) (L : List (Value → World → Prop)) (A B : List Nat) {id : Nat} {Q : Exit → Act → World → Prop} {a : Act} {w : World} {l : List Oper} (hm : P.follows .mixedOrders = true) (hB : tyB n l = true) (hT : ∀ i, Stays (L.getD i (fun _ _ => True)))
  (hops : hopsRF P l.toArray (fun i => L.getD i (fun _ _ => True)) (fun i => B.contains i) w.drew (fun v => putsV (l.take n) 0 v a) (l.take n) 0)
  (hptr : ∀ j, A.contains j = true → ∀ u w, L.getD j (fun _ _ => True) u w → ∃ k, u = .pointer (some ⟨k, 0, none⟩) ∧ k < w.heap.size)
  (hown : ∀ j, B.contains j = true → ∀ u w, L.getD j (fun _ _ => True) u w → ∀ g, u.ownBlock = some g → g < w.heap.size)
  (hnew : newR P l A)
  (hend : ∀ v w1, Below w.drew.heap.size w.drew w1 → (∀ i, i < n → L.getD i (fun _ _ => True) (v i) w1) → (∀ i j, i < n → j < n → i ≠ j → A.contains i = true → A.contains j = true → v i ≠ v j) → (∀ i k, i < n → k < n → A.contains i = true → B.contains k = true → ∀ g, (v k).ownBlock = some g → v i ≠ .pointer (some ⟨g, 0, none⟩)) → wpList P l.toArray Q (l.drop n) (putsV (l.take n) 0 v a) w1) : (Code.region id l.toArray true).wp P Q a w :=
 region_tf n (fun i => L.getD i (fun _ _ => True)) (fun i => A.contains i) (fun i => B.contains i) hm hB hT (fun j o hj ho v w1 hb hp => by
  have := hopsF_of (l.take n) 0 hops j o (by rw [List.getElem?_take, if_pos hj]; exact ho) v w1 hb (by rw [Nat.zero_add]; exact hp)
  rwa [Nat.zero_add] at this) hptr hown (fun j o ho hA => newR_spec hnew j o ho hA) hend
end
end Go.Proofs.YtoahpkelajimfaaGreatDoor
namespace Go.Proofs.YtoahpkelajimfaaGreatDoor
open Go.RowKit
attribute [local irreducible] lo hs sm s64 c64 d64 b64 mh ml pd pc qd qc val hiB str cmpI srD lz nb zl zh zs fe rowV tabV gv bsV mxV colV
set_option maxHeartbeats 4000000 in
set_option maxRecDepth 100000 in
theorem vVf_w (ql : List (Int × Int)) (n : Nat) (hl : ql.length = n) (hn : n ≤ 10000) (v : Value) (w : World) (hv : QV w v ql) :
  Calls Tryz.prog 14 #[v] w fun xe w' => ∃ u, xe = .returned u ∧ SlQ w' u (ql.map qm) ∧ (∀ g, u.ownBlock = some g → w.heap.size ≤ g ∧ g < w'.heap.size) ∧ Below w.heap.size w w' := by
 obtain ⟨ao, c, rfl, hc, hc0, hq⟩ := hv
 rw [hl] at hc hq ⊢
 obtain ⟨qs, hqs⟩ : ∃ qs, qs = ql.map qm := ⟨_, rfl⟩
 have hlq : qs.length = n := by rw [hqs, List.length_map, hl]
 have hti : ∀ i (hi : i < ql.length), qs.take (i + 1) = qs.take i ++ [qm ql[i]] := fun i hi => by
  rw [hqs, List.take_succ_eq_append_getElem (by rw [List.length_map]; exact hi), List.getElem_map]
 rw [← hqs]
 replace hti := Lib.hid hti
 replace hlq := Lib.hid hlq
 replace hq := Lib.hid hq
 replace hn := Lib.hid hn
 replace hl := Lib.hid hl
 clear hqs hc hc0
 go_enter Tryz.func14, Tryz.ntmps14
 go_wp2_with fail
 go_loopg [3, 4] n (fun gk sv iv wr => ∃ (k : Nat) (zi : Int) (vs : Value), k + gk = n ∧ vs = sv ∧ iv = .int .i64 zi ∧ zi = (k : Int) ∧ OwnF wr w.heap.size vs k (qs.take k) ∧ Below w.heap.size w wr)
 case atStart => exact ⟨0, 0, _, Nat.zero_add n, rfl, by first | rfl | go_num, rfl, World.ownsRow_nil _ _ _ _, Below.refl _ _⟩
 case round =>
  obtain ⟨k, zi, vs, hik, rfl, rfl, hzi, hown, hB⟩ := hrel
  replace hown := Lib.hid hown
  have hnn := hn.out
  rcases Nat.lt_or_ge k n with hin | hin
  ·subst hzi
   have k1 : (k : Int) < (n : Int) := by omega
   have k0 : (0 : Int) ≤ (k : Int) := Int.natCast_nonneg _
   have kb : (k : Int) ≤ 10000 := by omega
   obtain ⟨a, rfl, hsl⟩ := hq.out (by omega)
   have hki : k < ql.length := by rw [hl.out]; exact hin
   have e0 := (hsl.below hB).c0 k hki
   have e1 := (hsl.below hB).c1 k hki
   obtain ⟨⟨b1, b2⟩, b3, b4⟩ := hsl.rg ql[k] (List.getElem_mem hki)
   have HQ := qof_any ql[k].1 ql[k].2 b1 b2 b3 b4
   have hti1 := hti.out k hki
   obtain ⟨q, hqq⟩ : ∃ q, q = qm ql[k] := ⟨_, rfl⟩
   rw [show qmade ql[k].1 ql[k].2.toNat = qm ql[k] from rfl, ← hqq] at HQ
   rw [← hqq] at hti1
   generalize ql[k].1 = zn at *
   generalize ql[k].2 = zd at *
   replace HQ := Lib.hid HQ
   replace hti1 := Lib.hid hti1
   rw [add_one] at e1
   clear hqq hsl b1 b2 b3 b4
   go_wp2_with fail
   with_reducible refine Calls.mono (HQ.out _) ?_
   rintro e y3 ⟨rfl, hb3⟩
   have hown3 := Lib.hid (own_below hown.out hb3)
   have hB3 := Lib.hid (hB.trans (hb3.mono hB.size))
   clear hb3 e0 e1 hB hown
   have hL1 : GL y3 y3 [] := GL.start y3
   replace hL1 := hL1.new rfl [.int .u64 ((zl q.num : Nat) : Int), .string (zh q.num), .bool (zs q.num), .int .u64 ((lo (fe q) : Nat) : Int), .string (hs (fe q))] 38
   generalize hweq : y3.alloc (.cells #[.int .u64 ((zl q.num : Nat) : Int), .string (zh q.num), .bool (zs q.num), .int .u64 ((lo (fe q) : Nat) : Int), .string (hs (fe q))] 38) = y4 at hL1
   have hown4 := Lib.hid (own_below hown3.out hL1.bl)
   have hB4 := Lib.hid (hB3.out.trans (hL1.bl.mono hB3.out.size))
   have hH := Lib.hid (hL1.get _ _ List.mem_cons_self)
   go_wp2_with (at_builtin; refine wp_appendF rfl _ _ rfl _ _ _ _ rfl hown4.out _ q rfl hH.out (by omega) hB4.out.size ?_)
   intro v' w5 hown5 hgrow _
   have hB5 := hB4.out.grown hgrow hB4.out.size (fun j hj => (hown4.out.lt j hj).1)
   rw [← hti1.out] at hown5
   replace hown5 := Lib.hid hown5
   clear hgrow hown4 hB4 hown3 hB3 hH hweq
   go_wp2_with fail
   go_roundg (gk - 1)
   case measure => omega
   case rel => exact ⟨k + 1, _, _, by omega, rfl, by first | rfl | go_num, by omega, hown5.out, hB5⟩
  ·obtain rfl : k = n := by omega
   subst hzi
   have k1 : ¬ (k : Int) < (k : Int) := by omega
   rw [List.take_of_length_le (Nat.le_of_eq hlq.out)] at hown
   have hsl := Lib.hid (own_slq hown.out hlq.out.symm)
   have hfr := Lib.hid (fun g hg => hown.out.lt g hg)
   go_wp2_with fail
   exact bodyPost_ret (v := vs) (by simp [results, Tryz.results14, go_sem]) rfl ⟨_, rfl, hsl.out, hfr.out, hB⟩
theorem PTs.putS {W W' : World} {S : List (Value × List Rat)} (h : PTs W S) {k : Nat} (hu : Upd k W W') (hs : ∀ p ∈ S, ∀ g, p.1.ownBlock = some g → g ≠ k) : PTs W' S := fun p hp => by
 rcases h p hp with h1 | ⟨g, c, h1, h2⟩
 ·exact .inl h1
 ·have hbl := hu.block g (hs p hp g (by rw [h1]; rfl))
  have cc : ∀ j, W'.cell? ⟨g, j, none⟩ = W.cell? ⟨g, j, none⟩ := fun j => World.cell?_of_block (a := ⟨g, j, none⟩) hbl
  exact .inr ⟨g, c, h1, fun i hi => by rw [cc, cc, cc, cc, cc]; exact h2.cell i hi, by rw [hu.size]; exact h2.lt⟩
/-- .. whose own block lies in the world. -/
def PO (l : List Rat) : Value → World → Prop := fun v w => SlQ w v l ∧ ∀ g, v.ownBlock = some g → g < w.heap.size
theorem stays_po (l : List Rat) : Stays (PO l) := fun _ _ _ hb ⟨h1, h2⟩ => ⟨h1.below hb, fun g hg => Nat.lt_of_lt_of_le (h2 g hg) hb.size⟩
end Go.Proofs.YtoahpkelajimfaaGreatDoor
namespace Go.Proofs.YtoahpkelajimfaaGreatDoor
open Go.RowKit
attribute [local irreducible] lo hs sm s64 c64 d64 b64 mh ml pd pc qd qc val hiB str cmpI srD lz nb zl zh zs fe rowV tabV gv bsV mxV colV
theorem ptp_form {w : World} {v : Value} {l : List Rat} {n : Nat} (h : PT w v l) (hl : l.length = n) (h0 : 0 < n) : ∃ g c, v = .slice (some ⟨g, 0, none⟩) n c := by
 obtain ⟨ao, c, e, hf⟩ := slq_len h
 obtain ⟨g, e2, -⟩ := hf (by omega)
 exact ⟨g, c, by rw [e, e2, hl]⟩
set_option maxHeartbeats 16000000 in
set_option maxRecDepth 100000 in
theorem verr_l1 (al am : Option Addr) (nl cl nm cm : Nat) (n1 d1 n i : Int) (KT : World → Prop) (hKT : Keeps KT) (HW : ∀ w, KT w → Calls Tryz.prog 12 #[] w fun xe w' => xe = .returned (.bool true) ∧ Below w.heap.size w w') (l_nl : decide ((20 : Int) < ((nl : Nat) : Int)) = true) (k_nl : decide (20 < nl) = true) (w : World) (kKT : KT w) :
  Calls Tryz.prog 9 #[.agg #[.int .i64 n1, .int .u32 d1], .slice al nl cl, .slice am nm cm, .int .i64 n, .int .i64 i] w fun e w' => e = .returned (.bool true) ∧ Below w.heap.size w w' := by
 replace hKT := Lib.hid hKT
 replace HW := Lib.hid HW
 have hL0 : GL w w [] := GL.start w
 have hT : PTs w [] := PTs.nil w
 replace hT := (hT.new (.cells #[.int .i64 n1, .int .u32 d1] 24))
 replace hL0 := (hL0.new rfl [.int .i64 n1, .int .u32 d1] 24)
 generalize hweq : (w.alloc (.cells #[.int .i64 n1, .int .u32 d1] 24)) = x1 at hL0 hT
 go_enter Tryz.func9, Tryz.ntmps9
 go_wp2_with fail
 with_reducible refine Calls.mono (HW.out _ (hKT.out.at hL0.bl kKT)) ?_
 rintro e x2 ⟨rfl, hb⟩
 replace hL0 := hL0.call hb
 replace hT := hT.call hb
 clear hb hweq
 go_wp2_with fail
 exact bodyPost_ret (v := .bool true) (by simp [results, Tryz.results9, go_sem]) rfl ⟨rfl, hL0.bl⟩
set_option maxHeartbeats 16000000 in
set_option maxRecDepth 100000 in
theorem verr_l2 (al am : Option Addr) (nl cl nm cm : Nat) (n1 d1 n i : Int) (KT : World → Prop) (hKT : Keeps KT) (HW : ∀ w, KT w → Calls Tryz.prog 12 #[] w fun xe w' => xe = .returned (.bool true) ∧ Below w.heap.size w w') (l_nl : decide ((20 : Int) < ((nl : Nat) : Int)) = false) (k_nl : decide (20 < nl) = false) (l_nm : decide ((20 : Int) < ((nm : Nat) : Int)) = true) (k_nm : decide (20 < nm) = true) (w : World) (kKT : KT w) :
  Calls Tryz.prog 9 #[.agg #[.int .i64 n1, .int .u32 d1], .slice al nl cl, .slice am nm cm, .int .i64 n, .int .i64 i] w fun e w' => e = .returned (.bool true) ∧ Below w.heap.size w w' := by
 replace hKT := Lib.hid hKT
 replace HW := Lib.hid HW
 have hL0 : GL w w [] := GL.start w
 have hT : PTs w [] := PTs.nil w
 replace hT := (hT.new (.cells #[.int .i64 n1, .int .u32 d1] 24))
 replace hL0 := (hL0.new rfl [.int .i64 n1, .int .u32 d1] 24)
 generalize hweq : (w.alloc (.cells #[.int .i64 n1, .int .u32 d1] 24)) = x1 at hL0 hT
 go_enter Tryz.func9, Tryz.ntmps9
 go_wp2_with fail
 with_reducible refine Calls.mono (HW.out _ (hKT.out.at hL0.bl kKT)) ?_
 rintro e x2 ⟨rfl, hb⟩
 replace hL0 := hL0.call hb
 replace hT := hT.call hb
 clear hb hweq
 go_wp2_with fail
 exact bodyPost_ret (v := .bool true) (by simp [results, Tryz.results9, go_sem]) rfl ⟨rfl, hL0.bl⟩
set_option maxHeartbeats 16000000 in
set_option maxRecDepth 100000 in
theorem verr_0_neg_low (al am : Option Addr) (nl cl nm cm l m : Nat) (n1 d1 : Int) (n : Int) (i : Int) (x y v u p : List Rat) (c one xi : Rat) (KL : World → Prop) (hKL : Keeps KL) (HVa : ∀ w, KL w → Calls Tryz.prog 14 #[.slice al nl cl] w fun e w' => ∃ pv, e = .returned pv ∧ PT w' pv x ∧ (∀ g, pv.ownBlock = some g → w.heap.size ≤ g ∧ g < w'.heap.size) ∧ Below w.heap.size w w') (KM : World → Prop) (hKM : Keeps KM) (HVb : ∀ w, KM w → Calls Tryz.prog 14 #[.slice am nm cm] w fun e w' => ∃ pv, e = .returned pv ∧ PT w' pv y ∧ (∀ g, pv.ownBlock = some g → w.heap.size ≤ g ∧ g < w'.heap.size) ∧ Below w.heap.size w w') (HQ : ∀ w, Calls Tryz.prog 15 #[.agg #[.int .i64 n1, .int .u32 d1]] w fun xe w' => xe = .returned (fracV c) ∧ Below w.heap.size w w') (HR : ∀ (p1 p2 : Value) (w : World), PT w p1 x → PT w p2 y → Calls Tryz.prog 48 #[fracV c, p1, p2] w fun e w' => e = .returned (.int .i64 0) ∧ Below w.heap.size w w') (HZ : ∀ w, Calls Tryz.prog 40 #[.int .i64 n] w fun xe w' => xe = .returned (.tuple #[.slice none 0 0, .int .i64 1]) ∧ Below w.heap.size w w') (HU : ∀ w, Calls Tryz.prog 47 #[.int .i64 n, .int .i64 i] w fun xe w' => xe = .returned (.tuple #[.slice none 0 0, .int .i64 1]) ∧ Below w.heap.size w w') (HP : ∀ (p0 p1 : Value) (w : World), PT w p0 x → ILs w p1 ([i]) → Calls Tryz.prog 39 #[p0, p1] w fun e w' => e = .returned (.tuple #[.slice none 0 0, .int .i64 1]) ∧ Below w.heap.size w w') (HI1 : ∀ w, Calls Tryz.prog 34 #[.int .i64 1] w fun xe w' => xe = .returned (fracV one) ∧ Below w.heap.size w w') (HMv : ∀ (p0 : Value) (w : World), PT w p0 v → Calls Tryz.prog 30 #[p0] w fun e w' => e = .returned (.agg #[.int .u64 0, .string ⟨#[]⟩, .bool false, .int .u64 0, .string ⟨#[]⟩]) ∧ Below w.heap.size w w') (KT : World → Prop) (hKT : Keeps KT) (HW : ∀ w, KT w → Calls Tryz.prog 12 #[] w fun xe w' => xe = .returned (.bool true) ∧ Below w.heap.size w w') (l_nl : decide ((20 : Int) < ((nl : Nat) : Int)) = false) (k_nl : decide (20 < nl) = false) (l_nm : decide ((20 : Int) < ((nm : Nat) : Int)) = false) (k_nm : decide (20 < nm) = false) (lx : x.length = l) (ly : y.length = l) (lv : v.length = 0) (lu : u.length = 0) (lp : p.length = 1) (hl1 : l ≤ 20) (hn : n < 0) (hi : i < 0) (hi2 : ¬ 0 ≤ i) (w : World) (kKL : KL w) (kKM : KM w) (kKT : KT w) :
  Calls Tryz.prog 9 #[.agg #[.int .i64 n1, .int .u32 d1], .slice al nl cl, .slice am nm cm, .int .i64 n, .int .i64 i] w fun e w' => e = .returned (.bool true) ∧ Below w.heap.size w w' := by
 replace hKL := Lib.hid hKL
 replace HVa := Lib.hid HVa
 replace hKM := Lib.hid hKM
 replace HVb := Lib.hid HVb
 replace HQ := Lib.hid HQ
 replace HR := Lib.hid HR
 replace HZ := Lib.hid HZ
 replace HU := Lib.hid HU
 replace HP := Lib.hid HP
 replace HI1 := Lib.hid HI1
 replace HMv := Lib.hid HMv
 replace hKT := Lib.hid hKT
 replace HW := Lib.hid HW
 have hL0 : GL w w [] := GL.start w
 have hT : PTs w [] := PTs.nil w
 replace lx := Lib.hid lx
 replace ly := Lib.hid ly
 replace lv := Lib.hid lv
 replace lu := Lib.hid lu
 replace lp := Lib.hid lp
 replace hT := (hT.new (.cells #[.int .i64 n1, .int .u32 d1] 24))
 replace hL0 := (hL0.new rfl [.int .i64 n1, .int .u32 d1] 24)
 generalize hweq : (w.alloc (.cells #[.int .i64 n1, .int .u32 d1] 24)) = x1 at hL0 hT
 go_enter Tryz.func9, Tryz.ntmps9
 have hN0 := cells_of _ 0 [] rfl (hL0.get _ _ List.mem_cons_self)
 simp only [cellsF, and_true, Nat.zero_add, Nat.reduceAdd] at hN0
 go_upto_region 3 with fail
 clear hN0
 clear hweq
 refine region_tfl 7 [EV (.slice al nl cl), PO x, EV (.slice am nm cm), PO y, EV (.agg #[.int .i64 n1, .int .u32 d1]), EV (fracV c), NewB x1.heap.size [.int .u64 0, .string ⟨#[]⟩, .bool false, .int .u64 0, .string ⟨#[]⟩]] [6] [1, 3] (by kernel_rfl) (by kernel_rfl) ?_ ?_ ?_ ?_ ?_ ?_
 ·exact stays_cons (stays_eq _) (stays_cons (stays_po _) (stays_cons (stays_eq _) (stays_cons (stays_po _) (stays_cons (stays_eq _) (stays_cons (stays_eq _) (stays_cons (stays_new _ _) stays_nil))))))
 ·simp only [List.take_succ_cons, List.take_zero, hopsRF, and_true]
  refine ⟨?_, ?_, ?_, ?_, ?_, ?_, ?_⟩ <;> intro fv w1 hb1 hp
  all_goals (simp only [putsV, Act.put, List.setIfInBounds_toArray, List.set_cons_succ, List.set_cons_zero, Nat.zero_add, Nat.reduceAdd])
  ·refine fr_no rfl (tyAt_none rfl ?_)
   simp [tyUpon, execOp, go_sem, Act.eval, Below.refl]
  ·have h0 : EV _ (fv 0) w1 := hp 0 (LC (by kernel_rfl))
   refine tyAt_none rfl ?_
   refine ty_call (f := 14) (args := #[.slice al nl cl]) (by simp [execOp, go_sem, Act.eval, h0]) ?_
   exact (HVa.out w1 (hKL.out.at ((hL0.call (below_drew hb1)).bl) kKL)).mono fun e w2 ⟨pv, h1, h2, h3, h4⟩ => ⟨pv, h1, ⟨⟨h2, fun g hg => (h3 g hg).2⟩, fun _ g hg => (h3 g hg).1⟩, h4⟩
  ·refine fr_no rfl (tyAt_none rfl ?_)
   simp [tyUpon, execOp, go_sem, Act.eval, Below.refl]
  ·have h2 : EV _ (fv 2) w1 := hp 2 (LC (by kernel_rfl))
   refine tyAt_none rfl ?_
   refine ty_call (f := 14) (args := #[.slice am nm cm]) (by simp [execOp, go_sem, Act.eval, h2]) ?_
   exact (HVb.out w1 (hKM.out.at ((hL0.call (below_drew hb1)).bl) kKM)).mono fun e w2 ⟨pv, h1, h2, h3, h4⟩ => ⟨pv, h1, ⟨⟨h2, fun g hg => (h3 g hg).2⟩, fun _ g hg => (h3 g hg).1⟩, h4⟩
  ·refine fr_no rfl (tyAt_none rfl ?_)
   have hc := (hL0.call (below_drew hb1)).fc
   simp only [fcG, cellsF, neK, and_true, ne_eq, Nat.zero_add, Nat.reduceAdd] at hc
   simp [tyUpon, execOp, go_sem, Act.eval, hc, Below.refl]
  ·have h4 : EV _ (fv 4) w1 := hp 4 (LC (by kernel_rfl))
   refine fr_no rfl (tyAt_none rfl ?_)
   refine ty_call (f := 15) (args := #[.agg #[.int .i64 n1, .int .u32 d1]]) (by simp [execOp, go_sem, Act.eval, h4]) ?_
   exact (HQ.out w1).mono fun e w2 ⟨h1, h2⟩ => ⟨_, h1, rfl, h2⟩
  ·exact fr_no rfl (tyAt_new rfl rfl new_frac (below_drew hb1).size)
 ·intro j hj u w2 hT2
  simp only [List.contains_iff_mem, List.mem_cons, List.not_mem_nil, or_false] at hj
  rcases hj with rfl
  exact NewB.ptr hT2
 ·intro j hj u w2 hT2
  simp only [List.contains_iff_mem, List.mem_cons, List.not_mem_nil, or_false] at hj
  rcases hj with rfl | rfl <;> exact hT2.2
 ·exact ⟨⟨_, _, _, _, rfl, rfl, rfl, new_frac⟩, trivial⟩
 ·intro fv x2 hb1 hv hne hsp
  have e0 : fv 0 = _ := hv 0 (by omega)
  obtain ⟨q1, -⟩ : PO x (fv 1) x2 := hv 1 (by omega)
  obtain ⟨g1, g1c, e1⟩ := ptn_form q1 lx.out
  have e2 : fv 2 = _ := hv 2 (by omega)
  obtain ⟨q3, -⟩ : PO y (fv 3) x2 := hv 3 (by omega)
  obtain ⟨g2, g2c, e3⟩ := ptn_form q3 ly.out
  have e4 : fv 4 = _ := hv 4 (by omega)
  have e5 : fv 5 = _ := hv 5 (by omega)
  obtain ⟨kb6, e6, n6, m6⟩ : NewB x1.heap.size [.int .u64 0, .string ⟨#[]⟩, .bool false, .int .u64 0, .string ⟨#[]⟩] (fv 6) x2 := hv 6 (by omega)
  have s1 : ∀ g, (fv 1).ownBlock = some g → g ≠ kb6 := fun g hg e => hsp 6 1 (by omega) (by omega) rfl rfl g hg (by rw [e6, e])
  have s3 : ∀ g, (fv 3).ownBlock = some g → g ≠ kb6 := fun g hg e => hsp 6 3 (by omega) (by omega) rfl rfl g hg (by rw [e6, e])
  rw [e1] at q1 s1
  rw [e3] at q3 s3
  simp only [List.take_succ_cons, List.take_zero, putsV, Act.put, List.setIfInBounds_toArray, List.set_cons_succ, List.set_cons_zero, List.drop_succ_cons, List.drop_zero, Nat.zero_add, Nat.reduceAdd, e0, e1, e2, e3, e4, e5, e6]
  have hx0 := hL0
  replace hL0 := hL0.call (below_drew hb1)
  replace hT := hT.call (below_drew hb1)
  replace hL0 := GL.tnew (M := []) hL0 hx0 n6 m6 (fun p hp => by cases hp)
  simp only [List.cons_append, List.nil_append] at hL0
  replace hT := (hT.cons q1).cons q3
  have hsS : ∀ p ∈ ([(.slice g2 l g2c, y), (.slice g1 l g1c, x)] : List (Value × List Rat)), ∀ g, p.1.ownBlock = some g → g ≠ kb6 := by
   intro p hp
   rcases List.mem_cons.1 hp with rfl | hp
   ·exact s3
   ·rw [List.mem_singleton.1 hp]; exact s1
  have hT1 := hT.putS ((((((Upd.refl kb6 x2).setCell 0 (.int .u64 ((zl c.num : Nat) : Int))).setCell 1 (.string (zh c.num))).setCell 2 (.bool (zs c.num))).setCell 3 (.int .u64 ((lo (fe c) : Nat) : Int))).setCell 4 (.string (hs (fe c)))) hsS
  have hA := hL0.fc
  simp only [fcG, cellsF, neK, and_true, ne_eq, Nat.zero_add, Nat.reduceAdd] at hA
  have hP := hL0.put 0 (kb6) _ rfl [.int .u64 ((zl c.num : Nat) : Int), .string (zh c.num), .bool (zs c.num), .int .u64 ((lo (fe c) : Nat) : Int), .string (hs (fe c))] rfl
  simp only [setAll, List.set_cons_zero, List.set_cons_succ] at hP
  generalize hput1 : (((((x2.setCell ⟨kb6, 0, none⟩ (.int .u64 ((zl c.num : Nat) : Int))).setCell ⟨kb6, 1, none⟩ (.string (zh c.num))).setCell ⟨kb6, 2, none⟩ (.bool (zs c.num))).setCell ⟨kb6, 3, none⟩ (.int .u64 ((lo (fe c) : Nat) : Int))).setCell ⟨kb6, 4, none⟩ (.string (hs (fe c)))) = x3 at hP hT1
  have hB1 := hP.fc
  simp only [fcG, cellsF, neK, and_true, ne_eq, Nat.zero_add, Nat.reduceAdd] at hB1
  replace hL0 := hP
  replace hT := hT1
  clear hT1 hsS s1 s3 q1 q3 n6 m6 hx0 hne hsp hv hb1 e0 e1 e2 e3 e4 e5 e6 fv
  go_wp2_with fail
  clear hA
  with_reducible refine Calls.mono (HR.out (.slice g1 l g1c) (.slice g2 l g2c) _ (hT.get (List.mem_cons_of_mem _ List.mem_cons_self)) (hT.get List.mem_cons_self)) ?_
  rintro e x4 ⟨rfl, hb⟩
  replace hL0 := hL0.call hb
  replace hT := hT.call hb
  clear hb hput1 hB1
  go_wp2_with fail
  with_reducible refine Calls.mono (HZ.out _) ?_
  rintro e x5 ⟨rfl, hb⟩
  replace hL0 := hL0.call hb
  replace hT := hT.call hb
  clear hb
  go_wp2_with fail
  with_reducible refine Calls.mono (HU.out _) ?_
  rintro e x6 ⟨rfl, hb⟩
  replace hL0 := hL0.call hb
  replace hT := hT.call hb
  clear hb
  go_upto_region 19 with fail
  obtain ⟨α, iα, F, hF1, hF2⟩ := cls x6
  refine region_cls (F := F) (by kernel_rfl) (lexB_of_fast (by kernel_rfl)) (cls_drew hF2) ?_
  repeat (go_big_quiet_step (first | fail | (go_at_call 34; with_reducible exact cls_call hF1 hF2 HI1.out _)))
  refine wpQuiet_nil ?_
  rintro wq ⟨xq, rfl⟩
  replace hL0 := hL0.call (hF1 xq)
  replace hT := hT.call (hF1 xq)
  clear  hF2
  generalize F xq = x7 at hL0 hT ⊢
  clear hF1 xq iα F α
  replace hT := (hT.new (.cells #[.int .i64 i] 3))
  replace hL0 := (hL0.new rfl [.int .i64 i] 3)
  generalize hweq : (x7.alloc (.cells #[.int .i64 i] 3)) = x8 at hL0 hT
  have hbv1 : ILs x8 (.slice (some ⟨x7.heap.size, 0, none⟩) 1 1) [i] := ils_at (hL0.get _ _ List.mem_cons_self) rfl rfl
  replace hbv1 := Lib.hid hbv1
  go_wp2_with fail
  with_reducible refine Calls.mono (HP.out (.slice g1 l g1c) (.slice (some ⟨x7.heap.size, 0, none⟩) 1 1) _ (hT.get (List.mem_cons_of_mem _ List.mem_cons_self)) hbv1.out) ?_
  rintro e x9 ⟨rfl, hb⟩
  replace hL0 := hL0.call hb
  replace hT := hT.call hb
  clear hb hweq
  go_upto_region 22 with fail
  have hd1 : ¬ (0 : Int) ≤ i := by omega
  have hd2 : decide ((0 : Int) ≤ i) = false := decide_eq_false hd1
  obtain ⟨α, iα, F, hF1, hF2⟩ := cls x9
  refine region_cls (F := F) (by kernel_rfl) (lexB_of_fast (by kernel_rfl)) (cls_drew hF2) ?_
  repeat (go_big_quiet_step (first | fail))
  refine wpQuiet_nil ?_
  rintro wq ⟨xq, rfl⟩
  replace hL0 := hL0.call (hF1 xq)
  replace hT := hT.call (hF1 xq)
  clear hd1 hd2 hF2
  generalize F xq = x10 at hL0 hT ⊢
  clear hF1 xq iα F α
  go_wp2_with fail
  with_reducible refine Calls.mono (HW.out _ (hKT.out.at hL0.bl kKT)) ?_
  rintro e x11 ⟨rfl, hb⟩
  replace hL0 := hL0.call hb
  replace hT := hT.call hb
  clear hb
  go_wp2_with fail
  exact bodyPost_ret (v := .bool true) (by simp [results, Tryz.results9, go_sem]) rfl ⟨rfl, hL0.bl⟩
set_option maxHeartbeats 16000000 in
set_option maxRecDepth 100000 in
theorem verr_0_big_low (al am : Option Addr) (nl cl nm cm l m : Nat) (n1 d1 : Int) (n : Int) (i : Int) (x y v u p : List Rat) (c one xi : Rat) (KL : World → Prop) (hKL : Keeps KL) (HVa : ∀ w, KL w → Calls Tryz.prog 14 #[.slice al nl cl] w fun e w' => ∃ pv, e = .returned pv ∧ PT w' pv x ∧ (∀ g, pv.ownBlock = some g → w.heap.size ≤ g ∧ g < w'.heap.size) ∧ Below w.heap.size w w') (KM : World → Prop) (hKM : Keeps KM) (HVb : ∀ w, KM w → Calls Tryz.prog 14 #[.slice am nm cm] w fun e w' => ∃ pv, e = .returned pv ∧ PT w' pv y ∧ (∀ g, pv.ownBlock = some g → w.heap.size ≤ g ∧ g < w'.heap.size) ∧ Below w.heap.size w w') (HQ : ∀ w, Calls Tryz.prog 15 #[.agg #[.int .i64 n1, .int .u32 d1]] w fun xe w' => xe = .returned (fracV c) ∧ Below w.heap.size w w') (HR : ∀ (p1 p2 : Value) (w : World), PT w p1 x → PT w p2 y → Calls Tryz.prog 48 #[fracV c, p1, p2] w fun e w' => e = .returned (.int .i64 0) ∧ Below w.heap.size w w') (HZ : ∀ w, Calls Tryz.prog 40 #[.int .i64 n] w fun xe w' => xe = .returned (.tuple #[.slice none 0 0, .int .i64 3]) ∧ Below w.heap.size w w') (HU : ∀ w, Calls Tryz.prog 47 #[.int .i64 n, .int .i64 i] w fun xe w' => xe = .returned (.tuple #[.slice none 0 0, .int .i64 3]) ∧ Below w.heap.size w w') (HP : ∀ (p0 p1 : Value) (w : World), PT w p0 x → ILs w p1 ([i]) → Calls Tryz.prog 39 #[p0, p1] w fun e w' => e = .returned (.tuple #[.slice none 0 0, .int .i64 1]) ∧ Below w.heap.size w w') (HI1 : ∀ w, Calls Tryz.prog 34 #[.int .i64 1] w fun xe w' => xe = .returned (fracV one) ∧ Below w.heap.size w w') (HMv : ∀ (p0 : Value) (w : World), PT w p0 v → Calls Tryz.prog 30 #[p0] w fun e w' => e = .returned (.agg #[.int .u64 0, .string ⟨#[]⟩, .bool false, .int .u64 0, .string ⟨#[]⟩]) ∧ Below w.heap.size w w') (KT : World → Prop) (hKT : Keeps KT) (HW : ∀ w, KT w → Calls Tryz.prog 12 #[] w fun xe w' => xe = .returned (.bool true) ∧ Below w.heap.size w w') (l_nl : decide ((20 : Int) < ((nl : Nat) : Int)) = false) (k_nl : decide (20 < nl) = false) (l_nm : decide ((20 : Int) < ((nm : Nat) : Int)) = false) (k_nm : decide (20 < nm) = false) (lx : x.length = l) (ly : y.length = l) (lv : v.length = 0) (lu : u.length = 0) (lp : p.length = 1) (hl1 : l ≤ 20) (hn : ¬ n < 0) (hn2 : 2048 < n) (hi : i < 0) (hi2 : ¬ 0 ≤ i) (w : World) (kKL : KL w) (kKM : KM w) (kKT : KT w) :
  Calls Tryz.prog 9 #[.agg #[.int .i64 n1, .int .u32 d1], .slice al nl cl, .slice am nm cm, .int .i64 n, .int .i64 i] w fun e w' => e = .returned (.bool true) ∧ Below w.heap.size w w' := by
 replace hKL := Lib.hid hKL
 replace HVa := Lib.hid HVa
 replace hKM := Lib.hid hKM
 replace HVb := Lib.hid HVb
 replace HQ := Lib.hid HQ
 replace HR := Lib.hid HR
 replace HZ := Lib.hid HZ
 replace HU := Lib.hid HU
 replace HP := Lib.hid HP
 replace HI1 := Lib.hid HI1
 replace HMv := Lib.hid HMv
 replace hKT := Lib.hid hKT
 replace HW := Lib.hid HW
 have hL0 : GL w w [] := GL.start w
 have hT : PTs w [] := PTs.nil w
 replace lx := Lib.hid lx
 replace ly := Lib.hid ly
 replace lv := Lib.hid lv
 replace lu := Lib.hid lu
 replace lp := Lib.hid lp
 replace hT := (hT.new (.cells #[.int .i64 n1, .int .u32 d1] 24))
 replace hL0 := (hL0.new rfl [.int .i64 n1, .int .u32 d1] 24)
 generalize hweq : (w.alloc (.cells #[.int .i64 n1, .int .u32 d1] 24)) = x1 at hL0 hT
 go_enter Tryz.func9, Tryz.ntmps9
 have hN0 := cells_of _ 0 [] rfl (hL0.get _ _ List.mem_cons_self)
 simp only [cellsF, and_true, Nat.zero_add, Nat.reduceAdd] at hN0
 go_upto_region 3 with fail
 clear hN0
 clear hweq
 refine region_tfl 7 [EV (.slice al nl cl), PO x, EV (.slice am nm cm), PO y, EV (.agg #[.int .i64 n1, .int .u32 d1]), EV (fracV c), NewB x1.heap.size [.int .u64 0, .string ⟨#[]⟩, .bool false, .int .u64 0, .string ⟨#[]⟩]] [6] [1, 3] (by kernel_rfl) (by kernel_rfl) ?_ ?_ ?_ ?_ ?_ ?_
 ·exact stays_cons (stays_eq _) (stays_cons (stays_po _) (stays_cons (stays_eq _) (stays_cons (stays_po _) (stays_cons (stays_eq _) (stays_cons (stays_eq _) (stays_cons (stays_new _ _) stays_nil))))))
 ·simp only [List.take_succ_cons, List.take_zero, hopsRF, and_true]
  refine ⟨?_, ?_, ?_, ?_, ?_, ?_, ?_⟩ <;> intro fv w1 hb1 hp
  all_goals (simp only [putsV, Act.put, List.setIfInBounds_toArray, List.set_cons_succ, List.set_cons_zero, Nat.zero_add, Nat.reduceAdd])
  ·refine fr_no rfl (tyAt_none rfl ?_)
   simp [tyUpon, execOp, go_sem, Act.eval, Below.refl]
  ·have h0 : EV _ (fv 0) w1 := hp 0 (LC (by kernel_rfl))
   refine tyAt_none rfl ?_
   refine ty_call (f := 14) (args := #[.slice al nl cl]) (by simp [execOp, go_sem, Act.eval, h0]) ?_
   exact (HVa.out w1 (hKL.out.at ((hL0.call (below_drew hb1)).bl) kKL)).mono fun e w2 ⟨pv, h1, h2, h3, h4⟩ => ⟨pv, h1, ⟨⟨h2, fun g hg => (h3 g hg).2⟩, fun _ g hg => (h3 g hg).1⟩, h4⟩
  ·refine fr_no rfl (tyAt_none rfl ?_)
   simp [tyUpon, execOp, go_sem, Act.eval, Below.refl]
  ·have h2 : EV _ (fv 2) w1 := hp 2 (LC (by kernel_rfl))
   refine tyAt_none rfl ?_
   refine ty_call (f := 14) (args := #[.slice am nm cm]) (by simp [execOp, go_sem, Act.eval, h2]) ?_
   exact (HVb.out w1 (hKM.out.at ((hL0.call (below_drew hb1)).bl) kKM)).mono fun e w2 ⟨pv, h1, h2, h3, h4⟩ => ⟨pv, h1, ⟨⟨h2, fun g hg => (h3 g hg).2⟩, fun _ g hg => (h3 g hg).1⟩, h4⟩
  ·refine fr_no rfl (tyAt_none rfl ?_)
   have hc := (hL0.call (below_drew hb1)).fc
   simp only [fcG, cellsF, neK, and_true, ne_eq, Nat.zero_add, Nat.reduceAdd] at hc
   simp [tyUpon, execOp, go_sem, Act.eval, hc, Below.refl]
  ·have h4 : EV _ (fv 4) w1 := hp 4 (LC (by kernel_rfl))
   refine fr_no rfl (tyAt_none rfl ?_)
   refine ty_call (f := 15) (args := #[.agg #[.int .i64 n1, .int .u32 d1]]) (by simp [execOp, go_sem, Act.eval, h4]) ?_
   exact (HQ.out w1).mono fun e w2 ⟨h1, h2⟩ => ⟨_, h1, rfl, h2⟩
  ·exact fr_no rfl (tyAt_new rfl rfl new_frac (below_drew hb1).size)
 ·intro j hj u w2 hT2
  simp only [List.contains_iff_mem, List.mem_cons, List.not_mem_nil, or_false] at hj
  rcases hj with rfl
  exact NewB.ptr hT2
 ·intro j hj u w2 hT2
  simp only [List.contains_iff_mem, List.mem_cons, List.not_mem_nil, or_false] at hj
  rcases hj with rfl | rfl <;> exact hT2.2
 ·exact ⟨⟨_, _, _, _, rfl, rfl, rfl, new_frac⟩, trivial⟩
 ·intro fv x2 hb1 hv hne hsp
  have e0 : fv 0 = _ := hv 0 (by omega)
  obtain ⟨q1, -⟩ : PO x (fv 1) x2 := hv 1 (by omega)
  obtain ⟨g1, g1c, e1⟩ := ptn_form q1 lx.out
  have e2 : fv 2 = _ := hv 2 (by omega)
  obtain ⟨q3, -⟩ : PO y (fv 3) x2 := hv 3 (by omega)
  obtain ⟨g2, g2c, e3⟩ := ptn_form q3 ly.out
  have e4 : fv 4 = _ := hv 4 (by omega)
  have e5 : fv 5 = _ := hv 5 (by omega)
  obtain ⟨kb6, e6, n6, m6⟩ : NewB x1.heap.size [.int .u64 0, .string ⟨#[]⟩, .bool false, .int .u64 0, .string ⟨#[]⟩] (fv 6) x2 := hv 6 (by omega)
  have s1 : ∀ g, (fv 1).ownBlock = some g → g ≠ kb6 := fun g hg e => hsp 6 1 (by omega) (by omega) rfl rfl g hg (by rw [e6, e])
  have s3 : ∀ g, (fv 3).ownBlock = some g → g ≠ kb6 := fun g hg e => hsp 6 3 (by omega) (by omega) rfl rfl g hg (by rw [e6, e])
  rw [e1] at q1 s1
  rw [e3] at q3 s3
  simp only [List.take_succ_cons, List.take_zero, putsV, Act.put, List.setIfInBounds_toArray, List.set_cons_succ, List.set_cons_zero, List.drop_succ_cons, List.drop_zero, Nat.zero_add, Nat.reduceAdd, e0, e1, e2, e3, e4, e5, e6]
  have hx0 := hL0
  replace hL0 := hL0.call (below_drew hb1)
  replace hT := hT.call (below_drew hb1)
  replace hL0 := GL.tnew (M := []) hL0 hx0 n6 m6 (fun p hp => by cases hp)
  simp only [List.cons_append, List.nil_append] at hL0
  replace hT := (hT.cons q1).cons q3
  have hsS : ∀ p ∈ ([(.slice g2 l g2c, y), (.slice g1 l g1c, x)] : List (Value × List Rat)), ∀ g, p.1.ownBlock = some g → g ≠ kb6 := by
   intro p hp
   rcases List.mem_cons.1 hp with rfl | hp
   ·exact s3
   ·rw [List.mem_singleton.1 hp]; exact s1
  have hT1 := hT.putS ((((((Upd.refl kb6 x2).setCell 0 (.int .u64 ((zl c.num : Nat) : Int))).setCell 1 (.string (zh c.num))).setCell 2 (.bool (zs c.num))).setCell 3 (.int .u64 ((lo (fe c) : Nat) : Int))).setCell 4 (.string (hs (fe c)))) hsS
  have hA := hL0.fc
  simp only [fcG, cellsF, neK, and_true, ne_eq, Nat.zero_add, Nat.reduceAdd] at hA
  have hP := hL0.put 0 (kb6) _ rfl [.int .u64 ((zl c.num : Nat) : Int), .string (zh c.num), .bool (zs c.num), .int .u64 ((lo (fe c) : Nat) : Int), .string (hs (fe c))] rfl
  simp only [setAll, List.set_cons_zero, List.set_cons_succ] at hP
  generalize hput1 : (((((x2.setCell ⟨kb6, 0, none⟩ (.int .u64 ((zl c.num : Nat) : Int))).setCell ⟨kb6, 1, none⟩ (.string (zh c.num))).setCell ⟨kb6, 2, none⟩ (.bool (zs c.num))).setCell ⟨kb6, 3, none⟩ (.int .u64 ((lo (fe c) : Nat) : Int))).setCell ⟨kb6, 4, none⟩ (.string (hs (fe c)))) = x3 at hP hT1
  have hB1 := hP.fc
  simp only [fcG, cellsF, neK, and_true, ne_eq, Nat.zero_add, Nat.reduceAdd] at hB1
  replace hL0 := hP
  replace hT := hT1
  clear hT1 hsS s1 s3 q1 q3 n6 m6 hx0 hne hsp hv hb1 e0 e1 e2 e3 e4 e5 e6 fv
  go_wp2_with fail
  clear hA
  with_reducible refine Calls.mono (HR.out (.slice g1 l g1c) (.slice g2 l g2c) _ (hT.get (List.mem_cons_of_mem _ List.mem_cons_self)) (hT.get List.mem_cons_self)) ?_
  rintro e x4 ⟨rfl, hb⟩
  replace hL0 := hL0.call hb
  replace hT := hT.call hb
  clear hb hput1 hB1
  go_wp2_with fail
  with_reducible refine Calls.mono (HZ.out _) ?_
  rintro e x5 ⟨rfl, hb⟩
  replace hL0 := hL0.call hb
  replace hT := hT.call hb
  clear hb
  go_wp2_with fail
  with_reducible refine Calls.mono (HU.out _) ?_
  rintro e x6 ⟨rfl, hb⟩
  replace hL0 := hL0.call hb
  replace hT := hT.call hb
  clear hb
  go_upto_region 19 with fail
  obtain ⟨α, iα, F, hF1, hF2⟩ := cls x6
  refine region_cls (F := F) (by kernel_rfl) (lexB_of_fast (by kernel_rfl)) (cls_drew hF2) ?_
  repeat (go_big_quiet_step (first | fail | (go_at_call 34; with_reducible exact cls_call hF1 hF2 HI1.out _)))
  refine wpQuiet_nil ?_
  rintro wq ⟨xq, rfl⟩
  replace hL0 := hL0.call (hF1 xq)
  replace hT := hT.call (hF1 xq)
  clear  hF2
  generalize F xq = x7 at hL0 hT ⊢
  clear hF1 xq iα F α
  replace hT := (hT.new (.cells #[.int .i64 i] 3))
  replace hL0 := (hL0.new rfl [.int .i64 i] 3)
  generalize hweq : (x7.alloc (.cells #[.int .i64 i] 3)) = x8 at hL0 hT
  have hbv1 : ILs x8 (.slice (some ⟨x7.heap.size, 0, none⟩) 1 1) [i] := ils_at (hL0.get _ _ List.mem_cons_self) rfl rfl
  replace hbv1 := Lib.hid hbv1
  go_wp2_with fail
  with_reducible refine Calls.mono (HP.out (.slice g1 l g1c) (.slice (some ⟨x7.heap.size, 0, none⟩) 1 1) _ (hT.get (List.mem_cons_of_mem _ List.mem_cons_self)) hbv1.out) ?_
  rintro e x9 ⟨rfl, hb⟩
  replace hL0 := hL0.call hb
  replace hT := hT.call hb
  clear hb hweq
  go_upto_region 22 with fail
  have hd1 : ¬ (0 : Int) ≤ i := by omega
  have hd2 : decide ((0 : Int) ≤ i) = false := decide_eq_false hd1
  obtain ⟨α, iα, F, hF1, hF2⟩ := cls x9
  refine region_cls (F := F) (by kernel_rfl) (lexB_of_fast (by kernel_rfl)) (cls_drew hF2) ?_
  repeat (go_big_quiet_step (first | fail))
  refine wpQuiet_nil ?_
  rintro wq ⟨xq, rfl⟩
  replace hL0 := hL0.call (hF1 xq)
  replace hT := hT.call (hF1 xq)
  clear hd1 hd2 hF2
  generalize F xq = x10 at hL0 hT ⊢
  clear hF1 xq iα F α
  go_wp2_with fail
  with_reducible refine Calls.mono (HW.out _ (hKT.out.at hL0.bl kKT)) ?_
  rintro e x11 ⟨rfl, hb⟩
  replace hL0 := hL0.call hb
  replace hT := hT.call hb
  clear hb
  go_wp2_with fail
  exact bodyPost_ret (v := .bool true) (by simp [results, Tryz.results9, go_sem]) rfl ⟨rfl, hL0.bl⟩
set_option maxHeartbeats 16000000 in
set_option maxRecDepth 100000 in
theorem verr_0_low_low (al am : Option Addr) (nl cl nm cm l m : Nat) (n1 d1 : Int) (n : Nat) (i : Int) (x y v u p : List Rat) (c one xi : Rat) (KL : World → Prop) (hKL : Keeps KL) (HVa : ∀ w, KL w → Calls Tryz.prog 14 #[.slice al nl cl] w fun e w' => ∃ pv, e = .returned pv ∧ PT w' pv x ∧ (∀ g, pv.ownBlock = some g → w.heap.size ≤ g ∧ g < w'.heap.size) ∧ Below w.heap.size w w') (KM : World → Prop) (hKM : Keeps KM) (HVb : ∀ w, KM w → Calls Tryz.prog 14 #[.slice am nm cm] w fun e w' => ∃ pv, e = .returned pv ∧ PT w' pv y ∧ (∀ g, pv.ownBlock = some g → w.heap.size ≤ g ∧ g < w'.heap.size) ∧ Below w.heap.size w w') (HQ : ∀ w, Calls Tryz.prog 15 #[.agg #[.int .i64 n1, .int .u32 d1]] w fun xe w' => xe = .returned (fracV c) ∧ Below w.heap.size w w') (HR : ∀ (p1 p2 : Value) (w : World), PT w p1 x → PT w p2 y → Calls Tryz.prog 48 #[fracV c, p1, p2] w fun e w' => e = .returned (.int .i64 0) ∧ Below w.heap.size w w') (HZ : ∀ (w : World), Calls Tryz.prog 40 #[.int .i64 (n : Int)] w fun e w' => ∃ pv, e = .returned (.tuple #[pv, .int .i64 0]) ∧ PT w' pv v ∧ Below w.heap.size w w') (HU : ∀ w, Calls Tryz.prog 47 #[.int .i64 (n : Int), .int .i64 i] w fun xe w' => xe = .returned (.tuple #[.slice none 0 0, .int .i64 1]) ∧ Below w.heap.size w w') (HP : ∀ (p0 p1 : Value) (w : World), PT w p0 x → ILs w p1 ([i]) → Calls Tryz.prog 39 #[p0, p1] w fun e w' => e = .returned (.tuple #[.slice none 0 0, .int .i64 1]) ∧ Below w.heap.size w w') (HI1 : ∀ w, Calls Tryz.prog 34 #[.int .i64 1] w fun xe w' => xe = .returned (fracV one) ∧ Below w.heap.size w w') (HMv : ∀ (p0 : Value) (w : World), PT w p0 v → Calls Tryz.prog 30 #[p0] w fun e w' => e = .returned (.agg #[.int .u64 0, .string ⟨#[]⟩, .bool false, .int .u64 0, .string ⟨#[]⟩]) ∧ Below w.heap.size w w') (KT : World → Prop) (hKT : Keeps KT) (HW : ∀ w, KT w → Calls Tryz.prog 12 #[] w fun xe w' => xe = .returned (.bool true) ∧ Below w.heap.size w w') (l_nl : decide ((20 : Int) < ((nl : Nat) : Int)) = false) (k_nl : decide (20 < nl) = false) (l_nm : decide ((20 : Int) < ((nm : Nat) : Int)) = false) (k_nm : decide (20 < nm) = false) (lx : x.length = l) (ly : y.length = l) (lv : v.length = n) (lu : u.length = 0) (lp : p.length = 1) (hl1 : l ≤ 20) (hn : ¬ ((n : Nat) : Int) < 0) (hn2 : ¬ (2048 : Int) < ((n : Nat) : Int)) (hn3 : n ≤ 2048) (hn4 : ((n : Nat) : Int) ≤ 2048) (hi : i < 0) (hi2 : ¬ 0 ≤ i) (w : World) (kKL : KL w) (kKM : KM w) (kKT : KT w) :
  Calls Tryz.prog 9 #[.agg #[.int .i64 n1, .int .u32 d1], .slice al nl cl, .slice am nm cm, .int .i64 (n : Int), .int .i64 i] w fun e w' => e = .returned (.bool true) ∧ Below w.heap.size w w' := by
 replace hKL := Lib.hid hKL
 replace HVa := Lib.hid HVa
 replace hKM := Lib.hid hKM
 replace HVb := Lib.hid HVb
 replace HQ := Lib.hid HQ
 replace HR := Lib.hid HR
 replace HZ := Lib.hid HZ
 replace HU := Lib.hid HU
 replace HP := Lib.hid HP
 replace HI1 := Lib.hid HI1
 replace HMv := Lib.hid HMv
 replace hKT := Lib.hid hKT
 replace HW := Lib.hid HW
 have hL0 : GL w w [] := GL.start w
 have hT : PTs w [] := PTs.nil w
 replace lx := Lib.hid lx
 replace ly := Lib.hid ly
 replace lv := Lib.hid lv
 replace lu := Lib.hid lu
 replace lp := Lib.hid lp
 replace hT := (hT.new (.cells #[.int .i64 n1, .int .u32 d1] 24))
 replace hL0 := (hL0.new rfl [.int .i64 n1, .int .u32 d1] 24)
 generalize hweq : (w.alloc (.cells #[.int .i64 n1, .int .u32 d1] 24)) = x1 at hL0 hT
 go_enter Tryz.func9, Tryz.ntmps9
 have hN0 := cells_of _ 0 [] rfl (hL0.get _ _ List.mem_cons_self)
 simp only [cellsF, and_true, Nat.zero_add, Nat.reduceAdd] at hN0
 go_upto_region 3 with fail
 clear hN0
 clear hweq
 refine region_tfl 7 [EV (.slice al nl cl), PO x, EV (.slice am nm cm), PO y, EV (.agg #[.int .i64 n1, .int .u32 d1]), EV (fracV c), NewB x1.heap.size [.int .u64 0, .string ⟨#[]⟩, .bool false, .int .u64 0, .string ⟨#[]⟩]] [6] [1, 3] (by kernel_rfl) (by kernel_rfl) ?_ ?_ ?_ ?_ ?_ ?_
 ·exact stays_cons (stays_eq _) (stays_cons (stays_po _) (stays_cons (stays_eq _) (stays_cons (stays_po _) (stays_cons (stays_eq _) (stays_cons (stays_eq _) (stays_cons (stays_new _ _) stays_nil))))))
 ·simp only [List.take_succ_cons, List.take_zero, hopsRF, and_true]
  refine ⟨?_, ?_, ?_, ?_, ?_, ?_, ?_⟩ <;> intro fv w1 hb1 hp
  all_goals (simp only [putsV, Act.put, List.setIfInBounds_toArray, List.set_cons_succ, List.set_cons_zero, Nat.zero_add, Nat.reduceAdd])
  ·refine fr_no rfl (tyAt_none rfl ?_)
   simp [tyUpon, execOp, go_sem, Act.eval, Below.refl]
  ·have h0 : EV _ (fv 0) w1 := hp 0 (LC (by kernel_rfl))
   refine tyAt_none rfl ?_
   refine ty_call (f := 14) (args := #[.slice al nl cl]) (by simp [execOp, go_sem, Act.eval, h0]) ?_
   exact (HVa.out w1 (hKL.out.at ((hL0.call (below_drew hb1)).bl) kKL)).mono fun e w2 ⟨pv, h1, h2, h3, h4⟩ => ⟨pv, h1, ⟨⟨h2, fun g hg => (h3 g hg).2⟩, fun _ g hg => (h3 g hg).1⟩, h4⟩
  ·refine fr_no rfl (tyAt_none rfl ?_)
   simp [tyUpon, execOp, go_sem, Act.eval, Below.refl]
  ·have h2 : EV _ (fv 2) w1 := hp 2 (LC (by kernel_rfl))
   refine tyAt_none rfl ?_
   refine ty_call (f := 14) (args := #[.slice am nm cm]) (by simp [execOp, go_sem, Act.eval, h2]) ?_
   exact (HVb.out w1 (hKM.out.at ((hL0.call (below_drew hb1)).bl) kKM)).mono fun e w2 ⟨pv, h1, h2, h3, h4⟩ => ⟨pv, h1, ⟨⟨h2, fun g hg => (h3 g hg).2⟩, fun _ g hg => (h3 g hg).1⟩, h4⟩
  ·refine fr_no rfl (tyAt_none rfl ?_)
   have hc := (hL0.call (below_drew hb1)).fc
   simp only [fcG, cellsF, neK, and_true, ne_eq, Nat.zero_add, Nat.reduceAdd] at hc
   simp [tyUpon, execOp, go_sem, Act.eval, hc, Below.refl]
  ·have h4 : EV _ (fv 4) w1 := hp 4 (LC (by kernel_rfl))
   refine fr_no rfl (tyAt_none rfl ?_)
   refine ty_call (f := 15) (args := #[.agg #[.int .i64 n1, .int .u32 d1]]) (by simp [execOp, go_sem, Act.eval, h4]) ?_
   exact (HQ.out w1).mono fun e w2 ⟨h1, h2⟩ => ⟨_, h1, rfl, h2⟩
  ·exact fr_no rfl (tyAt_new rfl rfl new_frac (below_drew hb1).size)
 ·intro j hj u w2 hT2
  simp only [List.contains_iff_mem, List.mem_cons, List.not_mem_nil, or_false] at hj
  rcases hj with rfl
  exact NewB.ptr hT2
 ·intro j hj u w2 hT2
  simp only [List.contains_iff_mem, List.mem_cons, List.not_mem_nil, or_false] at hj
  rcases hj with rfl | rfl <;> exact hT2.2
 ·exact ⟨⟨_, _, _, _, rfl, rfl, rfl, new_frac⟩, trivial⟩
 ·intro fv x2 hb1 hv hne hsp
  have e0 : fv 0 = _ := hv 0 (by omega)
  obtain ⟨q1, -⟩ : PO x (fv 1) x2 := hv 1 (by omega)
  obtain ⟨g1, g1c, e1⟩ := ptn_form q1 lx.out
  have e2 : fv 2 = _ := hv 2 (by omega)
  obtain ⟨q3, -⟩ : PO y (fv 3) x2 := hv 3 (by omega)
  obtain ⟨g2, g2c, e3⟩ := ptn_form q3 ly.out
  have e4 : fv 4 = _ := hv 4 (by omega)
  have e5 : fv 5 = _ := hv 5 (by omega)
  obtain ⟨kb6, e6, n6, m6⟩ : NewB x1.heap.size [.int .u64 0, .string ⟨#[]⟩, .bool false, .int .u64 0, .string ⟨#[]⟩] (fv 6) x2 := hv 6 (by omega)
  have s1 : ∀ g, (fv 1).ownBlock = some g → g ≠ kb6 := fun g hg e => hsp 6 1 (by omega) (by omega) rfl rfl g hg (by rw [e6, e])
  have s3 : ∀ g, (fv 3).ownBlock = some g → g ≠ kb6 := fun g hg e => hsp 6 3 (by omega) (by omega) rfl rfl g hg (by rw [e6, e])
  rw [e1] at q1 s1
  rw [e3] at q3 s3
  simp only [List.take_succ_cons, List.take_zero, putsV, Act.put, List.setIfInBounds_toArray, List.set_cons_succ, List.set_cons_zero, List.drop_succ_cons, List.drop_zero, Nat.zero_add, Nat.reduceAdd, e0, e1, e2, e3, e4, e5, e6]
  have hx0 := hL0
  replace hL0 := hL0.call (below_drew hb1)
  replace hT := hT.call (below_drew hb1)
  replace hL0 := GL.tnew (M := []) hL0 hx0 n6 m6 (fun p hp => by cases hp)
  simp only [List.cons_append, List.nil_append] at hL0
  replace hT := (hT.cons q1).cons q3
  have hsS : ∀ p ∈ ([(.slice g2 l g2c, y), (.slice g1 l g1c, x)] : List (Value × List Rat)), ∀ g, p.1.ownBlock = some g → g ≠ kb6 := by
   intro p hp
   rcases List.mem_cons.1 hp with rfl | hp
   ·exact s3
   ·rw [List.mem_singleton.1 hp]; exact s1
  have hT1 := hT.putS ((((((Upd.refl kb6 x2).setCell 0 (.int .u64 ((zl c.num : Nat) : Int))).setCell 1 (.string (zh c.num))).setCell 2 (.bool (zs c.num))).setCell 3 (.int .u64 ((lo (fe c) : Nat) : Int))).setCell 4 (.string (hs (fe c)))) hsS
  have hA := hL0.fc
  simp only [fcG, cellsF, neK, and_true, ne_eq, Nat.zero_add, Nat.reduceAdd] at hA
  have hP := hL0.put 0 (kb6) _ rfl [.int .u64 ((zl c.num : Nat) : Int), .string (zh c.num), .bool (zs c.num), .int .u64 ((lo (fe c) : Nat) : Int), .string (hs (fe c))] rfl
  simp only [setAll, List.set_cons_zero, List.set_cons_succ] at hP
  generalize hput1 : (((((x2.setCell ⟨kb6, 0, none⟩ (.int .u64 ((zl c.num : Nat) : Int))).setCell ⟨kb6, 1, none⟩ (.string (zh c.num))).setCell ⟨kb6, 2, none⟩ (.bool (zs c.num))).setCell ⟨kb6, 3, none⟩ (.int .u64 ((lo (fe c) : Nat) : Int))).setCell ⟨kb6, 4, none⟩ (.string (hs (fe c)))) = x3 at hP hT1
  have hB1 := hP.fc
  simp only [fcG, cellsF, neK, and_true, ne_eq, Nat.zero_add, Nat.reduceAdd] at hB1
  replace hL0 := hP
  replace hT := hT1
  clear hT1 hsS s1 s3 q1 q3 n6 m6 hx0 hne hsp hv hb1 e0 e1 e2 e3 e4 e5 e6 fv
  go_wp2_with fail
  clear hA
  with_reducible refine Calls.mono (HR.out (.slice g1 l g1c) (.slice g2 l g2c) _ (hT.get (List.mem_cons_of_mem _ List.mem_cons_self)) (hT.get List.mem_cons_self)) ?_
  rintro e x4 ⟨rfl, hb⟩
  replace hL0 := hL0.call hb
  replace hT := hT.call hb
  clear hb hput1 hB1
  go_wp2_with fail
  with_reducible refine Calls.mono (HZ.out _) ?_
  rintro e x5 ⟨v0, rfl, q0, hb⟩
  replace hL0 := hL0.call hb
  replace hT := hT.call hb
  clear hb
  obtain ⟨g3, g3c, rfl⟩ := ptn_form q0 lv.out
  replace hT := hT.cons q0
  clear q0
  go_wp2_with fail
  with_reducible refine Calls.mono (HU.out _) ?_
  rintro e x6 ⟨rfl, hb⟩
  replace hL0 := hL0.call hb
  replace hT := hT.call hb
  clear hb
  go_upto_region 19 with fail
  have hkv := hT.get List.mem_cons_self
  replace hkv := Lib.hid hkv
  obtain ⟨α, iα, F, hF1, hF2⟩ := cls x6
  refine region_cls (F := F) (by kernel_rfl) (lexB_of_fast (by kernel_rfl)) (cls_drew hF2) ?_
  repeat (go_big_quiet_step (first | fail | (go_at_call 34; with_reducible exact cls_call hF1 hF2 HI1.out _) | (go_at_call 30; with_reducible exact cls_callK (SlQ.keeps _ _) hF1 hF2 hkv.out (fun w h => HMv.out _ w h) _)))
  refine wpQuiet_nil ?_
  rintro wq ⟨xq, rfl⟩
  replace hL0 := hL0.call (hF1 xq)
  replace hT := hT.call (hF1 xq)
  clear hkv hF2
  generalize F xq = x7 at hL0 hT ⊢
  clear hF1 xq iα F α
  replace hT := (hT.new (.cells #[.int .i64 i] 3))
  replace hL0 := (hL0.new rfl [.int .i64 i] 3)
  generalize hweq : (x7.alloc (.cells #[.int .i64 i] 3)) = x8 at hL0 hT
  have hbv1 : ILs x8 (.slice (some ⟨x7.heap.size, 0, none⟩) 1 1) [i] := ils_at (hL0.get _ _ List.mem_cons_self) rfl rfl
  replace hbv1 := Lib.hid hbv1
  go_wp2_with fail
  with_reducible refine Calls.mono (HP.out (.slice g1 l g1c) (.slice (some ⟨x7.heap.size, 0, none⟩) 1 1) _ (hT.get (List.mem_cons_of_mem _ (List.mem_cons_of_mem _ List.mem_cons_self))) hbv1.out) ?_
  rintro e x9 ⟨rfl, hb⟩
  replace hL0 := hL0.call hb
  replace hT := hT.call hb
  clear hb hweq
  go_upto_region 22 with fail
  have hd1 : ¬ (0 : Int) ≤ i := by omega
  have hd2 : decide ((0 : Int) ≤ i) = false := decide_eq_false hd1
  obtain ⟨α, iα, F, hF1, hF2⟩ := cls x9
  refine region_cls (F := F) (by kernel_rfl) (lexB_of_fast (by kernel_rfl)) (cls_drew hF2) ?_
  repeat (go_big_quiet_step (first | fail))
  refine wpQuiet_nil ?_
  rintro wq ⟨xq, rfl⟩
  replace hL0 := hL0.call (hF1 xq)
  replace hT := hT.call (hF1 xq)
  clear hd1 hd2 hF2
  generalize F xq = x10 at hL0 hT ⊢
  clear hF1 xq iα F α
  go_wp2_with fail
  with_reducible refine Calls.mono (HW.out _ (hKT.out.at hL0.bl kKT)) ?_
  rintro e x11 ⟨rfl, hb⟩
  replace hL0 := hL0.call hb
  replace hT := hT.call hb
  clear hb
  go_wp2_with fail
  exact bodyPost_ret (v := .bool true) (by simp [results, Tryz.results9, go_sem]) rfl ⟨rfl, hL0.bl⟩
set_option maxHeartbeats 16000000 in
set_option maxRecDepth 100000 in
theorem verr_0_neg_in (al am : Option Addr) (nl cl nm cm l m : Nat) (n1 d1 : Int) (n : Int) (i : Nat) (x y v u p : List Rat) (c one xi : Rat) (KL : World → Prop) (hKL : Keeps KL) (HVa : ∀ w, KL w → Calls Tryz.prog 14 #[.slice al nl cl] w fun e w' => ∃ pv, e = .returned pv ∧ PT w' pv x ∧ (∀ g, pv.ownBlock = some g → w.heap.size ≤ g ∧ g < w'.heap.size) ∧ Below w.heap.size w w') (KM : World → Prop) (hKM : Keeps KM) (HVb : ∀ w, KM w → Calls Tryz.prog 14 #[.slice am nm cm] w fun e w' => ∃ pv, e = .returned pv ∧ PT w' pv y ∧ (∀ g, pv.ownBlock = some g → w.heap.size ≤ g ∧ g < w'.heap.size) ∧ Below w.heap.size w w') (HQ : ∀ w, Calls Tryz.prog 15 #[.agg #[.int .i64 n1, .int .u32 d1]] w fun xe w' => xe = .returned (fracV c) ∧ Below w.heap.size w w') (HR : ∀ (p1 p2 : Value) (w : World), PT w p1 x → PT w p2 y → Calls Tryz.prog 48 #[fracV c, p1, p2] w fun e w' => e = .returned (.int .i64 0) ∧ Below w.heap.size w w') (HZ : ∀ w, Calls Tryz.prog 40 #[.int .i64 n] w fun xe w' => xe = .returned (.tuple #[.slice none 0 0, .int .i64 1]) ∧ Below w.heap.size w w') (HU : ∀ w, Calls Tryz.prog 47 #[.int .i64 n, .int .i64 (i : Int)] w fun xe w' => xe = .returned (.tuple #[.slice none 0 0, .int .i64 1]) ∧ Below w.heap.size w w') (HP : ∀ (p0 p1 : Value) (w : World), PT w p0 x → ILs w p1 ([(i : Int)]) → Calls Tryz.prog 39 #[p0, p1] w fun e w' => ∃ pv, e = .returned (.tuple #[pv, .int .i64 0]) ∧ PT w' pv p ∧ Below w.heap.size w w') (HI1 : ∀ w, Calls Tryz.prog 34 #[.int .i64 1] w fun xe w' => xe = .returned (fracV one) ∧ Below w.heap.size w w') (HMv : ∀ (p0 : Value) (w : World), PT w p0 v → Calls Tryz.prog 30 #[p0] w fun e w' => e = .returned (.agg #[.int .u64 0, .string ⟨#[]⟩, .bool false, .int .u64 0, .string ⟨#[]⟩]) ∧ Below w.heap.size w w') (KT : World → Prop) (hKT : Keeps KT) (HW : ∀ w, KT w → Calls Tryz.prog 12 #[] w fun xe w' => xe = .returned (.bool true) ∧ Below w.heap.size w w') (l_nl : decide ((20 : Int) < ((nl : Nat) : Int)) = false) (k_nl : decide (20 < nl) = false) (l_nm : decide ((20 : Int) < ((nm : Nat) : Int)) = false) (k_nm : decide (20 < nm) = false) (lx : x.length = l) (ly : y.length = l) (lv : v.length = 0) (lu : u.length = 0) (lp : p.length = 1) (hl1 : l ≤ 20) (hn : n < 0) (hi : ¬ ((i : Nat) : Int) < 0) (hi2 : (0 : Int) ≤ ((i : Nat) : Int)) (hil : ((i : Nat) : Int) < ((l : Nat) : Int)) (hl0 : 0 < l) (hxi : gv x i = xi) (hpi : gv p 0 = xi) (w : World) (kKL : KL w) (kKM : KM w) (kKT : KT w) :
  Calls Tryz.prog 9 #[.agg #[.int .i64 n1, .int .u32 d1], .slice al nl cl, .slice am nm cm, .int .i64 n, .int .i64 (i : Int)] w fun e w' => e = .returned (.bool true) ∧ Below w.heap.size w w' := by
 replace hKL := Lib.hid hKL
 replace HVa := Lib.hid HVa
 replace hKM := Lib.hid hKM
 replace HVb := Lib.hid HVb
 replace HQ := Lib.hid HQ
 replace HR := Lib.hid HR
 replace HZ := Lib.hid HZ
 replace HU := Lib.hid HU
 replace HP := Lib.hid HP
 replace HI1 := Lib.hid HI1
 replace HMv := Lib.hid HMv
 replace hKT := Lib.hid hKT
 replace HW := Lib.hid HW
 have hL0 : GL w w [] := GL.start w
 have hT : PTs w [] := PTs.nil w
 replace lx := Lib.hid lx
 replace ly := Lib.hid ly
 replace lv := Lib.hid lv
 replace lu := Lib.hid lu
 replace lp := Lib.hid lp
 replace hl0 := Lib.hid hl0
 replace hxi := Lib.hid hxi
 replace hpi := Lib.hid hpi
 replace hT := (hT.new (.cells #[.int .i64 n1, .int .u32 d1] 24))
 replace hL0 := (hL0.new rfl [.int .i64 n1, .int .u32 d1] 24)
 generalize hweq : (w.alloc (.cells #[.int .i64 n1, .int .u32 d1] 24)) = x1 at hL0 hT
 go_enter Tryz.func9, Tryz.ntmps9
 have hN0 := cells_of _ 0 [] rfl (hL0.get _ _ List.mem_cons_self)
 simp only [cellsF, and_true, Nat.zero_add, Nat.reduceAdd] at hN0
 go_upto_region 3 with fail
 clear hN0
 clear hweq
 refine region_tfl 7 [EV (.slice al nl cl), PO x, EV (.slice am nm cm), PO y, EV (.agg #[.int .i64 n1, .int .u32 d1]), EV (fracV c), NewB x1.heap.size [.int .u64 0, .string ⟨#[]⟩, .bool false, .int .u64 0, .string ⟨#[]⟩]] [6] [1, 3] (by kernel_rfl) (by kernel_rfl) ?_ ?_ ?_ ?_ ?_ ?_
 ·exact stays_cons (stays_eq _) (stays_cons (stays_po _) (stays_cons (stays_eq _) (stays_cons (stays_po _) (stays_cons (stays_eq _) (stays_cons (stays_eq _) (stays_cons (stays_new _ _) stays_nil))))))
 ·simp only [List.take_succ_cons, List.take_zero, hopsRF, and_true]
  refine ⟨?_, ?_, ?_, ?_, ?_, ?_, ?_⟩ <;> intro fv w1 hb1 hp
  all_goals (simp only [putsV, Act.put, List.setIfInBounds_toArray, List.set_cons_succ, List.set_cons_zero, Nat.zero_add, Nat.reduceAdd])
  ·refine fr_no rfl (tyAt_none rfl ?_)
   simp [tyUpon, execOp, go_sem, Act.eval, Below.refl]
  ·have h0 : EV _ (fv 0) w1 := hp 0 (LC (by kernel_rfl))
   refine tyAt_none rfl ?_
   refine ty_call (f := 14) (args := #[.slice al nl cl]) (by simp [execOp, go_sem, Act.eval, h0]) ?_
   exact (HVa.out w1 (hKL.out.at ((hL0.call (below_drew hb1)).bl) kKL)).mono fun e w2 ⟨pv, h1, h2, h3, h4⟩ => ⟨pv, h1, ⟨⟨h2, fun g hg => (h3 g hg).2⟩, fun _ g hg => (h3 g hg).1⟩, h4⟩
  ·refine fr_no rfl (tyAt_none rfl ?_)
   simp [tyUpon, execOp, go_sem, Act.eval, Below.refl]
  ·have h2 : EV _ (fv 2) w1 := hp 2 (LC (by kernel_rfl))
   refine tyAt_none rfl ?_
   refine ty_call (f := 14) (args := #[.slice am nm cm]) (by simp [execOp, go_sem, Act.eval, h2]) ?_
   exact (HVb.out w1 (hKM.out.at ((hL0.call (below_drew hb1)).bl) kKM)).mono fun e w2 ⟨pv, h1, h2, h3, h4⟩ => ⟨pv, h1, ⟨⟨h2, fun g hg => (h3 g hg).2⟩, fun _ g hg => (h3 g hg).1⟩, h4⟩
  ·refine fr_no rfl (tyAt_none rfl ?_)
   have hc := (hL0.call (below_drew hb1)).fc
   simp only [fcG, cellsF, neK, and_true, ne_eq, Nat.zero_add, Nat.reduceAdd] at hc
   simp [tyUpon, execOp, go_sem, Act.eval, hc, Below.refl]
  ·have h4 : EV _ (fv 4) w1 := hp 4 (LC (by kernel_rfl))
   refine fr_no rfl (tyAt_none rfl ?_)
   refine ty_call (f := 15) (args := #[.agg #[.int .i64 n1, .int .u32 d1]]) (by simp [execOp, go_sem, Act.eval, h4]) ?_
   exact (HQ.out w1).mono fun e w2 ⟨h1, h2⟩ => ⟨_, h1, rfl, h2⟩
  ·exact fr_no rfl (tyAt_new rfl rfl new_frac (below_drew hb1).size)
 ·intro j hj u w2 hT2
  simp only [List.contains_iff_mem, List.mem_cons, List.not_mem_nil, or_false] at hj
  rcases hj with rfl
  exact NewB.ptr hT2
 ·intro j hj u w2 hT2
  simp only [List.contains_iff_mem, List.mem_cons, List.not_mem_nil, or_false] at hj
  rcases hj with rfl | rfl <;> exact hT2.2
 ·exact ⟨⟨_, _, _, _, rfl, rfl, rfl, new_frac⟩, trivial⟩
 ·intro fv x2 hb1 hv hne hsp
  have e0 : fv 0 = _ := hv 0 (by omega)
  obtain ⟨q1, -⟩ : PO x (fv 1) x2 := hv 1 (by omega)
  obtain ⟨g1, g1c, e1⟩ := ptp_form q1 lx.out hl0.out
  have e2 : fv 2 = _ := hv 2 (by omega)
  obtain ⟨q3, -⟩ : PO y (fv 3) x2 := hv 3 (by omega)
  obtain ⟨g2, g2c, e3⟩ := ptn_form q3 ly.out
  have e4 : fv 4 = _ := hv 4 (by omega)
  have e5 : fv 5 = _ := hv 5 (by omega)
  obtain ⟨kb6, e6, n6, m6⟩ : NewB x1.heap.size [.int .u64 0, .string ⟨#[]⟩, .bool false, .int .u64 0, .string ⟨#[]⟩] (fv 6) x2 := hv 6 (by omega)
  have s1 : ∀ g, (fv 1).ownBlock = some g → g ≠ kb6 := fun g hg e => hsp 6 1 (by omega) (by omega) rfl rfl g hg (by rw [e6, e])
  have s3 : ∀ g, (fv 3).ownBlock = some g → g ≠ kb6 := fun g hg e => hsp 6 3 (by omega) (by omega) rfl rfl g hg (by rw [e6, e])
  rw [e1] at q1 s1
  rw [e3] at q3 s3
  simp only [List.take_succ_cons, List.take_zero, putsV, Act.put, List.setIfInBounds_toArray, List.set_cons_succ, List.set_cons_zero, List.drop_succ_cons, List.drop_zero, Nat.zero_add, Nat.reduceAdd, e0, e1, e2, e3, e4, e5, e6]
  have hx0 := hL0
  replace hL0 := hL0.call (below_drew hb1)
  replace hT := hT.call (below_drew hb1)
  replace hL0 := GL.tnew (M := []) hL0 hx0 n6 m6 (fun p hp => by cases hp)
  simp only [List.cons_append, List.nil_append] at hL0
  replace hT := (hT.cons q1).cons q3
  have hsS : ∀ p ∈ ([(.slice g2 l g2c, y), (.slice (some ⟨g1, 0, none⟩) l g1c, x)] : List (Value × List Rat)), ∀ g, p.1.ownBlock = some g → g ≠ kb6 := by
   intro p hp
   rcases List.mem_cons.1 hp with rfl | hp
   ·exact s3
   ·rw [List.mem_singleton.1 hp]; exact s1
  have hT1 := hT.putS ((((((Upd.refl kb6 x2).setCell 0 (.int .u64 ((zl c.num : Nat) : Int))).setCell 1 (.string (zh c.num))).setCell 2 (.bool (zs c.num))).setCell 3 (.int .u64 ((lo (fe c) : Nat) : Int))).setCell 4 (.string (hs (fe c)))) hsS
  have hA := hL0.fc
  simp only [fcG, cellsF, neK, and_true, ne_eq, Nat.zero_add, Nat.reduceAdd] at hA
  have hP := hL0.put 0 (kb6) _ rfl [.int .u64 ((zl c.num : Nat) : Int), .string (zh c.num), .bool (zs c.num), .int .u64 ((lo (fe c) : Nat) : Int), .string (hs (fe c))] rfl
  simp only [setAll, List.set_cons_zero, List.set_cons_succ] at hP
  generalize hput1 : (((((x2.setCell ⟨kb6, 0, none⟩ (.int .u64 ((zl c.num : Nat) : Int))).setCell ⟨kb6, 1, none⟩ (.string (zh c.num))).setCell ⟨kb6, 2, none⟩ (.bool (zs c.num))).setCell ⟨kb6, 3, none⟩ (.int .u64 ((lo (fe c) : Nat) : Int))).setCell ⟨kb6, 4, none⟩ (.string (hs (fe c)))) = x3 at hP hT1
  have hB1 := hP.fc
  simp only [fcG, cellsF, neK, and_true, ne_eq, Nat.zero_add, Nat.reduceAdd] at hB1
  replace hL0 := hP
  replace hT := hT1
  clear hT1 hsS s1 s3 q1 q3 n6 m6 hx0 hne hsp hv hb1 e0 e1 e2 e3 e4 e5 e6 fv
  go_wp2_with fail
  clear hA
  with_reducible refine Calls.mono (HR.out (.slice (some ⟨g1, 0, none⟩) l g1c) (.slice g2 l g2c) _ (hT.get (List.mem_cons_of_mem _ List.mem_cons_self)) (hT.get List.mem_cons_self)) ?_
  rintro e x4 ⟨rfl, hb⟩
  replace hL0 := hL0.call hb
  replace hT := hT.call hb
  clear hb hput1 hB1
  go_wp2_with fail
  with_reducible refine Calls.mono (HZ.out _) ?_
  rintro e x5 ⟨rfl, hb⟩
  replace hL0 := hL0.call hb
  replace hT := hT.call hb
  clear hb
  go_wp2_with fail
  with_reducible refine Calls.mono (HU.out _) ?_
  rintro e x6 ⟨rfl, hb⟩
  replace hL0 := hL0.call hb
  replace hT := hT.call hb
  clear hb
  go_upto_region 19 with fail
  obtain ⟨α, iα, F, hF1, hF2⟩ := cls x6
  refine region_cls (F := F) (by kernel_rfl) (lexB_of_fast (by kernel_rfl)) (cls_drew hF2) ?_
  repeat (go_big_quiet_step (first | fail | (go_at_call 34; with_reducible exact cls_call hF1 hF2 HI1.out _)))
  refine wpQuiet_nil ?_
  rintro wq ⟨xq, rfl⟩
  replace hL0 := hL0.call (hF1 xq)
  replace hT := hT.call (hF1 xq)
  clear  hF2
  generalize F xq = x7 at hL0 hT ⊢
  clear hF1 xq iα F α
  replace hT := (hT.new (.cells #[.int .i64 (i : Int)] 3))
  replace hL0 := (hL0.new rfl [.int .i64 (i : Int)] 3)
  generalize hweq : (x7.alloc (.cells #[.int .i64 (i : Int)] 3)) = x8 at hL0 hT
  have hbv1 : ILs x8 (.slice (some ⟨x7.heap.size, 0, none⟩) 1 1) [(i : Int)] := ils_at (hL0.get _ _ List.mem_cons_self) rfl rfl
  replace hbv1 := Lib.hid hbv1
  go_wp2_with fail
  with_reducible refine Calls.mono (HP.out (.slice (some ⟨g1, 0, none⟩) l g1c) (.slice (some ⟨x7.heap.size, 0, none⟩) 1 1) _ (hT.get (List.mem_cons_of_mem _ List.mem_cons_self)) hbv1.out) ?_
  rintro e x9 ⟨v0, rfl, q0, hb⟩
  replace hL0 := hL0.call hb
  replace hT := hT.call hb
  clear hb hweq
  obtain ⟨g3, g3c, rfl⟩ := ptp_form q0 lp.out (by decide)
  replace hT := hT.cons q0
  clear q0
  go_upto_region 22 with fail
  obtain ⟨xe0, xe1, xe2, xe3, xe4⟩ := fsc (slq_fs (hT.get (List.mem_cons_of_mem _ (List.mem_cons_of_mem _ List.mem_cons_self))) (by rw [lx.out]; omega)) i (by rw [lx.out]; omega)
  rw [hxi.out] at xe0 xe1 xe2 xe3 xe4
  obtain ⟨pe0, pe1, pe2, pe3, pe4⟩ := fsc (slq_fs (hT.get List.mem_cons_self) (by rw [lp.out]; omega)) 0 (by rw [lp.out]; omega)
  rw [hpi.out] at pe0 pe1 pe2 pe3 pe4
  obtain ⟨α, iα, F, hF1, hF2⟩ := cls x9
  have cxe0 := fun yz => keepsC (hF1 yz) xe0
  have cxe1 := fun yz => keepsC (hF1 yz) xe1
  have cxe2 := fun yz => keepsC (hF1 yz) xe2
  have cxe3 := fun yz => keepsC (hF1 yz) xe3
  have cxe4 := fun yz => keepsC (hF1 yz) xe4
  have cpe0 := fun yz => keepsC (hF1 yz) pe0
  have cpe1 := fun yz => keepsC (hF1 yz) pe1
  have cpe2 := fun yz => keepsC (hF1 yz) pe2
  have cpe3 := fun yz => keepsC (hF1 yz) pe3
  have cpe4 := fun yz => keepsC (hF1 yz) pe4
  clear xe0 xe1 xe2 xe3 xe4 pe0 pe1 pe2 pe3 pe4
  refine region_cls (F := F) (by kernel_rfl) (lexB_of_fast (by kernel_rfl)) (cls_drew hF2) ?_
  repeat (go_big_quiet_step (first | fail))
  refine wpQuiet_nil ?_
  rintro wq ⟨xq, rfl⟩
  replace hL0 := hL0.call (hF1 xq)
  replace hT := hT.call (hF1 xq)
  clear cxe0 cxe1 cxe2 cxe3 cxe4 cpe0 cpe1 cpe2 cpe3 cpe4 hF2
  generalize F xq = x10 at hL0 hT ⊢
  clear hF1 xq iα F α
  go_wp2_with fail
  with_reducible refine Calls.mono (HW.out _ (hKT.out.at hL0.bl kKT)) ?_
  rintro e x11 ⟨rfl, hb⟩
  replace hL0 := hL0.call hb
  replace hT := hT.call hb
  clear hb
  go_wp2_with fail
  exact bodyPost_ret (v := .bool true) (by simp [results, Tryz.results9, go_sem]) rfl ⟨rfl, hL0.bl⟩
set_option maxHeartbeats 16000000 in
set_option maxRecDepth 100000 in
theorem verr_0_neg_high (al am : Option Addr) (nl cl nm cm l m : Nat) (n1 d1 : Int) (n : Int) (i : Nat) (x y v u p : List Rat) (c one xi : Rat) (KL : World → Prop) (hKL : Keeps KL) (HVa : ∀ w, KL w → Calls Tryz.prog 14 #[.slice al nl cl] w fun e w' => ∃ pv, e = .returned pv ∧ PT w' pv x ∧ (∀ g, pv.ownBlock = some g → w.heap.size ≤ g ∧ g < w'.heap.size) ∧ Below w.heap.size w w') (KM : World → Prop) (hKM : Keeps KM) (HVb : ∀ w, KM w → Calls Tryz.prog 14 #[.slice am nm cm] w fun e w' => ∃ pv, e = .returned pv ∧ PT w' pv y ∧ (∀ g, pv.ownBlock = some g → w.heap.size ≤ g ∧ g < w'.heap.size) ∧ Below w.heap.size w w') (HQ : ∀ w, Calls Tryz.prog 15 #[.agg #[.int .i64 n1, .int .u32 d1]] w fun xe w' => xe = .returned (fracV c) ∧ Below w.heap.size w w') (HR : ∀ (p1 p2 : Value) (w : World), PT w p1 x → PT w p2 y → Calls Tryz.prog 48 #[fracV c, p1, p2] w fun e w' => e = .returned (.int .i64 0) ∧ Below w.heap.size w w') (HZ : ∀ w, Calls Tryz.prog 40 #[.int .i64 n] w fun xe w' => xe = .returned (.tuple #[.slice none 0 0, .int .i64 1]) ∧ Below w.heap.size w w') (HU : ∀ w, Calls Tryz.prog 47 #[.int .i64 n, .int .i64 (i : Int)] w fun xe w' => xe = .returned (.tuple #[.slice none 0 0, .int .i64 1]) ∧ Below w.heap.size w w') (HP : ∀ (p0 p1 : Value) (w : World), PT w p0 x → ILs w p1 ([(i : Int)]) → Calls Tryz.prog 39 #[p0, p1] w fun e w' => e = .returned (.tuple #[.slice none 0 0, .int .i64 1]) ∧ Below w.heap.size w w') (HI1 : ∀ w, Calls Tryz.prog 34 #[.int .i64 1] w fun xe w' => xe = .returned (fracV one) ∧ Below w.heap.size w w') (HMv : ∀ (p0 : Value) (w : World), PT w p0 v → Calls Tryz.prog 30 #[p0] w fun e w' => e = .returned (.agg #[.int .u64 0, .string ⟨#[]⟩, .bool false, .int .u64 0, .string ⟨#[]⟩]) ∧ Below w.heap.size w w') (KT : World → Prop) (hKT : Keeps KT) (HW : ∀ w, KT w → Calls Tryz.prog 12 #[] w fun xe w' => xe = .returned (.bool true) ∧ Below w.heap.size w w') (l_nl : decide ((20 : Int) < ((nl : Nat) : Int)) = false) (k_nl : decide (20 < nl) = false) (l_nm : decide ((20 : Int) < ((nm : Nat) : Int)) = false) (k_nm : decide (20 < nm) = false) (lx : x.length = l) (ly : y.length = l) (lv : v.length = 0) (lu : u.length = 0) (lp : p.length = 1) (hl1 : l ≤ 20) (hn : n < 0) (hi : ¬ ((i : Nat) : Int) < 0) (hi2 : (0 : Int) ≤ ((i : Nat) : Int)) (hil : ¬ ((i : Nat) : Int) < ((l : Nat) : Int)) (w : World) (kKL : KL w) (kKM : KM w) (kKT : KT w) :
  Calls Tryz.prog 9 #[.agg #[.int .i64 n1, .int .u32 d1], .slice al nl cl, .slice am nm cm, .int .i64 n, .int .i64 (i : Int)] w fun e w' => e = .returned (.bool true) ∧ Below w.heap.size w w' := by
 replace hKL := Lib.hid hKL
 replace HVa := Lib.hid HVa
 replace hKM := Lib.hid hKM
 replace HVb := Lib.hid HVb
 replace HQ := Lib.hid HQ
 replace HR := Lib.hid HR
 replace HZ := Lib.hid HZ
 replace HU := Lib.hid HU
 replace HP := Lib.hid HP
 replace HI1 := Lib.hid HI1
 replace HMv := Lib.hid HMv
 replace hKT := Lib.hid hKT
 replace HW := Lib.hid HW
 have hL0 : GL w w [] := GL.start w
 have hT : PTs w [] := PTs.nil w
 replace lx := Lib.hid lx
 replace ly := Lib.hid ly
 replace lv := Lib.hid lv
 replace lu := Lib.hid lu
 replace lp := Lib.hid lp
 replace hT := (hT.new (.cells #[.int .i64 n1, .int .u32 d1] 24))
 replace hL0 := (hL0.new rfl [.int .i64 n1, .int .u32 d1] 24)
 generalize hweq : (w.alloc (.cells #[.int .i64 n1, .int .u32 d1] 24)) = x1 at hL0 hT
 go_enter Tryz.func9, Tryz.ntmps9
 have hN0 := cells_of _ 0 [] rfl (hL0.get _ _ List.mem_cons_self)
 simp only [cellsF, and_true, Nat.zero_add, Nat.reduceAdd] at hN0
 go_upto_region 3 with fail
 clear hN0
 clear hweq
 refine region_tfl 7 [EV (.slice al nl cl), PO x, EV (.slice am nm cm), PO y, EV (.agg #[.int .i64 n1, .int .u32 d1]), EV (fracV c), NewB x1.heap.size [.int .u64 0, .string ⟨#[]⟩, .bool false, .int .u64 0, .string ⟨#[]⟩]] [6] [1, 3] (by kernel_rfl) (by kernel_rfl) ?_ ?_ ?_ ?_ ?_ ?_
 ·exact stays_cons (stays_eq _) (stays_cons (stays_po _) (stays_cons (stays_eq _) (stays_cons (stays_po _) (stays_cons (stays_eq _) (stays_cons (stays_eq _) (stays_cons (stays_new _ _) stays_nil))))))
 ·simp only [List.take_succ_cons, List.take_zero, hopsRF, and_true]
  refine ⟨?_, ?_, ?_, ?_, ?_, ?_, ?_⟩ <;> intro fv w1 hb1 hp
  all_goals (simp only [putsV, Act.put, List.setIfInBounds_toArray, List.set_cons_succ, List.set_cons_zero, Nat.zero_add, Nat.reduceAdd])
  ·refine fr_no rfl (tyAt_none rfl ?_)
   simp [tyUpon, execOp, go_sem, Act.eval, Below.refl]
  ·have h0 : EV _ (fv 0) w1 := hp 0 (LC (by kernel_rfl))
   refine tyAt_none rfl ?_
   refine ty_call (f := 14) (args := #[.slice al nl cl]) (by simp [execOp, go_sem, Act.eval, h0]) ?_
   exact (HVa.out w1 (hKL.out.at ((hL0.call (below_drew hb1)).bl) kKL)).mono fun e w2 ⟨pv, h1, h2, h3, h4⟩ => ⟨pv, h1, ⟨⟨h2, fun g hg => (h3 g hg).2⟩, fun _ g hg => (h3 g hg).1⟩, h4⟩
  ·refine fr_no rfl (tyAt_none rfl ?_)
   simp [tyUpon, execOp, go_sem, Act.eval, Below.refl]
  ·have h2 : EV _ (fv 2) w1 := hp 2 (LC (by kernel_rfl))
   refine tyAt_none rfl ?_
   refine ty_call (f := 14) (args := #[.slice am nm cm]) (by simp [execOp, go_sem, Act.eval, h2]) ?_
   exact (HVb.out w1 (hKM.out.at ((hL0.call (below_drew hb1)).bl) kKM)).mono fun e w2 ⟨pv, h1, h2, h3, h4⟩ => ⟨pv, h1, ⟨⟨h2, fun g hg => (h3 g hg).2⟩, fun _ g hg => (h3 g hg).1⟩, h4⟩
  ·refine fr_no rfl (tyAt_none rfl ?_)
   have hc := (hL0.call (below_drew hb1)).fc
   simp only [fcG, cellsF, neK, and_true, ne_eq, Nat.zero_add, Nat.reduceAdd] at hc
   simp [tyUpon, execOp, go_sem, Act.eval, hc, Below.refl]
  ·have h4 : EV _ (fv 4) w1 := hp 4 (LC (by kernel_rfl))
   refine fr_no rfl (tyAt_none rfl ?_)
   refine ty_call (f := 15) (args := #[.agg #[.int .i64 n1, .int .u32 d1]]) (by simp [execOp, go_sem, Act.eval, h4]) ?_
   exact (HQ.out w1).mono fun e w2 ⟨h1, h2⟩ => ⟨_, h1, rfl, h2⟩
  ·exact fr_no rfl (tyAt_new rfl rfl new_frac (below_drew hb1).size)
 ·intro j hj u w2 hT2
  simp only [List.contains_iff_mem, List.mem_cons, List.not_mem_nil, or_false] at hj
  rcases hj with rfl
  exact NewB.ptr hT2
 ·intro j hj u w2 hT2
  simp only [List.contains_iff_mem, List.mem_cons, List.not_mem_nil, or_false] at hj
  rcases hj with rfl | rfl <;> exact hT2.2
 ·exact ⟨⟨_, _, _, _, rfl, rfl, rfl, new_frac⟩, trivial⟩
 ·intro fv x2 hb1 hv hne hsp
  have e0 : fv 0 = _ := hv 0 (by omega)
  obtain ⟨q1, -⟩ : PO x (fv 1) x2 := hv 1 (by omega)
  obtain ⟨g1, g1c, e1⟩ := ptn_form q1 lx.out
  have e2 : fv 2 = _ := hv 2 (by omega)
  obtain ⟨q3, -⟩ : PO y (fv 3) x2 := hv 3 (by omega)
  obtain ⟨g2, g2c, e3⟩ := ptn_form q3 ly.out
  have e4 : fv 4 = _ := hv 4 (by omega)
  have e5 : fv 5 = _ := hv 5 (by omega)
  obtain ⟨kb6, e6, n6, m6⟩ : NewB x1.heap.size [.int .u64 0, .string ⟨#[]⟩, .bool false, .int .u64 0, .string ⟨#[]⟩] (fv 6) x2 := hv 6 (by omega)
  have s1 : ∀ g, (fv 1).ownBlock = some g → g ≠ kb6 := fun g hg e => hsp 6 1 (by omega) (by omega) rfl rfl g hg (by rw [e6, e])
  have s3 : ∀ g, (fv 3).ownBlock = some g → g ≠ kb6 := fun g hg e => hsp 6 3 (by omega) (by omega) rfl rfl g hg (by rw [e6, e])
  rw [e1] at q1 s1
  rw [e3] at q3 s3
  simp only [List.take_succ_cons, List.take_zero, putsV, Act.put, List.setIfInBounds_toArray, List.set_cons_succ, List.set_cons_zero, List.drop_succ_cons, List.drop_zero, Nat.zero_add, Nat.reduceAdd, e0, e1, e2, e3, e4, e5, e6]
  have hx0 := hL0
  replace hL0 := hL0.call (below_drew hb1)
  replace hT := hT.call (below_drew hb1)
  replace hL0 := GL.tnew (M := []) hL0 hx0 n6 m6 (fun p hp => by cases hp)
  simp only [List.cons_append, List.nil_append] at hL0
  replace hT := (hT.cons q1).cons q3
  have hsS : ∀ p ∈ ([(.slice g2 l g2c, y), (.slice g1 l g1c, x)] : List (Value × List Rat)), ∀ g, p.1.ownBlock = some g → g ≠ kb6 := by
   intro p hp
   rcases List.mem_cons.1 hp with rfl | hp
   ·exact s3
   ·rw [List.mem_singleton.1 hp]; exact s1
  have hT1 := hT.putS ((((((Upd.refl kb6 x2).setCell 0 (.int .u64 ((zl c.num : Nat) : Int))).setCell 1 (.string (zh c.num))).setCell 2 (.bool (zs c.num))).setCell 3 (.int .u64 ((lo (fe c) : Nat) : Int))).setCell 4 (.string (hs (fe c)))) hsS
  have hA := hL0.fc
  simp only [fcG, cellsF, neK, and_true, ne_eq, Nat.zero_add, Nat.reduceAdd] at hA
  have hP := hL0.put 0 (kb6) _ rfl [.int .u64 ((zl c.num : Nat) : Int), .string (zh c.num), .bool (zs c.num), .int .u64 ((lo (fe c) : Nat) : Int), .string (hs (fe c))] rfl
  simp only [setAll, List.set_cons_zero, List.set_cons_succ] at hP
  generalize hput1 : (((((x2.setCell ⟨kb6, 0, none⟩ (.int .u64 ((zl c.num : Nat) : Int))).setCell ⟨kb6, 1, none⟩ (.string (zh c.num))).setCell ⟨kb6, 2, none⟩ (.bool (zs c.num))).setCell ⟨kb6, 3, none⟩ (.int .u64 ((lo (fe c) : Nat) : Int))).setCell ⟨kb6, 4, none⟩ (.string (hs (fe c)))) = x3 at hP hT1
  have hB1 := hP.fc
  simp only [fcG, cellsF, neK, and_true, ne_eq, Nat.zero_add, Nat.reduceAdd] at hB1
  replace hL0 := hP
  replace hT := hT1
  clear hT1 hsS s1 s3 q1 q3 n6 m6 hx0 hne hsp hv hb1 e0 e1 e2 e3 e4 e5 e6 fv
  go_wp2_with fail
  clear hA
  with_reducible refine Calls.mono (HR.out (.slice g1 l g1c) (.slice g2 l g2c) _ (hT.get (List.mem_cons_of_mem _ List.mem_cons_self)) (hT.get List.mem_cons_self)) ?_
  rintro e x4 ⟨rfl, hb⟩
  replace hL0 := hL0.call hb
  replace hT := hT.call hb
  clear hb hput1 hB1
  go_wp2_with fail
  with_reducible refine Calls.mono (HZ.out _) ?_
  rintro e x5 ⟨rfl, hb⟩
  replace hL0 := hL0.call hb
  replace hT := hT.call hb
  clear hb
  go_wp2_with fail
  with_reducible refine Calls.mono (HU.out _) ?_
  rintro e x6 ⟨rfl, hb⟩
  replace hL0 := hL0.call hb
  replace hT := hT.call hb
  clear hb
  go_upto_region 19 with fail
  obtain ⟨α, iα, F, hF1, hF2⟩ := cls x6
  refine region_cls (F := F) (by kernel_rfl) (lexB_of_fast (by kernel_rfl)) (cls_drew hF2) ?_
  repeat (go_big_quiet_step (first | fail | (go_at_call 34; with_reducible exact cls_call hF1 hF2 HI1.out _)))
  refine wpQuiet_nil ?_
  rintro wq ⟨xq, rfl⟩
  replace hL0 := hL0.call (hF1 xq)
  replace hT := hT.call (hF1 xq)
  clear  hF2
  generalize F xq = x7 at hL0 hT ⊢
  clear hF1 xq iα F α
  replace hT := (hT.new (.cells #[.int .i64 (i : Int)] 3))
  replace hL0 := (hL0.new rfl [.int .i64 (i : Int)] 3)
  generalize hweq : (x7.alloc (.cells #[.int .i64 (i : Int)] 3)) = x8 at hL0 hT
  have hbv1 : ILs x8 (.slice (some ⟨x7.heap.size, 0, none⟩) 1 1) [(i : Int)] := ils_at (hL0.get _ _ List.mem_cons_self) rfl rfl
  replace hbv1 := Lib.hid hbv1
  go_wp2_with fail
  with_reducible refine Calls.mono (HP.out (.slice g1 l g1c) (.slice (some ⟨x7.heap.size, 0, none⟩) 1 1) _ (hT.get (List.mem_cons_of_mem _ List.mem_cons_self)) hbv1.out) ?_
  rintro e x9 ⟨rfl, hb⟩
  replace hL0 := hL0.call hb
  replace hT := hT.call hb
  clear hb hweq
  go_upto_region 22 with fail
  have hd1 : ¬ i < l := by omega
  have hd2 : ¬ ((i : Nat) : Int) < ((l : Nat) : Int) := by omega
  obtain ⟨α, iα, F, hF1, hF2⟩ := cls x9
  refine region_cls (F := F) (by kernel_rfl) (lexB_of_fast (by kernel_rfl)) (cls_drew hF2) ?_
  repeat (go_big_quiet_step (first | fail))
  refine wpQuiet_nil ?_
  rintro wq ⟨xq, rfl⟩
  replace hL0 := hL0.call (hF1 xq)
  replace hT := hT.call (hF1 xq)
  clear hd1 hd2 hF2
  generalize F xq = x10 at hL0 hT ⊢
  clear hF1 xq iα F α
  go_wp2_with fail
  with_reducible refine Calls.mono (HW.out _ (hKT.out.at hL0.bl kKT)) ?_
  rintro e x11 ⟨rfl, hb⟩
  replace hL0 := hL0.call hb
  replace hT := hT.call hb
  clear hb
  go_wp2_with fail
  exact bodyPost_ret (v := .bool true) (by simp [results, Tryz.results9, go_sem]) rfl ⟨rfl, hL0.bl⟩
set_option maxHeartbeats 16000000 in
set_option maxRecDepth 100000 in
theorem verr_0_big_in (al am : Option Addr) (nl cl nm cm l m : Nat) (n1 d1 : Int) (n : Int) (i : Nat) (x y v u p : List Rat) (c one xi : Rat) (KL : World → Prop) (hKL : Keeps KL) (HVa : ∀ w, KL w → Calls Tryz.prog 14 #[.slice al nl cl] w fun e w' => ∃ pv, e = .returned pv ∧ PT w' pv x ∧ (∀ g, pv.ownBlock = some g → w.heap.size ≤ g ∧ g < w'.heap.size) ∧ Below w.heap.size w w') (KM : World → Prop) (hKM : Keeps KM) (HVb : ∀ w, KM w → Calls Tryz.prog 14 #[.slice am nm cm] w fun e w' => ∃ pv, e = .returned pv ∧ PT w' pv y ∧ (∀ g, pv.ownBlock = some g → w.heap.size ≤ g ∧ g < w'.heap.size) ∧ Below w.heap.size w w') (HQ : ∀ w, Calls Tryz.prog 15 #[.agg #[.int .i64 n1, .int .u32 d1]] w fun xe w' => xe = .returned (fracV c) ∧ Below w.heap.size w w') (HR : ∀ (p1 p2 : Value) (w : World), PT w p1 x → PT w p2 y → Calls Tryz.prog 48 #[fracV c, p1, p2] w fun e w' => e = .returned (.int .i64 0) ∧ Below w.heap.size w w') (HZ : ∀ w, Calls Tryz.prog 40 #[.int .i64 n] w fun xe w' => xe = .returned (.tuple #[.slice none 0 0, .int .i64 3]) ∧ Below w.heap.size w w') (HU : ∀ w, Calls Tryz.prog 47 #[.int .i64 n, .int .i64 (i : Int)] w fun xe w' => xe = .returned (.tuple #[.slice none 0 0, .int .i64 3]) ∧ Below w.heap.size w w') (HP : ∀ (p0 p1 : Value) (w : World), PT w p0 x → ILs w p1 ([(i : Int)]) → Calls Tryz.prog 39 #[p0, p1] w fun e w' => ∃ pv, e = .returned (.tuple #[pv, .int .i64 0]) ∧ PT w' pv p ∧ Below w.heap.size w w') (HI1 : ∀ w, Calls Tryz.prog 34 #[.int .i64 1] w fun xe w' => xe = .returned (fracV one) ∧ Below w.heap.size w w') (HMv : ∀ (p0 : Value) (w : World), PT w p0 v → Calls Tryz.prog 30 #[p0] w fun e w' => e = .returned (.agg #[.int .u64 0, .string ⟨#[]⟩, .bool false, .int .u64 0, .string ⟨#[]⟩]) ∧ Below w.heap.size w w') (KT : World → Prop) (hKT : Keeps KT) (HW : ∀ w, KT w → Calls Tryz.prog 12 #[] w fun xe w' => xe = .returned (.bool true) ∧ Below w.heap.size w w') (l_nl : decide ((20 : Int) < ((nl : Nat) : Int)) = false) (k_nl : decide (20 < nl) = false) (l_nm : decide ((20 : Int) < ((nm : Nat) : Int)) = false) (k_nm : decide (20 < nm) = false) (lx : x.length = l) (ly : y.length = l) (lv : v.length = 0) (lu : u.length = 0) (lp : p.length = 1) (hl1 : l ≤ 20) (hn : ¬ n < 0) (hn2 : 2048 < n) (hi : ¬ ((i : Nat) : Int) < 0) (hi2 : (0 : Int) ≤ ((i : Nat) : Int)) (hil : ((i : Nat) : Int) < ((l : Nat) : Int)) (hl0 : 0 < l) (hxi : gv x i = xi) (hpi : gv p 0 = xi) (w : World) (kKL : KL w) (kKM : KM w) (kKT : KT w) :
  Calls Tryz.prog 9 #[.agg #[.int .i64 n1, .int .u32 d1], .slice al nl cl, .slice am nm cm, .int .i64 n, .int .i64 (i : Int)] w fun e w' => e = .returned (.bool true) ∧ Below w.heap.size w w' := by
 replace hKL := Lib.hid hKL
 replace HVa := Lib.hid HVa
 replace hKM := Lib.hid hKM
 replace HVb := Lib.hid HVb
 replace HQ := Lib.hid HQ
 replace HR := Lib.hid HR
 replace HZ := Lib.hid HZ
 replace HU := Lib.hid HU
 replace HP := Lib.hid HP
 replace HI1 := Lib.hid HI1
 replace HMv := Lib.hid HMv
 replace hKT := Lib.hid hKT
 replace HW := Lib.hid HW
 have hL0 : GL w w [] := GL.start w
 have hT : PTs w [] := PTs.nil w
 replace lx := Lib.hid lx
 replace ly := Lib.hid ly
 replace lv := Lib.hid lv
 replace lu := Lib.hid lu
 replace lp := Lib.hid lp
 replace hl0 := Lib.hid hl0
 replace hxi := Lib.hid hxi
 replace hpi := Lib.hid hpi
 replace hT := (hT.new (.cells #[.int .i64 n1, .int .u32 d1] 24))
 replace hL0 := (hL0.new rfl [.int .i64 n1, .int .u32 d1] 24)
 generalize hweq : (w.alloc (.cells #[.int .i64 n1, .int .u32 d1] 24)) = x1 at hL0 hT
 go_enter Tryz.func9, Tryz.ntmps9
 have hN0 := cells_of _ 0 [] rfl (hL0.get _ _ List.mem_cons_self)
 simp only [cellsF, and_true, Nat.zero_add, Nat.reduceAdd] at hN0
 go_upto_region 3 with fail
 clear hN0
 clear hweq
 refine region_tfl 7 [EV (.slice al nl cl), PO x, EV (.slice am nm cm), PO y, EV (.agg #[.int .i64 n1, .int .u32 d1]), EV (fracV c), NewB x1.heap.size [.int .u64 0, .string ⟨#[]⟩, .bool false, .int .u64 0, .string ⟨#[]⟩]] [6] [1, 3] (by kernel_rfl) (by kernel_rfl) ?_ ?_ ?_ ?_ ?_ ?_
 ·exact stays_cons (stays_eq _) (stays_cons (stays_po _) (stays_cons (stays_eq _) (stays_cons (stays_po _) (stays_cons (stays_eq _) (stays_cons (stays_eq _) (stays_cons (stays_new _ _) stays_nil))))))
 ·simp only [List.take_succ_cons, List.take_zero, hopsRF, and_true]
  refine ⟨?_, ?_, ?_, ?_, ?_, ?_, ?_⟩ <;> intro fv w1 hb1 hp
  all_goals (simp only [putsV, Act.put, List.setIfInBounds_toArray, List.set_cons_succ, List.set_cons_zero, Nat.zero_add, Nat.reduceAdd])
  ·refine fr_no rfl (tyAt_none rfl ?_)
   simp [tyUpon, execOp, go_sem, Act.eval, Below.refl]
  ·have h0 : EV _ (fv 0) w1 := hp 0 (LC (by kernel_rfl))
   refine tyAt_none rfl ?_
   refine ty_call (f := 14) (args := #[.slice al nl cl]) (by simp [execOp, go_sem, Act.eval, h0]) ?_
   exact (HVa.out w1 (hKL.out.at ((hL0.call (below_drew hb1)).bl) kKL)).mono fun e w2 ⟨pv, h1, h2, h3, h4⟩ => ⟨pv, h1, ⟨⟨h2, fun g hg => (h3 g hg).2⟩, fun _ g hg => (h3 g hg).1⟩, h4⟩
  ·refine fr_no rfl (tyAt_none rfl ?_)
   simp [tyUpon, execOp, go_sem, Act.eval, Below.refl]
  ·have h2 : EV _ (fv 2) w1 := hp 2 (LC (by kernel_rfl))
   refine tyAt_none rfl ?_
   refine ty_call (f := 14) (args := #[.slice am nm cm]) (by simp [execOp, go_sem, Act.eval, h2]) ?_
   exact (HVb.out w1 (hKM.out.at ((hL0.call (below_drew hb1)).bl) kKM)).mono fun e w2 ⟨pv, h1, h2, h3, h4⟩ => ⟨pv, h1, ⟨⟨h2, fun g hg => (h3 g hg).2⟩, fun _ g hg => (h3 g hg).1⟩, h4⟩
  ·refine fr_no rfl (tyAt_none rfl ?_)
   have hc := (hL0.call (below_drew hb1)).fc
   simp only [fcG, cellsF, neK, and_true, ne_eq, Nat.zero_add, Nat.reduceAdd] at hc
   simp [tyUpon, execOp, go_sem, Act.eval, hc, Below.refl]
  ·have h4 : EV _ (fv 4) w1 := hp 4 (LC (by kernel_rfl))
   refine fr_no rfl (tyAt_none rfl ?_)
   refine ty_call (f := 15) (args := #[.agg #[.int .i64 n1, .int .u32 d1]]) (by simp [execOp, go_sem, Act.eval, h4]) ?_
   exact (HQ.out w1).mono fun e w2 ⟨h1, h2⟩ => ⟨_, h1, rfl, h2⟩
  ·exact fr_no rfl (tyAt_new rfl rfl new_frac (below_drew hb1).size)
 ·intro j hj u w2 hT2
  simp only [List.contains_iff_mem, List.mem_cons, List.not_mem_nil, or_false] at hj
  rcases hj with rfl
  exact NewB.ptr hT2
 ·intro j hj u w2 hT2
  simp only [List.contains_iff_mem, List.mem_cons, List.not_mem_nil, or_false] at hj
  rcases hj with rfl | rfl <;> exact hT2.2
 ·exact ⟨⟨_, _, _, _, rfl, rfl, rfl, new_frac⟩, trivial⟩
 ·intro fv x2 hb1 hv hne hsp
  have e0 : fv 0 = _ := hv 0 (by omega)
  obtain ⟨q1, -⟩ : PO x (fv 1) x2 := hv 1 (by omega)
  obtain ⟨g1, g1c, e1⟩ := ptp_form q1 lx.out hl0.out
  have e2 : fv 2 = _ := hv 2 (by omega)
  obtain ⟨q3, -⟩ : PO y (fv 3) x2 := hv 3 (by omega)
  obtain ⟨g2, g2c, e3⟩ := ptn_form q3 ly.out
  have e4 : fv 4 = _ := hv 4 (by omega)
  have e5 : fv 5 = _ := hv 5 (by omega)
  obtain ⟨kb6, e6, n6, m6⟩ : NewB x1.heap.size [.int .u64 0, .string ⟨#[]⟩, .bool false, .int .u64 0, .string ⟨#[]⟩] (fv 6) x2 := hv 6 (by omega)
  have s1 : ∀ g, (fv 1).ownBlock = some g → g ≠ kb6 := fun g hg e => hsp 6 1 (by omega) (by omega) rfl rfl g hg (by rw [e6, e])
  have s3 : ∀ g, (fv 3).ownBlock = some g → g ≠ kb6 := fun g hg e => hsp 6 3 (by omega) (by omega) rfl rfl g hg (by rw [e6, e])
  rw [e1] at q1 s1
  rw [e3] at q3 s3
  simp only [List.take_succ_cons, List.take_zero, putsV, Act.put, List.setIfInBounds_toArray, List.set_cons_succ, List.set_cons_zero, List.drop_succ_cons, List.drop_zero, Nat.zero_add, Nat.reduceAdd, e0, e1, e2, e3, e4, e5, e6]
  have hx0 := hL0
  replace hL0 := hL0.call (below_drew hb1)
  replace hT := hT.call (below_drew hb1)
  replace hL0 := GL.tnew (M := []) hL0 hx0 n6 m6 (fun p hp => by cases hp)
  simp only [List.cons_append, List.nil_append] at hL0
  replace hT := (hT.cons q1).cons q3
  have hsS : ∀ p ∈ ([(.slice g2 l g2c, y), (.slice (some ⟨g1, 0, none⟩) l g1c, x)] : List (Value × List Rat)), ∀ g, p.1.ownBlock = some g → g ≠ kb6 := by
   intro p hp
   rcases List.mem_cons.1 hp with rfl | hp
   ·exact s3
   ·rw [List.mem_singleton.1 hp]; exact s1
  have hT1 := hT.putS ((((((Upd.refl kb6 x2).setCell 0 (.int .u64 ((zl c.num : Nat) : Int))).setCell 1 (.string (zh c.num))).setCell 2 (.bool (zs c.num))).setCell 3 (.int .u64 ((lo (fe c) : Nat) : Int))).setCell 4 (.string (hs (fe c)))) hsS
  have hA := hL0.fc
  simp only [fcG, cellsF, neK, and_true, ne_eq, Nat.zero_add, Nat.reduceAdd] at hA
  have hP := hL0.put 0 (kb6) _ rfl [.int .u64 ((zl c.num : Nat) : Int), .string (zh c.num), .bool (zs c.num), .int .u64 ((lo (fe c) : Nat) : Int), .string (hs (fe c))] rfl
  simp only [setAll, List.set_cons_zero, List.set_cons_succ] at hP
  generalize hput1 : (((((x2.setCell ⟨kb6, 0, none⟩ (.int .u64 ((zl c.num : Nat) : Int))).setCell ⟨kb6, 1, none⟩ (.string (zh c.num))).setCell ⟨kb6, 2, none⟩ (.bool (zs c.num))).setCell ⟨kb6, 3, none⟩ (.int .u64 ((lo (fe c) : Nat) : Int))).setCell ⟨kb6, 4, none⟩ (.string (hs (fe c)))) = x3 at hP hT1
  have hB1 := hP.fc
  simp only [fcG, cellsF, neK, and_true, ne_eq, Nat.zero_add, Nat.reduceAdd] at hB1
  replace hL0 := hP
  replace hT := hT1
  clear hT1 hsS s1 s3 q1 q3 n6 m6 hx0 hne hsp hv hb1 e0 e1 e2 e3 e4 e5 e6 fv
  go_wp2_with fail
  clear hA
  with_reducible refine Calls.mono (HR.out (.slice (some ⟨g1, 0, none⟩) l g1c) (.slice g2 l g2c) _ (hT.get (List.mem_cons_of_mem _ List.mem_cons_self)) (hT.get List.mem_cons_self)) ?_
  rintro e x4 ⟨rfl, hb⟩
  replace hL0 := hL0.call hb
  replace hT := hT.call hb
  clear hb hput1 hB1
  go_wp2_with fail
  with_reducible refine Calls.mono (HZ.out _) ?_
  rintro e x5 ⟨rfl, hb⟩
  replace hL0 := hL0.call hb
  replace hT := hT.call hb
  clear hb
  go_wp2_with fail
  with_reducible refine Calls.mono (HU.out _) ?_
  rintro e x6 ⟨rfl, hb⟩
  replace hL0 := hL0.call hb
  replace hT := hT.call hb
  clear hb
  go_upto_region 19 with fail
  obtain ⟨α, iα, F, hF1, hF2⟩ := cls x6
  refine region_cls (F := F) (by kernel_rfl) (lexB_of_fast (by kernel_rfl)) (cls_drew hF2) ?_
  repeat (go_big_quiet_step (first | fail | (go_at_call 34; with_reducible exact cls_call hF1 hF2 HI1.out _)))
  refine wpQuiet_nil ?_
  rintro wq ⟨xq, rfl⟩
  replace hL0 := hL0.call (hF1 xq)
  replace hT := hT.call (hF1 xq)
  clear  hF2
  generalize F xq = x7 at hL0 hT ⊢
  clear hF1 xq iα F α
  replace hT := (hT.new (.cells #[.int .i64 (i : Int)] 3))
  replace hL0 := (hL0.new rfl [.int .i64 (i : Int)] 3)
  generalize hweq : (x7.alloc (.cells #[.int .i64 (i : Int)] 3)) = x8 at hL0 hT
  have hbv1 : ILs x8 (.slice (some ⟨x7.heap.size, 0, none⟩) 1 1) [(i : Int)] := ils_at (hL0.get _ _ List.mem_cons_self) rfl rfl
  replace hbv1 := Lib.hid hbv1
  go_wp2_with fail
  with_reducible refine Calls.mono (HP.out (.slice (some ⟨g1, 0, none⟩) l g1c) (.slice (some ⟨x7.heap.size, 0, none⟩) 1 1) _ (hT.get (List.mem_cons_of_mem _ List.mem_cons_self)) hbv1.out) ?_
  rintro e x9 ⟨v0, rfl, q0, hb⟩
  replace hL0 := hL0.call hb
  replace hT := hT.call hb
  clear hb hweq
  obtain ⟨g3, g3c, rfl⟩ := ptp_form q0 lp.out (by decide)
  replace hT := hT.cons q0
  clear q0
  go_upto_region 22 with fail
  obtain ⟨xe0, xe1, xe2, xe3, xe4⟩ := fsc (slq_fs (hT.get (List.mem_cons_of_mem _ (List.mem_cons_of_mem _ List.mem_cons_self))) (by rw [lx.out]; omega)) i (by rw [lx.out]; omega)
  rw [hxi.out] at xe0 xe1 xe2 xe3 xe4
  obtain ⟨pe0, pe1, pe2, pe3, pe4⟩ := fsc (slq_fs (hT.get List.mem_cons_self) (by rw [lp.out]; omega)) 0 (by rw [lp.out]; omega)
  rw [hpi.out] at pe0 pe1 pe2 pe3 pe4
  obtain ⟨α, iα, F, hF1, hF2⟩ := cls x9
  have cxe0 := fun yz => keepsC (hF1 yz) xe0
  have cxe1 := fun yz => keepsC (hF1 yz) xe1
  have cxe2 := fun yz => keepsC (hF1 yz) xe2
  have cxe3 := fun yz => keepsC (hF1 yz) xe3
  have cxe4 := fun yz => keepsC (hF1 yz) xe4
  have cpe0 := fun yz => keepsC (hF1 yz) pe0
  have cpe1 := fun yz => keepsC (hF1 yz) pe1
  have cpe2 := fun yz => keepsC (hF1 yz) pe2
  have cpe3 := fun yz => keepsC (hF1 yz) pe3
  have cpe4 := fun yz => keepsC (hF1 yz) pe4
  clear xe0 xe1 xe2 xe3 xe4 pe0 pe1 pe2 pe3 pe4
  refine region_cls (F := F) (by kernel_rfl) (lexB_of_fast (by kernel_rfl)) (cls_drew hF2) ?_
  repeat (go_big_quiet_step (first | fail))
  refine wpQuiet_nil ?_
  rintro wq ⟨xq, rfl⟩
  replace hL0 := hL0.call (hF1 xq)
  replace hT := hT.call (hF1 xq)
  clear cxe0 cxe1 cxe2 cxe3 cxe4 cpe0 cpe1 cpe2 cpe3 cpe4 hF2
  generalize F xq = x10 at hL0 hT ⊢
  clear hF1 xq iα F α
  go_wp2_with fail
  with_reducible refine Calls.mono (HW.out _ (hKT.out.at hL0.bl kKT)) ?_
  rintro e x11 ⟨rfl, hb⟩
  replace hL0 := hL0.call hb
  replace hT := hT.call hb
  clear hb
  go_wp2_with fail
  exact bodyPost_ret (v := .bool true) (by simp [results, Tryz.results9, go_sem]) rfl ⟨rfl, hL0.bl⟩
set_option maxHeartbeats 16000000 in
set_option maxRecDepth 100000 in
theorem verr_0_big_high (al am : Option Addr) (nl cl nm cm l m : Nat) (n1 d1 : Int) (n : Int) (i : Nat) (x y v u p : List Rat) (c one xi : Rat) (KL : World → Prop) (hKL : Keeps KL) (HVa : ∀ w, KL w → Calls Tryz.prog 14 #[.slice al nl cl] w fun e w' => ∃ pv, e = .returned pv ∧ PT w' pv x ∧ (∀ g, pv.ownBlock = some g → w.heap.size ≤ g ∧ g < w'.heap.size) ∧ Below w.heap.size w w') (KM : World → Prop) (hKM : Keeps KM) (HVb : ∀ w, KM w → Calls Tryz.prog 14 #[.slice am nm cm] w fun e w' => ∃ pv, e = .returned pv ∧ PT w' pv y ∧ (∀ g, pv.ownBlock = some g → w.heap.size ≤ g ∧ g < w'.heap.size) ∧ Below w.heap.size w w') (HQ : ∀ w, Calls Tryz.prog 15 #[.agg #[.int .i64 n1, .int .u32 d1]] w fun xe w' => xe = .returned (fracV c) ∧ Below w.heap.size w w') (HR : ∀ (p1 p2 : Value) (w : World), PT w p1 x → PT w p2 y → Calls Tryz.prog 48 #[fracV c, p1, p2] w fun e w' => e = .returned (.int .i64 0) ∧ Below w.heap.size w w') (HZ : ∀ w, Calls Tryz.prog 40 #[.int .i64 n] w fun xe w' => xe = .returned (.tuple #[.slice none 0 0, .int .i64 3]) ∧ Below w.heap.size w w') (HU : ∀ w, Calls Tryz.prog 47 #[.int .i64 n, .int .i64 (i : Int)] w fun xe w' => xe = .returned (.tuple #[.slice none 0 0, .int .i64 3]) ∧ Below w.heap.size w w') (HP : ∀ (p0 p1 : Value) (w : World), PT w p0 x → ILs w p1 ([(i : Int)]) → Calls Tryz.prog 39 #[p0, p1] w fun e w' => e = .returned (.tuple #[.slice none 0 0, .int .i64 1]) ∧ Below w.heap.size w w') (HI1 : ∀ w, Calls Tryz.prog 34 #[.int .i64 1] w fun xe w' => xe = .returned (fracV one) ∧ Below w.heap.size w w') (HMv : ∀ (p0 : Value) (w : World), PT w p0 v → Calls Tryz.prog 30 #[p0] w fun e w' => e = .returned (.agg #[.int .u64 0, .string ⟨#[]⟩, .bool false, .int .u64 0, .string ⟨#[]⟩]) ∧ Below w.heap.size w w') (KT : World → Prop) (hKT : Keeps KT) (HW : ∀ w, KT w → Calls Tryz.prog 12 #[] w fun xe w' => xe = .returned (.bool true) ∧ Below w.heap.size w w') (l_nl : decide ((20 : Int) < ((nl : Nat) : Int)) = false) (k_nl : decide (20 < nl) = false) (l_nm : decide ((20 : Int) < ((nm : Nat) : Int)) = false) (k_nm : decide (20 < nm) = false) (lx : x.length = l) (ly : y.length = l) (lv : v.length = 0) (lu : u.length = 0) (lp : p.length = 1) (hl1 : l ≤ 20) (hn : ¬ n < 0) (hn2 : 2048 < n) (hi : ¬ ((i : Nat) : Int) < 0) (hi2 : (0 : Int) ≤ ((i : Nat) : Int)) (hil : ¬ ((i : Nat) : Int) < ((l : Nat) : Int)) (w : World) (kKL : KL w) (kKM : KM w) (kKT : KT w) :
  Calls Tryz.prog 9 #[.agg #[.int .i64 n1, .int .u32 d1], .slice al nl cl, .slice am nm cm, .int .i64 n, .int .i64 (i : Int)] w fun e w' => e = .returned (.bool true) ∧ Below w.heap.size w w' := by
 replace hKL := Lib.hid hKL
 replace HVa := Lib.hid HVa
 replace hKM := Lib.hid hKM
 replace HVb := Lib.hid HVb
 replace HQ := Lib.hid HQ
 replace HR := Lib.hid HR
 replace HZ := Lib.hid HZ
 replace HU := Lib.hid HU
 replace HP := Lib.hid HP
 replace HI1 := Lib.hid HI1
 replace HMv := Lib.hid HMv
 replace hKT := Lib.hid hKT
 replace HW := Lib.hid HW
 have hL0 : GL w w [] := GL.start w
 have hT : PTs w [] := PTs.nil w
 replace lx := Lib.hid lx
 replace ly := Lib.hid ly
 replace lv := Lib.hid lv
 replace lu := Lib.hid lu
 replace lp := Lib.hid lp
 replace hT := (hT.new (.cells #[.int .i64 n1, .int .u32 d1] 24))
 replace hL0 := (hL0.new rfl [.int .i64 n1, .int .u32 d1] 24)
 generalize hweq : (w.alloc (.cells #[.int .i64 n1, .int .u32 d1] 24)) = x1 at hL0 hT
 go_enter Tryz.func9, Tryz.ntmps9
 have hN0 := cells_of _ 0 [] rfl (hL0.get _ _ List.mem_cons_self)
 simp only [cellsF, and_true, Nat.zero_add, Nat.reduceAdd] at hN0
 go_upto_region 3 with fail
 clear hN0
 clear hweq
 refine region_tfl 7 [EV (.slice al nl cl), PO x, EV (.slice am nm cm), PO y, EV (.agg #[.int .i64 n1, .int .u32 d1]), EV (fracV c), NewB x1.heap.size [.int .u64 0, .string ⟨#[]⟩, .bool false, .int .u64 0, .string ⟨#[]⟩]] [6] [1, 3] (by kernel_rfl) (by kernel_rfl) ?_ ?_ ?_ ?_ ?_ ?_
 ·exact stays_cons (stays_eq _) (stays_cons (stays_po _) (stays_cons (stays_eq _) (stays_cons (stays_po _) (stays_cons (stays_eq _) (stays_cons (stays_eq _) (stays_cons (stays_new _ _) stays_nil))))))
 ·simp only [List.take_succ_cons, List.take_zero, hopsRF, and_true]
  refine ⟨?_, ?_, ?_, ?_, ?_, ?_, ?_⟩ <;> intro fv w1 hb1 hp
  all_goals (simp only [putsV, Act.put, List.setIfInBounds_toArray, List.set_cons_succ, List.set_cons_zero, Nat.zero_add, Nat.reduceAdd])
  ·refine fr_no rfl (tyAt_none rfl ?_)
   simp [tyUpon, execOp, go_sem, Act.eval, Below.refl]
  ·have h0 : EV _ (fv 0) w1 := hp 0 (LC (by kernel_rfl))
   refine tyAt_none rfl ?_
   refine ty_call (f := 14) (args := #[.slice al nl cl]) (by simp [execOp, go_sem, Act.eval, h0]) ?_
   exact (HVa.out w1 (hKL.out.at ((hL0.call (below_drew hb1)).bl) kKL)).mono fun e w2 ⟨pv, h1, h2, h3, h4⟩ => ⟨pv, h1, ⟨⟨h2, fun g hg => (h3 g hg).2⟩, fun _ g hg => (h3 g hg).1⟩, h4⟩
  ·refine fr_no rfl (tyAt_none rfl ?_)
   simp [tyUpon, execOp, go_sem, Act.eval, Below.refl]
  ·have h2 : EV _ (fv 2) w1 := hp 2 (LC (by kernel_rfl))
   refine tyAt_none rfl ?_
   refine ty_call (f := 14) (args := #[.slice am nm cm]) (by simp [execOp, go_sem, Act.eval, h2]) ?_
   exact (HVb.out w1 (hKM.out.at ((hL0.call (below_drew hb1)).bl) kKM)).mono fun e w2 ⟨pv, h1, h2, h3, h4⟩ => ⟨pv, h1, ⟨⟨h2, fun g hg => (h3 g hg).2⟩, fun _ g hg => (h3 g hg).1⟩, h4⟩
  ·refine fr_no rfl (tyAt_none rfl ?_)
   have hc := (hL0.call (below_drew hb1)).fc
   simp only [fcG, cellsF, neK, and_true, ne_eq, Nat.zero_add, Nat.reduceAdd] at hc
   simp [tyUpon, execOp, go_sem, Act.eval, hc, Below.refl]
  ·have h4 : EV _ (fv 4) w1 := hp 4 (LC (by kernel_rfl))
   refine fr_no rfl (tyAt_none rfl ?_)
   refine ty_call (f := 15) (args := #[.agg #[.int .i64 n1, .int .u32 d1]]) (by simp [execOp, go_sem, Act.eval, h4]) ?_
   exact (HQ.out w1).mono fun e w2 ⟨h1, h2⟩ => ⟨_, h1, rfl, h2⟩
  ·exact fr_no rfl (tyAt_new rfl rfl new_frac (below_drew hb1).size)
 ·intro j hj u w2 hT2
  simp only [List.contains_iff_mem, List.mem_cons, List.not_mem_nil, or_false] at hj
  rcases hj with rfl
  exact NewB.ptr hT2
 ·intro j hj u w2 hT2
  simp only [List.contains_iff_mem, List.mem_cons, List.not_mem_nil, or_false] at hj
  rcases hj with rfl | rfl <;> exact hT2.2
 ·exact ⟨⟨_, _, _, _, rfl, rfl, rfl, new_frac⟩, trivial⟩
 ·intro fv x2 hb1 hv hne hsp
  have e0 : fv 0 = _ := hv 0 (by omega)
  obtain ⟨q1, -⟩ : PO x (fv 1) x2 := hv 1 (by omega)
  obtain ⟨g1, g1c, e1⟩ := ptn_form q1 lx.out
  have e2 : fv 2 = _ := hv 2 (by omega)
  obtain ⟨q3, -⟩ : PO y (fv 3) x2 := hv 3 (by omega)
  obtain ⟨g2, g2c, e3⟩ := ptn_form q3 ly.out
  have e4 : fv 4 = _ := hv 4 (by omega)
  have e5 : fv 5 = _ := hv 5 (by omega)
  obtain ⟨kb6, e6, n6, m6⟩ : NewB x1.heap.size [.int .u64 0, .string ⟨#[]⟩, .bool false, .int .u64 0, .string ⟨#[]⟩] (fv 6) x2 := hv 6 (by omega)
  have s1 : ∀ g, (fv 1).ownBlock = some g → g ≠ kb6 := fun g hg e => hsp 6 1 (by omega) (by omega) rfl rfl g hg (by rw [e6, e])
  have s3 : ∀ g, (fv 3).ownBlock = some g → g ≠ kb6 := fun g hg e => hsp 6 3 (by omega) (by omega) rfl rfl g hg (by rw [e6, e])
  rw [e1] at q1 s1
  rw [e3] at q3 s3
  simp only [List.take_succ_cons, List.take_zero, putsV, Act.put, List.setIfInBounds_toArray, List.set_cons_succ, List.set_cons_zero, List.drop_succ_cons, List.drop_zero, Nat.zero_add, Nat.reduceAdd, e0, e1, e2, e3, e4, e5, e6]
  have hx0 := hL0
  replace hL0 := hL0.call (below_drew hb1)
  replace hT := hT.call (below_drew hb1)
  replace hL0 := GL.tnew (M := []) hL0 hx0 n6 m6 (fun p hp => by cases hp)
  simp only [List.cons_append, List.nil_append] at hL0
  replace hT := (hT.cons q1).cons q3
  have hsS : ∀ p ∈ ([(.slice g2 l g2c, y), (.slice g1 l g1c, x)] : List (Value × List Rat)), ∀ g, p.1.ownBlock = some g → g ≠ kb6 := by
   intro p hp
   rcases List.mem_cons.1 hp with rfl | hp
   ·exact s3
   ·rw [List.mem_singleton.1 hp]; exact s1
  have hT1 := hT.putS ((((((Upd.refl kb6 x2).setCell 0 (.int .u64 ((zl c.num : Nat) : Int))).setCell 1 (.string (zh c.num))).setCell 2 (.bool (zs c.num))).setCell 3 (.int .u64 ((lo (fe c) : Nat) : Int))).setCell 4 (.string (hs (fe c)))) hsS
  have hA := hL0.fc
  simp only [fcG, cellsF, neK, and_true, ne_eq, Nat.zero_add, Nat.reduceAdd] at hA
  have hP := hL0.put 0 (kb6) _ rfl [.int .u64 ((zl c.num : Nat) : Int), .string (zh c.num), .bool (zs c.num), .int .u64 ((lo (fe c) : Nat) : Int), .string (hs (fe c))] rfl
  simp only [setAll, List.set_cons_zero, List.set_cons_succ] at hP
  generalize hput1 : (((((x2.setCell ⟨kb6, 0, none⟩ (.int .u64 ((zl c.num : Nat) : Int))).setCell ⟨kb6, 1, none⟩ (.string (zh c.num))).setCell ⟨kb6, 2, none⟩ (.bool (zs c.num))).setCell ⟨kb6, 3, none⟩ (.int .u64 ((lo (fe c) : Nat) : Int))).setCell ⟨kb6, 4, none⟩ (.string (hs (fe c)))) = x3 at hP hT1
  have hB1 := hP.fc
  simp only [fcG, cellsF, neK, and_true, ne_eq, Nat.zero_add, Nat.reduceAdd] at hB1
  replace hL0 := hP
  replace hT := hT1
  clear hT1 hsS s1 s3 q1 q3 n6 m6 hx0 hne hsp hv hb1 e0 e1 e2 e3 e4 e5 e6 fv
  go_wp2_with fail
  clear hA
  with_reducible refine Calls.mono (HR.out (.slice g1 l g1c) (.slice g2 l g2c) _ (hT.get (List.mem_cons_of_mem _ List.mem_cons_self)) (hT.get List.mem_cons_self)) ?_
  rintro e x4 ⟨rfl, hb⟩
  replace hL0 := hL0.call hb
  replace hT := hT.call hb
  clear hb hput1 hB1
  go_wp2_with fail
  with_reducible refine Calls.mono (HZ.out _) ?_
  rintro e x5 ⟨rfl, hb⟩
  replace hL0 := hL0.call hb
  replace hT := hT.call hb
  clear hb
  go_wp2_with fail
  with_reducible refine Calls.mono (HU.out _) ?_
  rintro e x6 ⟨rfl, hb⟩
  replace hL0 := hL0.call hb
  replace hT := hT.call hb
  clear hb
  go_upto_region 19 with fail
  obtain ⟨α, iα, F, hF1, hF2⟩ := cls x6
  refine region_cls (F := F) (by kernel_rfl) (lexB_of_fast (by kernel_rfl)) (cls_drew hF2) ?_
  repeat (go_big_quiet_step (first | fail | (go_at_call 34; with_reducible exact cls_call hF1 hF2 HI1.out _)))
  refine wpQuiet_nil ?_
  rintro wq ⟨xq, rfl⟩
  replace hL0 := hL0.call (hF1 xq)
  replace hT := hT.call (hF1 xq)
  clear  hF2
  generalize F xq = x7 at hL0 hT ⊢
  clear hF1 xq iα F α
  replace hT := (hT.new (.cells #[.int .i64 (i : Int)] 3))
  replace hL0 := (hL0.new rfl [.int .i64 (i : Int)] 3)
  generalize hweq : (x7.alloc (.cells #[.int .i64 (i : Int)] 3)) = x8 at hL0 hT
  have hbv1 : ILs x8 (.slice (some ⟨x7.heap.size, 0, none⟩) 1 1) [(i : Int)] := ils_at (hL0.get _ _ List.mem_cons_self) rfl rfl
  replace hbv1 := Lib.hid hbv1
  go_wp2_with fail
  with_reducible refine Calls.mono (HP.out (.slice g1 l g1c) (.slice (some ⟨x7.heap.size, 0, none⟩) 1 1) _ (hT.get (List.mem_cons_of_mem _ List.mem_cons_self)) hbv1.out) ?_
  rintro e x9 ⟨rfl, hb⟩
  replace hL0 := hL0.call hb
  replace hT := hT.call hb
  clear hb hweq
  go_upto_region 22 with fail
  have hd1 : ¬ i < l := by omega
  have hd2 : ¬ ((i : Nat) : Int) < ((l : Nat) : Int) := by omega
  obtain ⟨α, iα, F, hF1, hF2⟩ := cls x9
  refine region_cls (F := F) (by kernel_rfl) (lexB_of_fast (by kernel_rfl)) (cls_drew hF2) ?_
  repeat (go_big_quiet_step (first | fail))
  refine wpQuiet_nil ?_
  rintro wq ⟨xq, rfl⟩
  replace hL0 := hL0.call (hF1 xq)
  replace hT := hT.call (hF1 xq)
  clear hd1 hd2 hF2
  generalize F xq = x10 at hL0 hT ⊢
  clear hF1 xq iα F α
  go_wp2_with fail
  with_reducible refine Calls.mono (HW.out _ (hKT.out.at hL0.bl kKT)) ?_
  rintro e x11 ⟨rfl, hb⟩
  replace hL0 := hL0.call hb
  replace hT := hT.call hb
  clear hb
  go_wp2_with fail
  exact bodyPost_ret (v := .bool true) (by simp [results, Tryz.results9, go_sem]) rfl ⟨rfl, hL0.bl⟩
set_option maxHeartbeats 16000000 in
set_option maxRecDepth 100000 in
theorem verr_0_high_in (al am : Option Addr) (nl cl nm cm l m : Nat) (n1 d1 : Int) (n : Nat) (i : Nat) (x y v u p : List Rat) (c one xi : Rat) (KL : World → Prop) (hKL : Keeps KL) (HVa : ∀ w, KL w → Calls Tryz.prog 14 #[.slice al nl cl] w fun e w' => ∃ pv, e = .returned pv ∧ PT w' pv x ∧ (∀ g, pv.ownBlock = some g → w.heap.size ≤ g ∧ g < w'.heap.size) ∧ Below w.heap.size w w') (KM : World → Prop) (hKM : Keeps KM) (HVb : ∀ w, KM w → Calls Tryz.prog 14 #[.slice am nm cm] w fun e w' => ∃ pv, e = .returned pv ∧ PT w' pv y ∧ (∀ g, pv.ownBlock = some g → w.heap.size ≤ g ∧ g < w'.heap.size) ∧ Below w.heap.size w w') (HQ : ∀ w, Calls Tryz.prog 15 #[.agg #[.int .i64 n1, .int .u32 d1]] w fun xe w' => xe = .returned (fracV c) ∧ Below w.heap.size w w') (HR : ∀ (p1 p2 : Value) (w : World), PT w p1 x → PT w p2 y → Calls Tryz.prog 48 #[fracV c, p1, p2] w fun e w' => e = .returned (.int .i64 0) ∧ Below w.heap.size w w') (HZ : ∀ (w : World), Calls Tryz.prog 40 #[.int .i64 (n : Int)] w fun e w' => ∃ pv, e = .returned (.tuple #[pv, .int .i64 0]) ∧ PT w' pv v ∧ Below w.heap.size w w') (HU : ∀ w, Calls Tryz.prog 47 #[.int .i64 (n : Int), .int .i64 (i : Int)] w fun xe w' => xe = .returned (.tuple #[.slice none 0 0, .int .i64 1]) ∧ Below w.heap.size w w') (HP : ∀ (p0 p1 : Value) (w : World), PT w p0 x → ILs w p1 ([(i : Int)]) → Calls Tryz.prog 39 #[p0, p1] w fun e w' => ∃ pv, e = .returned (.tuple #[pv, .int .i64 0]) ∧ PT w' pv p ∧ Below w.heap.size w w') (HI1 : ∀ w, Calls Tryz.prog 34 #[.int .i64 1] w fun xe w' => xe = .returned (fracV one) ∧ Below w.heap.size w w') (HMv : ∀ (p0 : Value) (w : World), PT w p0 v → Calls Tryz.prog 30 #[p0] w fun e w' => e = .returned (.agg #[.int .u64 0, .string ⟨#[]⟩, .bool false, .int .u64 0, .string ⟨#[]⟩]) ∧ Below w.heap.size w w') (KT : World → Prop) (hKT : Keeps KT) (HW : ∀ w, KT w → Calls Tryz.prog 12 #[] w fun xe w' => xe = .returned (.bool true) ∧ Below w.heap.size w w') (l_nl : decide ((20 : Int) < ((nl : Nat) : Int)) = false) (k_nl : decide (20 < nl) = false) (l_nm : decide ((20 : Int) < ((nm : Nat) : Int)) = false) (k_nm : decide (20 < nm) = false) (lx : x.length = l) (ly : y.length = l) (lv : v.length = n) (lu : u.length = 0) (lp : p.length = 1) (hl1 : l ≤ 20) (hn : ¬ ((n : Nat) : Int) < 0) (hn2 : ¬ (2048 : Int) < ((n : Nat) : Int)) (hn3 : n ≤ 2048) (hn4 : ((n : Nat) : Int) ≤ 2048) (hi : ¬ ((i : Nat) : Int) < 0) (hi2 : (0 : Int) ≤ ((i : Nat) : Int)) (hin : ((n : Nat) : Int) ≤ ((i : Nat) : Int)) (hil : ((i : Nat) : Int) < ((l : Nat) : Int)) (hl0 : 0 < l) (hxi : gv x i = xi) (hpi : gv p 0 = xi) (w : World) (kKL : KL w) (kKM : KM w) (kKT : KT w) :
  Calls Tryz.prog 9 #[.agg #[.int .i64 n1, .int .u32 d1], .slice al nl cl, .slice am nm cm, .int .i64 (n : Int), .int .i64 (i : Int)] w fun e w' => e = .returned (.bool true) ∧ Below w.heap.size w w' := by
 replace hKL := Lib.hid hKL
 replace HVa := Lib.hid HVa
 replace hKM := Lib.hid hKM
 replace HVb := Lib.hid HVb
 replace HQ := Lib.hid HQ
 replace HR := Lib.hid HR
 replace HZ := Lib.hid HZ
 replace HU := Lib.hid HU
 replace HP := Lib.hid HP
 replace HI1 := Lib.hid HI1
 replace HMv := Lib.hid HMv
 replace hKT := Lib.hid hKT
 replace HW := Lib.hid HW
 have hL0 : GL w w [] := GL.start w
 have hT : PTs w [] := PTs.nil w
 replace lx := Lib.hid lx
 replace ly := Lib.hid ly
 replace lv := Lib.hid lv
 replace lu := Lib.hid lu
 replace lp := Lib.hid lp
 replace hl0 := Lib.hid hl0
 replace hxi := Lib.hid hxi
 replace hpi := Lib.hid hpi
 replace hT := (hT.new (.cells #[.int .i64 n1, .int .u32 d1] 24))
 replace hL0 := (hL0.new rfl [.int .i64 n1, .int .u32 d1] 24)
 generalize hweq : (w.alloc (.cells #[.int .i64 n1, .int .u32 d1] 24)) = x1 at hL0 hT
 go_enter Tryz.func9, Tryz.ntmps9
 have hN0 := cells_of _ 0 [] rfl (hL0.get _ _ List.mem_cons_self)
 simp only [cellsF, and_true, Nat.zero_add, Nat.reduceAdd] at hN0
 go_upto_region 3 with fail
 clear hN0
 clear hweq
 refine region_tfl 7 [EV (.slice al nl cl), PO x, EV (.slice am nm cm), PO y, EV (.agg #[.int .i64 n1, .int .u32 d1]), EV (fracV c), NewB x1.heap.size [.int .u64 0, .string ⟨#[]⟩, .bool false, .int .u64 0, .string ⟨#[]⟩]] [6] [1, 3] (by kernel_rfl) (by kernel_rfl) ?_ ?_ ?_ ?_ ?_ ?_
 ·exact stays_cons (stays_eq _) (stays_cons (stays_po _) (stays_cons (stays_eq _) (stays_cons (stays_po _) (stays_cons (stays_eq _) (stays_cons (stays_eq _) (stays_cons (stays_new _ _) stays_nil))))))
 ·simp only [List.take_succ_cons, List.take_zero, hopsRF, and_true]
  refine ⟨?_, ?_, ?_, ?_, ?_, ?_, ?_⟩ <;> intro fv w1 hb1 hp
  all_goals (simp only [putsV, Act.put, List.setIfInBounds_toArray, List.set_cons_succ, List.set_cons_zero, Nat.zero_add, Nat.reduceAdd])
  ·refine fr_no rfl (tyAt_none rfl ?_)
   simp [tyUpon, execOp, go_sem, Act.eval, Below.refl]
  ·have h0 : EV _ (fv 0) w1 := hp 0 (LC (by kernel_rfl))
   refine tyAt_none rfl ?_
   refine ty_call (f := 14) (args := #[.slice al nl cl]) (by simp [execOp, go_sem, Act.eval, h0]) ?_
   exact (HVa.out w1 (hKL.out.at ((hL0.call (below_drew hb1)).bl) kKL)).mono fun e w2 ⟨pv, h1, h2, h3, h4⟩ => ⟨pv, h1, ⟨⟨h2, fun g hg => (h3 g hg).2⟩, fun _ g hg => (h3 g hg).1⟩, h4⟩
  ·refine fr_no rfl (tyAt_none rfl ?_)
   simp [tyUpon, execOp, go_sem, Act.eval, Below.refl]
  ·have h2 : EV _ (fv 2) w1 := hp 2 (LC (by kernel_rfl))
   refine tyAt_none rfl ?_
   refine ty_call (f := 14) (args := #[.slice am nm cm]) (by simp [execOp, go_sem, Act.eval, h2]) ?_
   exact (HVb.out w1 (hKM.out.at ((hL0.call (below_drew hb1)).bl) kKM)).mono fun e w2 ⟨pv, h1, h2, h3, h4⟩ => ⟨pv, h1, ⟨⟨h2, fun g hg => (h3 g hg).2⟩, fun _ g hg => (h3 g hg).1⟩, h4⟩
  ·refine fr_no rfl (tyAt_none rfl ?_)
   have hc := (hL0.call (below_drew hb1)).fc
   simp only [fcG, cellsF, neK, and_true, ne_eq, Nat.zero_add, Nat.reduceAdd] at hc
   simp [tyUpon, execOp, go_sem, Act.eval, hc, Below.refl]
  ·have h4 : EV _ (fv 4) w1 := hp 4 (LC (by kernel_rfl))
   refine fr_no rfl (tyAt_none rfl ?_)
   refine ty_call (f := 15) (args := #[.agg #[.int .i64 n1, .int .u32 d1]]) (by simp [execOp, go_sem, Act.eval, h4]) ?_
   exact (HQ.out w1).mono fun e w2 ⟨h1, h2⟩ => ⟨_, h1, rfl, h2⟩
  ·exact fr_no rfl (tyAt_new rfl rfl new_frac (below_drew hb1).size)
 ·intro j hj u w2 hT2
  simp only [List.contains_iff_mem, List.mem_cons, List.not_mem_nil, or_false] at hj
  rcases hj with rfl
  exact NewB.ptr hT2
 ·intro j hj u w2 hT2
  simp only [List.contains_iff_mem, List.mem_cons, List.not_mem_nil, or_false] at hj
  rcases hj with rfl | rfl <;> exact hT2.2
 ·exact ⟨⟨_, _, _, _, rfl, rfl, rfl, new_frac⟩, trivial⟩
 ·intro fv x2 hb1 hv hne hsp
  have e0 : fv 0 = _ := hv 0 (by omega)
  obtain ⟨q1, -⟩ : PO x (fv 1) x2 := hv 1 (by omega)
  obtain ⟨g1, g1c, e1⟩ := ptp_form q1 lx.out hl0.out
  have e2 : fv 2 = _ := hv 2 (by omega)
  obtain ⟨q3, -⟩ : PO y (fv 3) x2 := hv 3 (by omega)
  obtain ⟨g2, g2c, e3⟩ := ptn_form q3 ly.out
  have e4 : fv 4 = _ := hv 4 (by omega)
  have e5 : fv 5 = _ := hv 5 (by omega)
  obtain ⟨kb6, e6, n6, m6⟩ : NewB x1.heap.size [.int .u64 0, .string ⟨#[]⟩, .bool false, .int .u64 0, .string ⟨#[]⟩] (fv 6) x2 := hv 6 (by omega)
  have s1 : ∀ g, (fv 1).ownBlock = some g → g ≠ kb6 := fun g hg e => hsp 6 1 (by omega) (by omega) rfl rfl g hg (by rw [e6, e])
  have s3 : ∀ g, (fv 3).ownBlock = some g → g ≠ kb6 := fun g hg e => hsp 6 3 (by omega) (by omega) rfl rfl g hg (by rw [e6, e])
  rw [e1] at q1 s1
  rw [e3] at q3 s3
  simp only [List.take_succ_cons, List.take_zero, putsV, Act.put, List.setIfInBounds_toArray, List.set_cons_succ, List.set_cons_zero, List.drop_succ_cons, List.drop_zero, Nat.zero_add, Nat.reduceAdd, e0, e1, e2, e3, e4, e5, e6]
  have hx0 := hL0
  replace hL0 := hL0.call (below_drew hb1)
  replace hT := hT.call (below_drew hb1)
  replace hL0 := GL.tnew (M := []) hL0 hx0 n6 m6 (fun p hp => by cases hp)
  simp only [List.cons_append, List.nil_append] at hL0
  replace hT := (hT.cons q1).cons q3
  have hsS : ∀ p ∈ ([(.slice g2 l g2c, y), (.slice (some ⟨g1, 0, none⟩) l g1c, x)] : List (Value × List Rat)), ∀ g, p.1.ownBlock = some g → g ≠ kb6 := by
   intro p hp
   rcases List.mem_cons.1 hp with rfl | hp
   ·exact s3
   ·rw [List.mem_singleton.1 hp]; exact s1
  have hT1 := hT.putS ((((((Upd.refl kb6 x2).setCell 0 (.int .u64 ((zl c.num : Nat) : Int))).setCell 1 (.string (zh c.num))).setCell 2 (.bool (zs c.num))).setCell 3 (.int .u64 ((lo (fe c) : Nat) : Int))).setCell 4 (.string (hs (fe c)))) hsS
  have hA := hL0.fc
  simp only [fcG, cellsF, neK, and_true, ne_eq, Nat.zero_add, Nat.reduceAdd] at hA
  have hP := hL0.put 0 (kb6) _ rfl [.int .u64 ((zl c.num : Nat) : Int), .string (zh c.num), .bool (zs c.num), .int .u64 ((lo (fe c) : Nat) : Int), .string (hs (fe c))] rfl
  simp only [setAll, List.set_cons_zero, List.set_cons_succ] at hP
  generalize hput1 : (((((x2.setCell ⟨kb6, 0, none⟩ (.int .u64 ((zl c.num : Nat) : Int))).setCell ⟨kb6, 1, none⟩ (.string (zh c.num))).setCell ⟨kb6, 2, none⟩ (.bool (zs c.num))).setCell ⟨kb6, 3, none⟩ (.int .u64 ((lo (fe c) : Nat) : Int))).setCell ⟨kb6, 4, none⟩ (.string (hs (fe c)))) = x3 at hP hT1
  have hB1 := hP.fc
  simp only [fcG, cellsF, neK, and_true, ne_eq, Nat.zero_add, Nat.reduceAdd] at hB1
  replace hL0 := hP
  replace hT := hT1
  clear hT1 hsS s1 s3 q1 q3 n6 m6 hx0 hne hsp hv hb1 e0 e1 e2 e3 e4 e5 e6 fv
  go_wp2_with fail
  clear hA
  with_reducible refine Calls.mono (HR.out (.slice (some ⟨g1, 0, none⟩) l g1c) (.slice g2 l g2c) _ (hT.get (List.mem_cons_of_mem _ List.mem_cons_self)) (hT.get List.mem_cons_self)) ?_
  rintro e x4 ⟨rfl, hb⟩
  replace hL0 := hL0.call hb
  replace hT := hT.call hb
  clear hb hput1 hB1
  go_wp2_with fail
  with_reducible refine Calls.mono (HZ.out _) ?_
  rintro e x5 ⟨v0, rfl, q0, hb⟩
  replace hL0 := hL0.call hb
  replace hT := hT.call hb
  clear hb
  obtain ⟨g3, g3c, rfl⟩ := ptn_form q0 lv.out
  replace hT := hT.cons q0
  clear q0
  go_wp2_with fail
  with_reducible refine Calls.mono (HU.out _) ?_
  rintro e x6 ⟨rfl, hb⟩
  replace hL0 := hL0.call hb
  replace hT := hT.call hb
  clear hb
  go_upto_region 19 with fail
  have hkv := hT.get List.mem_cons_self
  replace hkv := Lib.hid hkv
  obtain ⟨α, iα, F, hF1, hF2⟩ := cls x6
  refine region_cls (F := F) (by kernel_rfl) (lexB_of_fast (by kernel_rfl)) (cls_drew hF2) ?_
  repeat (go_big_quiet_step (first | fail | (go_at_call 34; with_reducible exact cls_call hF1 hF2 HI1.out _) | (go_at_call 30; with_reducible exact cls_callK (SlQ.keeps _ _) hF1 hF2 hkv.out (fun w h => HMv.out _ w h) _)))
  refine wpQuiet_nil ?_
  rintro wq ⟨xq, rfl⟩
  replace hL0 := hL0.call (hF1 xq)
  replace hT := hT.call (hF1 xq)
  clear hkv hF2
  generalize F xq = x7 at hL0 hT ⊢
  clear hF1 xq iα F α
  replace hT := (hT.new (.cells #[.int .i64 (i : Int)] 3))
  replace hL0 := (hL0.new rfl [.int .i64 (i : Int)] 3)
  generalize hweq : (x7.alloc (.cells #[.int .i64 (i : Int)] 3)) = x8 at hL0 hT
  have hbv1 : ILs x8 (.slice (some ⟨x7.heap.size, 0, none⟩) 1 1) [(i : Int)] := ils_at (hL0.get _ _ List.mem_cons_self) rfl rfl
  replace hbv1 := Lib.hid hbv1
  go_wp2_with fail
  with_reducible refine Calls.mono (HP.out (.slice (some ⟨g1, 0, none⟩) l g1c) (.slice (some ⟨x7.heap.size, 0, none⟩) 1 1) _ (hT.get (List.mem_cons_of_mem _ (List.mem_cons_of_mem _ List.mem_cons_self))) hbv1.out) ?_
  rintro e x9 ⟨v0, rfl, q0, hb⟩
  replace hL0 := hL0.call hb
  replace hT := hT.call hb
  clear hb hweq
  obtain ⟨g4, g4c, rfl⟩ := ptp_form q0 lp.out (by decide)
  replace hT := hT.cons q0
  clear q0
  go_upto_region 22 with fail
  obtain ⟨xe0, xe1, xe2, xe3, xe4⟩ := fsc (slq_fs (hT.get (List.mem_cons_of_mem _ (List.mem_cons_of_mem _ (List.mem_cons_of_mem _ List.mem_cons_self)))) (by rw [lx.out]; omega)) i (by rw [lx.out]; omega)
  rw [hxi.out] at xe0 xe1 xe2 xe3 xe4
  obtain ⟨pe0, pe1, pe2, pe3, pe4⟩ := fsc (slq_fs (hT.get List.mem_cons_self) (by rw [lp.out]; omega)) 0 (by rw [lp.out]; omega)
  rw [hpi.out] at pe0 pe1 pe2 pe3 pe4
  obtain ⟨α, iα, F, hF1, hF2⟩ := cls x9
  have cxe0 := fun yz => keepsC (hF1 yz) xe0
  have cxe1 := fun yz => keepsC (hF1 yz) xe1
  have cxe2 := fun yz => keepsC (hF1 yz) xe2
  have cxe3 := fun yz => keepsC (hF1 yz) xe3
  have cxe4 := fun yz => keepsC (hF1 yz) xe4
  have cpe0 := fun yz => keepsC (hF1 yz) pe0
  have cpe1 := fun yz => keepsC (hF1 yz) pe1
  have cpe2 := fun yz => keepsC (hF1 yz) pe2
  have cpe3 := fun yz => keepsC (hF1 yz) pe3
  have cpe4 := fun yz => keepsC (hF1 yz) pe4
  clear xe0 xe1 xe2 xe3 xe4 pe0 pe1 pe2 pe3 pe4
  refine region_cls (F := F) (by kernel_rfl) (lexB_of_fast (by kernel_rfl)) (cls_drew hF2) ?_
  repeat (go_big_quiet_step (first | fail))
  refine wpQuiet_nil ?_
  rintro wq ⟨xq, rfl⟩
  replace hL0 := hL0.call (hF1 xq)
  replace hT := hT.call (hF1 xq)
  clear cxe0 cxe1 cxe2 cxe3 cxe4 cpe0 cpe1 cpe2 cpe3 cpe4 hF2
  generalize F xq = x10 at hL0 hT ⊢
  clear hF1 xq iα F α
  go_wp2_with fail
  with_reducible refine Calls.mono (HW.out _ (hKT.out.at hL0.bl kKT)) ?_
  rintro e x11 ⟨rfl, hb⟩
  replace hL0 := hL0.call hb
  replace hT := hT.call hb
  clear hb
  go_wp2_with fail
  exact bodyPost_ret (v := .bool true) (by simp [results, Tryz.results9, go_sem]) rfl ⟨rfl, hL0.bl⟩
set_option maxHeartbeats 16000000 in
set_option maxRecDepth 100000 in
theorem verr_0_high_high (al am : Option Addr) (nl cl nm cm l m : Nat) (n1 d1 : Int) (n : Nat) (i : Nat) (x y v u p : List Rat) (c one xi : Rat) (KL : World → Prop) (hKL : Keeps KL) (HVa : ∀ w, KL w → Calls Tryz.prog 14 #[.slice al nl cl] w fun e w' => ∃ pv, e = .returned pv ∧ PT w' pv x ∧ (∀ g, pv.ownBlock = some g → w.heap.size ≤ g ∧ g < w'.heap.size) ∧ Below w.heap.size w w') (KM : World → Prop) (hKM : Keeps KM) (HVb : ∀ w, KM w → Calls Tryz.prog 14 #[.slice am nm cm] w fun e w' => ∃ pv, e = .returned pv ∧ PT w' pv y ∧ (∀ g, pv.ownBlock = some g → w.heap.size ≤ g ∧ g < w'.heap.size) ∧ Below w.heap.size w w') (HQ : ∀ w, Calls Tryz.prog 15 #[.agg #[.int .i64 n1, .int .u32 d1]] w fun xe w' => xe = .returned (fracV c) ∧ Below w.heap.size w w') (HR : ∀ (p1 p2 : Value) (w : World), PT w p1 x → PT w p2 y → Calls Tryz.prog 48 #[fracV c, p1, p2] w fun e w' => e = .returned (.int .i64 0) ∧ Below w.heap.size w w') (HZ : ∀ (w : World), Calls Tryz.prog 40 #[.int .i64 (n : Int)] w fun e w' => ∃ pv, e = .returned (.tuple #[pv, .int .i64 0]) ∧ PT w' pv v ∧ Below w.heap.size w w') (HU : ∀ w, Calls Tryz.prog 47 #[.int .i64 (n : Int), .int .i64 (i : Int)] w fun xe w' => xe = .returned (.tuple #[.slice none 0 0, .int .i64 1]) ∧ Below w.heap.size w w') (HP : ∀ (p0 p1 : Value) (w : World), PT w p0 x → ILs w p1 ([(i : Int)]) → Calls Tryz.prog 39 #[p0, p1] w fun e w' => e = .returned (.tuple #[.slice none 0 0, .int .i64 1]) ∧ Below w.heap.size w w') (HI1 : ∀ w, Calls Tryz.prog 34 #[.int .i64 1] w fun xe w' => xe = .returned (fracV one) ∧ Below w.heap.size w w') (HMv : ∀ (p0 : Value) (w : World), PT w p0 v → Calls Tryz.prog 30 #[p0] w fun e w' => e = .returned (.agg #[.int .u64 0, .string ⟨#[]⟩, .bool false, .int .u64 0, .string ⟨#[]⟩]) ∧ Below w.heap.size w w') (KT : World → Prop) (hKT : Keeps KT) (HW : ∀ w, KT w → Calls Tryz.prog 12 #[] w fun xe w' => xe = .returned (.bool true) ∧ Below w.heap.size w w') (l_nl : decide ((20 : Int) < ((nl : Nat) : Int)) = false) (k_nl : decide (20 < nl) = false) (l_nm : decide ((20 : Int) < ((nm : Nat) : Int)) = false) (k_nm : decide (20 < nm) = false) (lx : x.length = l) (ly : y.length = l) (lv : v.length = n) (lu : u.length = 0) (lp : p.length = 1) (hl1 : l ≤ 20) (hn : ¬ ((n : Nat) : Int) < 0) (hn2 : ¬ (2048 : Int) < ((n : Nat) : Int)) (hn3 : n ≤ 2048) (hn4 : ((n : Nat) : Int) ≤ 2048) (hi : ¬ ((i : Nat) : Int) < 0) (hi2 : (0 : Int) ≤ ((i : Nat) : Int)) (hin : ((n : Nat) : Int) ≤ ((i : Nat) : Int)) (hil : ¬ ((i : Nat) : Int) < ((l : Nat) : Int)) (w : World) (kKL : KL w) (kKM : KM w) (kKT : KT w) :
  Calls Tryz.prog 9 #[.agg #[.int .i64 n1, .int .u32 d1], .slice al nl cl, .slice am nm cm, .int .i64 (n : Int), .int .i64 (i : Int)] w fun e w' => e = .returned (.bool true) ∧ Below w.heap.size w w' := by
 replace hKL := Lib.hid hKL
 replace HVa := Lib.hid HVa
 replace hKM := Lib.hid hKM
 replace HVb := Lib.hid HVb
 replace HQ := Lib.hid HQ
 replace HR := Lib.hid HR
 replace HZ := Lib.hid HZ
 replace HU := Lib.hid HU
 replace HP := Lib.hid HP
 replace HI1 := Lib.hid HI1
 replace HMv := Lib.hid HMv
 replace hKT := Lib.hid hKT
 replace HW := Lib.hid HW
 have hL0 : GL w w [] := GL.start w
 have hT : PTs w [] := PTs.nil w
 replace lx := Lib.hid lx
 replace ly := Lib.hid ly
 replace lv := Lib.hid lv
 replace lu := Lib.hid lu
 replace lp := Lib.hid lp
 replace hT := (hT.new (.cells #[.int .i64 n1, .int .u32 d1] 24))
 replace hL0 := (hL0.new rfl [.int .i64 n1, .int .u32 d1] 24)
 generalize hweq : (w.alloc (.cells #[.int .i64 n1, .int .u32 d1] 24)) = x1 at hL0 hT
 go_enter Tryz.func9, Tryz.ntmps9
 have hN0 := cells_of _ 0 [] rfl (hL0.get _ _ List.mem_cons_self)
 simp only [cellsF, and_true, Nat.zero_add, Nat.reduceAdd] at hN0
 go_upto_region 3 with fail
 clear hN0
 clear hweq
 refine region_tfl 7 [EV (.slice al nl cl), PO x, EV (.slice am nm cm), PO y, EV (.agg #[.int .i64 n1, .int .u32 d1]), EV (fracV c), NewB x1.heap.size [.int .u64 0, .string ⟨#[]⟩, .bool false, .int .u64 0, .string ⟨#[]⟩]] [6] [1, 3] (by kernel_rfl) (by kernel_rfl) ?_ ?_ ?_ ?_ ?_ ?_
 ·exact stays_cons (stays_eq _) (stays_cons (stays_po _) (stays_cons (stays_eq _) (stays_cons (stays_po _) (stays_cons (stays_eq _) (stays_cons (stays_eq _) (stays_cons (stays_new _ _) stays_nil))))))
 ·simp only [List.take_succ_cons, List.take_zero, hopsRF, and_true]
  refine ⟨?_, ?_, ?_, ?_, ?_, ?_, ?_⟩ <;> intro fv w1 hb1 hp
  all_goals (simp only [putsV, Act.put, List.setIfInBounds_toArray, List.set_cons_succ, List.set_cons_zero, Nat.zero_add, Nat.reduceAdd])
  ·refine fr_no rfl (tyAt_none rfl ?_)
   simp [tyUpon, execOp, go_sem, Act.eval, Below.refl]
  ·have h0 : EV _ (fv 0) w1 := hp 0 (LC (by kernel_rfl))
   refine tyAt_none rfl ?_
   refine ty_call (f := 14) (args := #[.slice al nl cl]) (by simp [execOp, go_sem, Act.eval, h0]) ?_
   exact (HVa.out w1 (hKL.out.at ((hL0.call (below_drew hb1)).bl) kKL)).mono fun e w2 ⟨pv, h1, h2, h3, h4⟩ => ⟨pv, h1, ⟨⟨h2, fun g hg => (h3 g hg).2⟩, fun _ g hg => (h3 g hg).1⟩, h4⟩
  ·refine fr_no rfl (tyAt_none rfl ?_)
   simp [tyUpon, execOp, go_sem, Act.eval, Below.refl]
  ·have h2 : EV _ (fv 2) w1 := hp 2 (LC (by kernel_rfl))
   refine tyAt_none rfl ?_
   refine ty_call (f := 14) (args := #[.slice am nm cm]) (by simp [execOp, go_sem, Act.eval, h2]) ?_
   exact (HVb.out w1 (hKM.out.at ((hL0.call (below_drew hb1)).bl) kKM)).mono fun e w2 ⟨pv, h1, h2, h3, h4⟩ => ⟨pv, h1, ⟨⟨h2, fun g hg => (h3 g hg).2⟩, fun _ g hg => (h3 g hg).1⟩, h4⟩
  ·refine fr_no rfl (tyAt_none rfl ?_)
   have hc := (hL0.call (below_drew hb1)).fc
   simp only [fcG, cellsF, neK, and_true, ne_eq, Nat.zero_add, Nat.reduceAdd] at hc
   simp [tyUpon, execOp, go_sem, Act.eval, hc, Below.refl]
  ·have h4 : EV _ (fv 4) w1 := hp 4 (LC (by kernel_rfl))
   refine fr_no rfl (tyAt_none rfl ?_)
   refine ty_call (f := 15) (args := #[.agg #[.int .i64 n1, .int .u32 d1]]) (by simp [execOp, go_sem, Act.eval, h4]) ?_
   exact (HQ.out w1).mono fun e w2 ⟨h1, h2⟩ => ⟨_, h1, rfl, h2⟩
  ·exact fr_no rfl (tyAt_new rfl rfl new_frac (below_drew hb1).size)
 ·intro j hj u w2 hT2
  simp only [List.contains_iff_mem, List.mem_cons, List.not_mem_nil, or_false] at hj
  rcases hj with rfl
  exact NewB.ptr hT2
 ·intro j hj u w2 hT2
  simp only [List.contains_iff_mem, List.mem_cons, List.not_mem_nil, or_false] at hj
  rcases hj with rfl | rfl <;> exact hT2.2
 ·exact ⟨⟨_, _, _, _, rfl, rfl, rfl, new_frac⟩, trivial⟩
 ·intro fv x2 hb1 hv hne hsp
  have e0 : fv 0 = _ := hv 0 (by omega)
  obtain ⟨q1, -⟩ : PO x (fv 1) x2 := hv 1 (by omega)
  obtain ⟨g1, g1c, e1⟩ := ptn_form q1 lx.out
  have e2 : fv 2 = _ := hv 2 (by omega)
  obtain ⟨q3, -⟩ : PO y (fv 3) x2 := hv 3 (by omega)
  obtain ⟨g2, g2c, e3⟩ := ptn_form q3 ly.out
  have e4 : fv 4 = _ := hv 4 (by omega)
  have e5 : fv 5 = _ := hv 5 (by omega)
  obtain ⟨kb6, e6, n6, m6⟩ : NewB x1.heap.size [.int .u64 0, .string ⟨#[]⟩, .bool false, .int .u64 0, .string ⟨#[]⟩] (fv 6) x2 := hv 6 (by omega)
  have s1 : ∀ g, (fv 1).ownBlock = some g → g ≠ kb6 := fun g hg e => hsp 6 1 (by omega) (by omega) rfl rfl g hg (by rw [e6, e])
  have s3 : ∀ g, (fv 3).ownBlock = some g → g ≠ kb6 := fun g hg e => hsp 6 3 (by omega) (by omega) rfl rfl g hg (by rw [e6, e])
  rw [e1] at q1 s1
  rw [e3] at q3 s3
  simp only [List.take_succ_cons, List.take_zero, putsV, Act.put, List.setIfInBounds_toArray, List.set_cons_succ, List.set_cons_zero, List.drop_succ_cons, List.drop_zero, Nat.zero_add, Nat.reduceAdd, e0, e1, e2, e3, e4, e5, e6]
  have hx0 := hL0
  replace hL0 := hL0.call (below_drew hb1)
  replace hT := hT.call (below_drew hb1)
  replace hL0 := GL.tnew (M := []) hL0 hx0 n6 m6 (fun p hp => by cases hp)
  simp only [List.cons_append, List.nil_append] at hL0
  replace hT := (hT.cons q1).cons q3
  have hsS : ∀ p ∈ ([(.slice g2 l g2c, y), (.slice g1 l g1c, x)] : List (Value × List Rat)), ∀ g, p.1.ownBlock = some g → g ≠ kb6 := by
   intro p hp
   rcases List.mem_cons.1 hp with rfl | hp
   ·exact s3
   ·rw [List.mem_singleton.1 hp]; exact s1
  have hT1 := hT.putS ((((((Upd.refl kb6 x2).setCell 0 (.int .u64 ((zl c.num : Nat) : Int))).setCell 1 (.string (zh c.num))).setCell 2 (.bool (zs c.num))).setCell 3 (.int .u64 ((lo (fe c) : Nat) : Int))).setCell 4 (.string (hs (fe c)))) hsS
  have hA := hL0.fc
  simp only [fcG, cellsF, neK, and_true, ne_eq, Nat.zero_add, Nat.reduceAdd] at hA
  have hP := hL0.put 0 (kb6) _ rfl [.int .u64 ((zl c.num : Nat) : Int), .string (zh c.num), .bool (zs c.num), .int .u64 ((lo (fe c) : Nat) : Int), .string (hs (fe c))] rfl
  simp only [setAll, List.set_cons_zero, List.set_cons_succ] at hP
  generalize hput1 : (((((x2.setCell ⟨kb6, 0, none⟩ (.int .u64 ((zl c.num : Nat) : Int))).setCell ⟨kb6, 1, none⟩ (.string (zh c.num))).setCell ⟨kb6, 2, none⟩ (.bool (zs c.num))).setCell ⟨kb6, 3, none⟩ (.int .u64 ((lo (fe c) : Nat) : Int))).setCell ⟨kb6, 4, none⟩ (.string (hs (fe c)))) = x3 at hP hT1
  have hB1 := hP.fc
  simp only [fcG, cellsF, neK, and_true, ne_eq, Nat.zero_add, Nat.reduceAdd] at hB1
  replace hL0 := hP
  replace hT := hT1
  clear hT1 hsS s1 s3 q1 q3 n6 m6 hx0 hne hsp hv hb1 e0 e1 e2 e3 e4 e5 e6 fv
  go_wp2_with fail
  clear hA
  with_reducible refine Calls.mono (HR.out (.slice g1 l g1c) (.slice g2 l g2c) _ (hT.get (List.mem_cons_of_mem _ List.mem_cons_self)) (hT.get List.mem_cons_self)) ?_
  rintro e x4 ⟨rfl, hb⟩
  replace hL0 := hL0.call hb
  replace hT := hT.call hb
  clear hb hput1 hB1
  go_wp2_with fail
  with_reducible refine Calls.mono (HZ.out _) ?_
  rintro e x5 ⟨v0, rfl, q0, hb⟩
  replace hL0 := hL0.call hb
  replace hT := hT.call hb
  clear hb
  obtain ⟨g3, g3c, rfl⟩ := ptn_form q0 lv.out
  replace hT := hT.cons q0
  clear q0
  go_wp2_with fail
  with_reducible refine Calls.mono (HU.out _) ?_
  rintro e x6 ⟨rfl, hb⟩
  replace hL0 := hL0.call hb
  replace hT := hT.call hb
  clear hb
  go_upto_region 19 with fail
  have hkv := hT.get List.mem_cons_self
  replace hkv := Lib.hid hkv
  obtain ⟨α, iα, F, hF1, hF2⟩ := cls x6
  refine region_cls (F := F) (by kernel_rfl) (lexB_of_fast (by kernel_rfl)) (cls_drew hF2) ?_
  repeat (go_big_quiet_step (first | fail | (go_at_call 34; with_reducible exact cls_call hF1 hF2 HI1.out _) | (go_at_call 30; with_reducible exact cls_callK (SlQ.keeps _ _) hF1 hF2 hkv.out (fun w h => HMv.out _ w h) _)))
  refine wpQuiet_nil ?_
  rintro wq ⟨xq, rfl⟩
  replace hL0 := hL0.call (hF1 xq)
  replace hT := hT.call (hF1 xq)
  clear hkv hF2
  generalize F xq = x7 at hL0 hT ⊢
  clear hF1 xq iα F α
  replace hT := (hT.new (.cells #[.int .i64 (i : Int)] 3))
  replace hL0 := (hL0.new rfl [.int .i64 (i : Int)] 3)
  generalize hweq : (x7.alloc (.cells #[.int .i64 (i : Int)] 3)) = x8 at hL0 hT
  have hbv1 : ILs x8 (.slice (some ⟨x7.heap.size, 0, none⟩) 1 1) [(i : Int)] := ils_at (hL0.get _ _ List.mem_cons_self) rfl rfl
  replace hbv1 := Lib.hid hbv1
  go_wp2_with fail
  with_reducible refine Calls.mono (HP.out (.slice g1 l g1c) (.slice (some ⟨x7.heap.size, 0, none⟩) 1 1) _ (hT.get (List.mem_cons_of_mem _ (List.mem_cons_of_mem _ List.mem_cons_self))) hbv1.out) ?_
  rintro e x9 ⟨rfl, hb⟩
  replace hL0 := hL0.call hb
  replace hT := hT.call hb
  clear hb hweq
  go_upto_region 22 with fail
  have hd1 : ¬ i < l := by omega
  have hd2 : ¬ ((i : Nat) : Int) < ((l : Nat) : Int) := by omega
  obtain ⟨α, iα, F, hF1, hF2⟩ := cls x9
  refine region_cls (F := F) (by kernel_rfl) (lexB_of_fast (by kernel_rfl)) (cls_drew hF2) ?_
  repeat (go_big_quiet_step (first | fail))
  refine wpQuiet_nil ?_
  rintro wq ⟨xq, rfl⟩
  replace hL0 := hL0.call (hF1 xq)
  replace hT := hT.call (hF1 xq)
  clear hd1 hd2 hF2
  generalize F xq = x10 at hL0 hT ⊢
  clear hF1 xq iα F α
  go_wp2_with fail
  with_reducible refine Calls.mono (HW.out _ (hKT.out.at hL0.bl kKT)) ?_
  rintro e x11 ⟨rfl, hb⟩
  replace hL0 := hL0.call hb
  replace hT := hT.call hb
  clear hb
  go_wp2_with fail
  exact bodyPost_ret (v := .bool true) (by simp [results, Tryz.results9, go_sem]) rfl ⟨rfl, hL0.bl⟩
set_option maxHeartbeats 16000000 in
set_option maxRecDepth 100000 in
theorem verr_0_in_in (al am : Option Addr) (nl cl nm cm l m : Nat) (n1 d1 : Int) (n : Nat) (i : Nat) (x y v u p : List Rat) (c one xi : Rat) (KL : World → Prop) (hKL : Keeps KL) (HVa : ∀ w, KL w → Calls Tryz.prog 14 #[.slice al nl cl] w fun e w' => ∃ pv, e = .returned pv ∧ PT w' pv x ∧ (∀ g, pv.ownBlock = some g → w.heap.size ≤ g ∧ g < w'.heap.size) ∧ Below w.heap.size w w') (KM : World → Prop) (hKM : Keeps KM) (HVb : ∀ w, KM w → Calls Tryz.prog 14 #[.slice am nm cm] w fun e w' => ∃ pv, e = .returned pv ∧ PT w' pv y ∧ (∀ g, pv.ownBlock = some g → w.heap.size ≤ g ∧ g < w'.heap.size) ∧ Below w.heap.size w w') (HQ : ∀ w, Calls Tryz.prog 15 #[.agg #[.int .i64 n1, .int .u32 d1]] w fun xe w' => xe = .returned (fracV c) ∧ Below w.heap.size w w') (HR : ∀ (p1 p2 : Value) (w : World), PT w p1 x → PT w p2 y → Calls Tryz.prog 48 #[fracV c, p1, p2] w fun e w' => e = .returned (.int .i64 0) ∧ Below w.heap.size w w') (HZ : ∀ (w : World), Calls Tryz.prog 40 #[.int .i64 (n : Int)] w fun e w' => ∃ pv, e = .returned (.tuple #[pv, .int .i64 0]) ∧ PT w' pv v ∧ Below w.heap.size w w') (HU : ∀ (w : World), Calls Tryz.prog 47 #[.int .i64 (n : Int), .int .i64 (i : Int)] w fun e w' => ∃ pv, e = .returned (.tuple #[pv, .int .i64 0]) ∧ PT w' pv u ∧ Below w.heap.size w w') (HP : ∀ (p0 p1 : Value) (w : World), PT w p0 x → ILs w p1 ([(i : Int)]) → Calls Tryz.prog 39 #[p0, p1] w fun e w' => ∃ pv, e = .returned (.tuple #[pv, .int .i64 0]) ∧ PT w' pv p ∧ Below w.heap.size w w') (HI1 : ∀ w, Calls Tryz.prog 34 #[.int .i64 1] w fun xe w' => xe = .returned (fracV one) ∧ Below w.heap.size w w') (HMv : ∀ (p0 : Value) (w : World), PT w p0 v → Calls Tryz.prog 30 #[p0] w fun e w' => e = .returned (.agg #[.int .u64 0, .string ⟨#[]⟩, .bool false, .int .u64 0, .string ⟨#[]⟩]) ∧ Below w.heap.size w w') (KT : World → Prop) (hKT : Keeps KT) (HW : ∀ w, KT w → Calls Tryz.prog 12 #[] w fun xe w' => xe = .returned (.bool true) ∧ Below w.heap.size w w') (l_nl : decide ((20 : Int) < ((nl : Nat) : Int)) = false) (k_nl : decide (20 < nl) = false) (l_nm : decide ((20 : Int) < ((nm : Nat) : Int)) = false) (k_nm : decide (20 < nm) = false) (lx : x.length = l) (ly : y.length = l) (lv : v.length = n) (lu : u.length = n) (lp : p.length = 1) (hl1 : l ≤ 20) (hn : ¬ ((n : Nat) : Int) < 0) (hn2 : ¬ (2048 : Int) < ((n : Nat) : Int)) (hn3 : n ≤ 2048) (hn4 : ((n : Nat) : Int) ≤ 2048) (hi : ¬ ((i : Nat) : Int) < 0) (hi2 : (0 : Int) ≤ ((i : Nat) : Int)) (hin : ¬ ((n : Nat) : Int) ≤ ((i : Nat) : Int)) (hin2 : ((i : Nat) : Int) < ((n : Nat) : Int)) (hn0 : 0 < n) (hui : gv u i = one) (hil : ((i : Nat) : Int) < ((l : Nat) : Int)) (hl0 : 0 < l) (hxi : gv x i = xi) (hpi : gv p 0 = xi) (w : World) (kKL : KL w) (kKM : KM w) (kKT : KT w) :
  Calls Tryz.prog 9 #[.agg #[.int .i64 n1, .int .u32 d1], .slice al nl cl, .slice am nm cm, .int .i64 (n : Int), .int .i64 (i : Int)] w fun e w' => e = .returned (.bool true) ∧ Below w.heap.size w w' := by
 replace hKL := Lib.hid hKL
 replace HVa := Lib.hid HVa
 replace hKM := Lib.hid hKM
 replace HVb := Lib.hid HVb
 replace HQ := Lib.hid HQ
 replace HR := Lib.hid HR
 replace HZ := Lib.hid HZ
 replace HU := Lib.hid HU
 replace HP := Lib.hid HP
 replace HI1 := Lib.hid HI1
 replace HMv := Lib.hid HMv
 replace hKT := Lib.hid hKT
 replace HW := Lib.hid HW
 have hL0 : GL w w [] := GL.start w
 have hT : PTs w [] := PTs.nil w
 replace lx := Lib.hid lx
 replace ly := Lib.hid ly
 replace lv := Lib.hid lv
 replace lu := Lib.hid lu
 replace lp := Lib.hid lp
 replace hn0 := Lib.hid hn0
 replace hui := Lib.hid hui
 replace hl0 := Lib.hid hl0
 replace hxi := Lib.hid hxi
 replace hpi := Lib.hid hpi
 replace hT := (hT.new (.cells #[.int .i64 n1, .int .u32 d1] 24))
 replace hL0 := (hL0.new rfl [.int .i64 n1, .int .u32 d1] 24)
 generalize hweq : (w.alloc (.cells #[.int .i64 n1, .int .u32 d1] 24)) = x1 at hL0 hT
 go_enter Tryz.func9, Tryz.ntmps9
 have hN0 := cells_of _ 0 [] rfl (hL0.get _ _ List.mem_cons_self)
 simp only [cellsF, and_true, Nat.zero_add, Nat.reduceAdd] at hN0
 go_upto_region 3 with fail
 clear hN0
 clear hweq
 refine region_tfl 7 [EV (.slice al nl cl), PO x, EV (.slice am nm cm), PO y, EV (.agg #[.int .i64 n1, .int .u32 d1]), EV (fracV c), NewB x1.heap.size [.int .u64 0, .string ⟨#[]⟩, .bool false, .int .u64 0, .string ⟨#[]⟩]] [6] [1, 3] (by kernel_rfl) (by kernel_rfl) ?_ ?_ ?_ ?_ ?_ ?_
 ·exact stays_cons (stays_eq _) (stays_cons (stays_po _) (stays_cons (stays_eq _) (stays_cons (stays_po _) (stays_cons (stays_eq _) (stays_cons (stays_eq _) (stays_cons (stays_new _ _) stays_nil))))))
 ·simp only [List.take_succ_cons, List.take_zero, hopsRF, and_true]
  refine ⟨?_, ?_, ?_, ?_, ?_, ?_, ?_⟩ <;> intro fv w1 hb1 hp
  all_goals (simp only [putsV, Act.put, List.setIfInBounds_toArray, List.set_cons_succ, List.set_cons_zero, Nat.zero_add, Nat.reduceAdd])
  ·refine fr_no rfl (tyAt_none rfl ?_)
   simp [tyUpon, execOp, go_sem, Act.eval, Below.refl]
  ·have h0 : EV _ (fv 0) w1 := hp 0 (LC (by kernel_rfl))
   refine tyAt_none rfl ?_
   refine ty_call (f := 14) (args := #[.slice al nl cl]) (by simp [execOp, go_sem, Act.eval, h0]) ?_
   exact (HVa.out w1 (hKL.out.at ((hL0.call (below_drew hb1)).bl) kKL)).mono fun e w2 ⟨pv, h1, h2, h3, h4⟩ => ⟨pv, h1, ⟨⟨h2, fun g hg => (h3 g hg).2⟩, fun _ g hg => (h3 g hg).1⟩, h4⟩
  ·refine fr_no rfl (tyAt_none rfl ?_)
   simp [tyUpon, execOp, go_sem, Act.eval, Below.refl]
  ·have h2 : EV _ (fv 2) w1 := hp 2 (LC (by kernel_rfl))
   refine tyAt_none rfl ?_
   refine ty_call (f := 14) (args := #[.slice am nm cm]) (by simp [execOp, go_sem, Act.eval, h2]) ?_
   exact (HVb.out w1 (hKM.out.at ((hL0.call (below_drew hb1)).bl) kKM)).mono fun e w2 ⟨pv, h1, h2, h3, h4⟩ => ⟨pv, h1, ⟨⟨h2, fun g hg => (h3 g hg).2⟩, fun _ g hg => (h3 g hg).1⟩, h4⟩
  ·refine fr_no rfl (tyAt_none rfl ?_)
   have hc := (hL0.call (below_drew hb1)).fc
   simp only [fcG, cellsF, neK, and_true, ne_eq, Nat.zero_add, Nat.reduceAdd] at hc
   simp [tyUpon, execOp, go_sem, Act.eval, hc, Below.refl]
  ·have h4 : EV _ (fv 4) w1 := hp 4 (LC (by kernel_rfl))
   refine fr_no rfl (tyAt_none rfl ?_)
   refine ty_call (f := 15) (args := #[.agg #[.int .i64 n1, .int .u32 d1]]) (by simp [execOp, go_sem, Act.eval, h4]) ?_
   exact (HQ.out w1).mono fun e w2 ⟨h1, h2⟩ => ⟨_, h1, rfl, h2⟩
  ·exact fr_no rfl (tyAt_new rfl rfl new_frac (below_drew hb1).size)
 ·intro j hj u w2 hT2
  simp only [List.contains_iff_mem, List.mem_cons, List.not_mem_nil, or_false] at hj
  rcases hj with rfl
  exact NewB.ptr hT2
 ·intro j hj u w2 hT2
  simp only [List.contains_iff_mem, List.mem_cons, List.not_mem_nil, or_false] at hj
  rcases hj with rfl | rfl <;> exact hT2.2
 ·exact ⟨⟨_, _, _, _, rfl, rfl, rfl, new_frac⟩, trivial⟩
 ·intro fv x2 hb1 hv hne hsp
  have e0 : fv 0 = _ := hv 0 (by omega)
  obtain ⟨q1, -⟩ : PO x (fv 1) x2 := hv 1 (by omega)
  obtain ⟨g1, g1c, e1⟩ := ptp_form q1 lx.out hl0.out
  have e2 : fv 2 = _ := hv 2 (by omega)
  obtain ⟨q3, -⟩ : PO y (fv 3) x2 := hv 3 (by omega)
  obtain ⟨g2, g2c, e3⟩ := ptn_form q3 ly.out
  have e4 : fv 4 = _ := hv 4 (by omega)
  have e5 : fv 5 = _ := hv 5 (by omega)
  obtain ⟨kb6, e6, n6, m6⟩ : NewB x1.heap.size [.int .u64 0, .string ⟨#[]⟩, .bool false, .int .u64 0, .string ⟨#[]⟩] (fv 6) x2 := hv 6 (by omega)
  have s1 : ∀ g, (fv 1).ownBlock = some g → g ≠ kb6 := fun g hg e => hsp 6 1 (by omega) (by omega) rfl rfl g hg (by rw [e6, e])
  have s3 : ∀ g, (fv 3).ownBlock = some g → g ≠ kb6 := fun g hg e => hsp 6 3 (by omega) (by omega) rfl rfl g hg (by rw [e6, e])
  rw [e1] at q1 s1
  rw [e3] at q3 s3
  simp only [List.take_succ_cons, List.take_zero, putsV, Act.put, List.setIfInBounds_toArray, List.set_cons_succ, List.set_cons_zero, List.drop_succ_cons, List.drop_zero, Nat.zero_add, Nat.reduceAdd, e0, e1, e2, e3, e4, e5, e6]
  have hx0 := hL0
  replace hL0 := hL0.call (below_drew hb1)
  replace hT := hT.call (below_drew hb1)
  replace hL0 := GL.tnew (M := []) hL0 hx0 n6 m6 (fun p hp => by cases hp)
  simp only [List.cons_append, List.nil_append] at hL0
  replace hT := (hT.cons q1).cons q3
  have hsS : ∀ p ∈ ([(.slice g2 l g2c, y), (.slice (some ⟨g1, 0, none⟩) l g1c, x)] : List (Value × List Rat)), ∀ g, p.1.ownBlock = some g → g ≠ kb6 := by
   intro p hp
   rcases List.mem_cons.1 hp with rfl | hp
   ·exact s3
   ·rw [List.mem_singleton.1 hp]; exact s1
  have hT1 := hT.putS ((((((Upd.refl kb6 x2).setCell 0 (.int .u64 ((zl c.num : Nat) : Int))).setCell 1 (.string (zh c.num))).setCell 2 (.bool (zs c.num))).setCell 3 (.int .u64 ((lo (fe c) : Nat) : Int))).setCell 4 (.string (hs (fe c)))) hsS
  have hA := hL0.fc
  simp only [fcG, cellsF, neK, and_true, ne_eq, Nat.zero_add, Nat.reduceAdd] at hA
  have hP := hL0.put 0 (kb6) _ rfl [.int .u64 ((zl c.num : Nat) : Int), .string (zh c.num), .bool (zs c.num), .int .u64 ((lo (fe c) : Nat) : Int), .string (hs (fe c))] rfl
  simp only [setAll, List.set_cons_zero, List.set_cons_succ] at hP
  generalize hput1 : (((((x2.setCell ⟨kb6, 0, none⟩ (.int .u64 ((zl c.num : Nat) : Int))).setCell ⟨kb6, 1, none⟩ (.string (zh c.num))).setCell ⟨kb6, 2, none⟩ (.bool (zs c.num))).setCell ⟨kb6, 3, none⟩ (.int .u64 ((lo (fe c) : Nat) : Int))).setCell ⟨kb6, 4, none⟩ (.string (hs (fe c)))) = x3 at hP hT1
  have hB1 := hP.fc
  simp only [fcG, cellsF, neK, and_true, ne_eq, Nat.zero_add, Nat.reduceAdd] at hB1
  replace hL0 := hP
  replace hT := hT1
  clear hT1 hsS s1 s3 q1 q3 n6 m6 hx0 hne hsp hv hb1 e0 e1 e2 e3 e4 e5 e6 fv
  go_wp2_with fail
  clear hA
  with_reducible refine Calls.mono (HR.out (.slice (some ⟨g1, 0, none⟩) l g1c) (.slice g2 l g2c) _ (hT.get (List.mem_cons_of_mem _ List.mem_cons_self)) (hT.get List.mem_cons_self)) ?_
  rintro e x4 ⟨rfl, hb⟩
  replace hL0 := hL0.call hb
  replace hT := hT.call hb
  clear hb hput1 hB1
  go_wp2_with fail
  with_reducible refine Calls.mono (HZ.out _) ?_
  rintro e x5 ⟨v0, rfl, q0, hb⟩
  replace hL0 := hL0.call hb
  replace hT := hT.call hb
  clear hb
  obtain ⟨g3, g3c, rfl⟩ := ptn_form q0 lv.out
  replace hT := hT.cons q0
  clear q0
  go_wp2_with fail
  with_reducible refine Calls.mono (HU.out _) ?_
  rintro e x6 ⟨v0, rfl, q0, hb⟩
  replace hL0 := hL0.call hb
  replace hT := hT.call hb
  clear hb
  obtain ⟨g4, g4c, rfl⟩ := ptp_form q0 lu.out hn0.out
  replace hT := hT.cons q0
  clear q0
  go_upto_region 19 with fail
  have hkv := hT.get (List.mem_cons_of_mem _ List.mem_cons_self)
  replace hkv := Lib.hid hkv
  obtain ⟨ue0, ue1, ue2, ue3, ue4⟩ := fsc (slq_fs (hT.get List.mem_cons_self) (by rw [lu.out]; omega)) i (by rw [lu.out]; omega)
  rw [hui.out] at ue0 ue1 ue2 ue3 ue4
  obtain ⟨α, iα, F, hF1, hF2⟩ := cls x6
  have cue0 := fun yz => keepsC (hF1 yz) ue0
  have cue1 := fun yz => keepsC (hF1 yz) ue1
  have cue2 := fun yz => keepsC (hF1 yz) ue2
  have cue3 := fun yz => keepsC (hF1 yz) ue3
  have cue4 := fun yz => keepsC (hF1 yz) ue4
  clear ue0 ue1 ue2 ue3 ue4
  refine region_cls (F := F) (by kernel_rfl) (lexB_of_fast (by kernel_rfl)) (cls_drew hF2) ?_
  repeat (go_big_quiet_step (first | fail | (go_at_call 34; with_reducible exact cls_call hF1 hF2 HI1.out _) | (go_at_call 30; with_reducible exact cls_callK (SlQ.keeps _ _) hF1 hF2 hkv.out (fun w h => HMv.out _ w h) _)))
  refine wpQuiet_nil ?_
  rintro wq ⟨xq, rfl⟩
  replace hL0 := hL0.call (hF1 xq)
  replace hT := hT.call (hF1 xq)
  clear cue0 cue1 cue2 cue3 cue4 hkv hF2
  generalize F xq = x7 at hL0 hT ⊢
  clear hF1 xq iα F α
  replace hT := (hT.new (.cells #[.int .i64 (i : Int)] 3))
  replace hL0 := (hL0.new rfl [.int .i64 (i : Int)] 3)
  generalize hweq : (x7.alloc (.cells #[.int .i64 (i : Int)] 3)) = x8 at hL0 hT
  have hbv1 : ILs x8 (.slice (some ⟨x7.heap.size, 0, none⟩) 1 1) [(i : Int)] := ils_at (hL0.get _ _ List.mem_cons_self) rfl rfl
  replace hbv1 := Lib.hid hbv1
  go_wp2_with fail
  with_reducible refine Calls.mono (HP.out (.slice (some ⟨g1, 0, none⟩) l g1c) (.slice (some ⟨x7.heap.size, 0, none⟩) 1 1) _ (hT.get (List.mem_cons_of_mem _ (List.mem_cons_of_mem _ (List.mem_cons_of_mem _ List.mem_cons_self)))) hbv1.out) ?_
  rintro e x9 ⟨v0, rfl, q0, hb⟩
  replace hL0 := hL0.call hb
  replace hT := hT.call hb
  clear hb hweq
  obtain ⟨g5, g5c, rfl⟩ := ptp_form q0 lp.out (by decide)
  replace hT := hT.cons q0
  clear q0
  go_upto_region 22 with fail
  obtain ⟨xe0, xe1, xe2, xe3, xe4⟩ := fsc (slq_fs (hT.get (List.mem_cons_of_mem _ (List.mem_cons_of_mem _ (List.mem_cons_of_mem _ (List.mem_cons_of_mem _ List.mem_cons_self))))) (by rw [lx.out]; omega)) i (by rw [lx.out]; omega)
  rw [hxi.out] at xe0 xe1 xe2 xe3 xe4
  obtain ⟨pe0, pe1, pe2, pe3, pe4⟩ := fsc (slq_fs (hT.get List.mem_cons_self) (by rw [lp.out]; omega)) 0 (by rw [lp.out]; omega)
  rw [hpi.out] at pe0 pe1 pe2 pe3 pe4
  obtain ⟨α, iα, F, hF1, hF2⟩ := cls x9
  have cxe0 := fun yz => keepsC (hF1 yz) xe0
  have cxe1 := fun yz => keepsC (hF1 yz) xe1
  have cxe2 := fun yz => keepsC (hF1 yz) xe2
  have cxe3 := fun yz => keepsC (hF1 yz) xe3
  have cxe4 := fun yz => keepsC (hF1 yz) xe4
  have cpe0 := fun yz => keepsC (hF1 yz) pe0
  have cpe1 := fun yz => keepsC (hF1 yz) pe1
  have cpe2 := fun yz => keepsC (hF1 yz) pe2
  have cpe3 := fun yz => keepsC (hF1 yz) pe3
  have cpe4 := fun yz => keepsC (hF1 yz) pe4
  clear xe0 xe1 xe2 xe3 xe4 pe0 pe1 pe2 pe3 pe4
  refine region_cls (F := F) (by kernel_rfl) (lexB_of_fast (by kernel_rfl)) (cls_drew hF2) ?_
  repeat (go_big_quiet_step (first | fail))
  refine wpQuiet_nil ?_
  rintro wq ⟨xq, rfl⟩
  replace hL0 := hL0.call (hF1 xq)
  replace hT := hT.call (hF1 xq)
  clear cxe0 cxe1 cxe2 cxe3 cxe4 cpe0 cpe1 cpe2 cpe3 cpe4 hF2
  generalize F xq = x10 at hL0 hT ⊢
  clear hF1 xq iα F α
  go_wp2_with fail
  with_reducible refine Calls.mono (HW.out _ (hKT.out.at hL0.bl kKT)) ?_
  rintro e x11 ⟨rfl, hb⟩
  replace hL0 := hL0.call hb
  replace hT := hT.call hb
  clear hb
  go_wp2_with fail
  exact bodyPost_ret (v := .bool true) (by simp [results, Tryz.results9, go_sem]) rfl ⟨rfl, hL0.bl⟩
set_option maxHeartbeats 16000000 in
set_option maxRecDepth 100000 in
theorem verr_0_in_high (al am : Option Addr) (nl cl nm cm l m : Nat) (n1 d1 : Int) (n : Nat) (i : Nat) (x y v u p : List Rat) (c one xi : Rat) (KL : World → Prop) (hKL : Keeps KL) (HVa : ∀ w, KL w → Calls Tryz.prog 14 #[.slice al nl cl] w fun e w' => ∃ pv, e = .returned pv ∧ PT w' pv x ∧ (∀ g, pv.ownBlock = some g → w.heap.size ≤ g ∧ g < w'.heap.size) ∧ Below w.heap.size w w') (KM : World → Prop) (hKM : Keeps KM) (HVb : ∀ w, KM w → Calls Tryz.prog 14 #[.slice am nm cm] w fun e w' => ∃ pv, e = .returned pv ∧ PT w' pv y ∧ (∀ g, pv.ownBlock = some g → w.heap.size ≤ g ∧ g < w'.heap.size) ∧ Below w.heap.size w w') (HQ : ∀ w, Calls Tryz.prog 15 #[.agg #[.int .i64 n1, .int .u32 d1]] w fun xe w' => xe = .returned (fracV c) ∧ Below w.heap.size w w') (HR : ∀ (p1 p2 : Value) (w : World), PT w p1 x → PT w p2 y → Calls Tryz.prog 48 #[fracV c, p1, p2] w fun e w' => e = .returned (.int .i64 0) ∧ Below w.heap.size w w') (HZ : ∀ (w : World), Calls Tryz.prog 40 #[.int .i64 (n : Int)] w fun e w' => ∃ pv, e = .returned (.tuple #[pv, .int .i64 0]) ∧ PT w' pv v ∧ Below w.heap.size w w') (HU : ∀ (w : World), Calls Tryz.prog 47 #[.int .i64 (n : Int), .int .i64 (i : Int)] w fun e w' => ∃ pv, e = .returned (.tuple #[pv, .int .i64 0]) ∧ PT w' pv u ∧ Below w.heap.size w w') (HP : ∀ (p0 p1 : Value) (w : World), PT w p0 x → ILs w p1 ([(i : Int)]) → Calls Tryz.prog 39 #[p0, p1] w fun e w' => e = .returned (.tuple #[.slice none 0 0, .int .i64 1]) ∧ Below w.heap.size w w') (HI1 : ∀ w, Calls Tryz.prog 34 #[.int .i64 1] w fun xe w' => xe = .returned (fracV one) ∧ Below w.heap.size w w') (HMv : ∀ (p0 : Value) (w : World), PT w p0 v → Calls Tryz.prog 30 #[p0] w fun e w' => e = .returned (.agg #[.int .u64 0, .string ⟨#[]⟩, .bool false, .int .u64 0, .string ⟨#[]⟩]) ∧ Below w.heap.size w w') (KT : World → Prop) (hKT : Keeps KT) (HW : ∀ w, KT w → Calls Tryz.prog 12 #[] w fun xe w' => xe = .returned (.bool true) ∧ Below w.heap.size w w') (l_nl : decide ((20 : Int) < ((nl : Nat) : Int)) = false) (k_nl : decide (20 < nl) = false) (l_nm : decide ((20 : Int) < ((nm : Nat) : Int)) = false) (k_nm : decide (20 < nm) = false) (lx : x.length = l) (ly : y.length = l) (lv : v.length = n) (lu : u.length = n) (lp : p.length = 1) (hl1 : l ≤ 20) (hn : ¬ ((n : Nat) : Int) < 0) (hn2 : ¬ (2048 : Int) < ((n : Nat) : Int)) (hn3 : n ≤ 2048) (hn4 : ((n : Nat) : Int) ≤ 2048) (hi : ¬ ((i : Nat) : Int) < 0) (hi2 : (0 : Int) ≤ ((i : Nat) : Int)) (hin : ¬ ((n : Nat) : Int) ≤ ((i : Nat) : Int)) (hin2 : ((i : Nat) : Int) < ((n : Nat) : Int)) (hn0 : 0 < n) (hui : gv u i = one) (hil : ¬ ((i : Nat) : Int) < ((l : Nat) : Int)) (w : World) (kKL : KL w) (kKM : KM w) (kKT : KT w) :
  Calls Tryz.prog 9 #[.agg #[.int .i64 n1, .int .u32 d1], .slice al nl cl, .slice am nm cm, .int .i64 (n : Int), .int .i64 (i : Int)] w fun e w' => e = .returned (.bool true) ∧ Below w.heap.size w w' := by
 replace hKL := Lib.hid hKL
 replace HVa := Lib.hid HVa
 replace hKM := Lib.hid hKM
 replace HVb := Lib.hid HVb
 replace HQ := Lib.hid HQ
 replace HR := Lib.hid HR
 replace HZ := Lib.hid HZ
 replace HU := Lib.hid HU
 replace HP := Lib.hid HP
 replace HI1 := Lib.hid HI1
 replace HMv := Lib.hid HMv
 replace hKT := Lib.hid hKT
 replace HW := Lib.hid HW
 have hL0 : GL w w [] := GL.start w
 have hT : PTs w [] := PTs.nil w
 replace lx := Lib.hid lx
 replace ly := Lib.hid ly
 replace lv := Lib.hid lv
 replace lu := Lib.hid lu
 replace lp := Lib.hid lp
 replace hn0 := Lib.hid hn0
 replace hui := Lib.hid hui
 replace hT := (hT.new (.cells #[.int .i64 n1, .int .u32 d1] 24))
 replace hL0 := (hL0.new rfl [.int .i64 n1, .int .u32 d1] 24)
 generalize hweq : (w.alloc (.cells #[.int .i64 n1, .int .u32 d1] 24)) = x1 at hL0 hT
 go_enter Tryz.func9, Tryz.ntmps9
 have hN0 := cells_of _ 0 [] rfl (hL0.get _ _ List.mem_cons_self)
 simp only [cellsF, and_true, Nat.zero_add, Nat.reduceAdd] at hN0
 go_upto_region 3 with fail
 clear hN0
 clear hweq
 refine region_tfl 7 [EV (.slice al nl cl), PO x, EV (.slice am nm cm), PO y, EV (.agg #[.int .i64 n1, .int .u32 d1]), EV (fracV c), NewB x1.heap.size [.int .u64 0, .string ⟨#[]⟩, .bool false, .int .u64 0, .string ⟨#[]⟩]] [6] [1, 3] (by kernel_rfl) (by kernel_rfl) ?_ ?_ ?_ ?_ ?_ ?_
 ·exact stays_cons (stays_eq _) (stays_cons (stays_po _) (stays_cons (stays_eq _) (stays_cons (stays_po _) (stays_cons (stays_eq _) (stays_cons (stays_eq _) (stays_cons (stays_new _ _) stays_nil))))))
 ·simp only [List.take_succ_cons, List.take_zero, hopsRF, and_true]
  refine ⟨?_, ?_, ?_, ?_, ?_, ?_, ?_⟩ <;> intro fv w1 hb1 hp
  all_goals (simp only [putsV, Act.put, List.setIfInBounds_toArray, List.set_cons_succ, List.set_cons_zero, Nat.zero_add, Nat.reduceAdd])
  ·refine fr_no rfl (tyAt_none rfl ?_)
   simp [tyUpon, execOp, go_sem, Act.eval, Below.refl]
  ·have h0 : EV _ (fv 0) w1 := hp 0 (LC (by kernel_rfl))
   refine tyAt_none rfl ?_
   refine ty_call (f := 14) (args := #[.slice al nl cl]) (by simp [execOp, go_sem, Act.eval, h0]) ?_
   exact (HVa.out w1 (hKL.out.at ((hL0.call (below_drew hb1)).bl) kKL)).mono fun e w2 ⟨pv, h1, h2, h3, h4⟩ => ⟨pv, h1, ⟨⟨h2, fun g hg => (h3 g hg).2⟩, fun _ g hg => (h3 g hg).1⟩, h4⟩
  ·refine fr_no rfl (tyAt_none rfl ?_)
   simp [tyUpon, execOp, go_sem, Act.eval, Below.refl]
  ·have h2 : EV _ (fv 2) w1 := hp 2 (LC (by kernel_rfl))
   refine tyAt_none rfl ?_
   refine ty_call (f := 14) (args := #[.slice am nm cm]) (by simp [execOp, go_sem, Act.eval, h2]) ?_
   exact (HVb.out w1 (hKM.out.at ((hL0.call (below_drew hb1)).bl) kKM)).mono fun e w2 ⟨pv, h1, h2, h3, h4⟩ => ⟨pv, h1, ⟨⟨h2, fun g hg => (h3 g hg).2⟩, fun _ g hg => (h3 g hg).1⟩, h4⟩
  ·refine fr_no rfl (tyAt_none rfl ?_)
   have hc := (hL0.call (below_drew hb1)).fc
   simp only [fcG, cellsF, neK, and_true, ne_eq, Nat.zero_add, Nat.reduceAdd] at hc
   simp [tyUpon, execOp, go_sem, Act.eval, hc, Below.refl]
  ·have h4 : EV _ (fv 4) w1 := hp 4 (LC (by kernel_rfl))
   refine fr_no rfl (tyAt_none rfl ?_)
   refine ty_call (f := 15) (args := #[.agg #[.int .i64 n1, .int .u32 d1]]) (by simp [execOp, go_sem, Act.eval, h4]) ?_
   exact (HQ.out w1).mono fun e w2 ⟨h1, h2⟩ => ⟨_, h1, rfl, h2⟩
  ·exact fr_no rfl (tyAt_new rfl rfl new_frac (below_drew hb1).size)
 ·intro j hj u w2 hT2
  simp only [List.contains_iff_mem, List.mem_cons, List.not_mem_nil, or_false] at hj
  rcases hj with rfl
  exact NewB.ptr hT2
 ·intro j hj u w2 hT2
  simp only [List.contains_iff_mem, List.mem_cons, List.not_mem_nil, or_false] at hj
  rcases hj with rfl | rfl <;> exact hT2.2
 ·exact ⟨⟨_, _, _, _, rfl, rfl, rfl, new_frac⟩, trivial⟩
 ·intro fv x2 hb1 hv hne hsp
  have e0 : fv 0 = _ := hv 0 (by omega)
  obtain ⟨q1, -⟩ : PO x (fv 1) x2 := hv 1 (by omega)
  obtain ⟨g1, g1c, e1⟩ := ptn_form q1 lx.out
  have e2 : fv 2 = _ := hv 2 (by omega)
  obtain ⟨q3, -⟩ : PO y (fv 3) x2 := hv 3 (by omega)
  obtain ⟨g2, g2c, e3⟩ := ptn_form q3 ly.out
  have e4 : fv 4 = _ := hv 4 (by omega)
  have e5 : fv 5 = _ := hv 5 (by omega)
  obtain ⟨kb6, e6, n6, m6⟩ : NewB x1.heap.size [.int .u64 0, .string ⟨#[]⟩, .bool false, .int .u64 0, .string ⟨#[]⟩] (fv 6) x2 := hv 6 (by omega)
  have s1 : ∀ g, (fv 1).ownBlock = some g → g ≠ kb6 := fun g hg e => hsp 6 1 (by omega) (by omega) rfl rfl g hg (by rw [e6, e])
  have s3 : ∀ g, (fv 3).ownBlock = some g → g ≠ kb6 := fun g hg e => hsp 6 3 (by omega) (by omega) rfl rfl g hg (by rw [e6, e])
  rw [e1] at q1 s1
  rw [e3] at q3 s3
  simp only [List.take_succ_cons, List.take_zero, putsV, Act.put, List.setIfInBounds_toArray, List.set_cons_succ, List.set_cons_zero, List.drop_succ_cons, List.drop_zero, Nat.zero_add, Nat.reduceAdd, e0, e1, e2, e3, e4, e5, e6]
  have hx0 := hL0
  replace hL0 := hL0.call (below_drew hb1)
  replace hT := hT.call (below_drew hb1)
  replace hL0 := GL.tnew (M := []) hL0 hx0 n6 m6 (fun p hp => by cases hp)
  simp only [List.cons_append, List.nil_append] at hL0
  replace hT := (hT.cons q1).cons q3
  have hsS : ∀ p ∈ ([(.slice g2 l g2c, y), (.slice g1 l g1c, x)] : List (Value × List Rat)), ∀ g, p.1.ownBlock = some g → g ≠ kb6 := by
   intro p hp
   rcases List.mem_cons.1 hp with rfl | hp
   ·exact s3
   ·rw [List.mem_singleton.1 hp]; exact s1
  have hT1 := hT.putS ((((((Upd.refl kb6 x2).setCell 0 (.int .u64 ((zl c.num : Nat) : Int))).setCell 1 (.string (zh c.num))).setCell 2 (.bool (zs c.num))).setCell 3 (.int .u64 ((lo (fe c) : Nat) : Int))).setCell 4 (.string (hs (fe c)))) hsS
  have hA := hL0.fc
  simp only [fcG, cellsF, neK, and_true, ne_eq, Nat.zero_add, Nat.reduceAdd] at hA
  have hP := hL0.put 0 (kb6) _ rfl [.int .u64 ((zl c.num : Nat) : Int), .string (zh c.num), .bool (zs c.num), .int .u64 ((lo (fe c) : Nat) : Int), .string (hs (fe c))] rfl
  simp only [setAll, List.set_cons_zero, List.set_cons_succ] at hP
  generalize hput1 : (((((x2.setCell ⟨kb6, 0, none⟩ (.int .u64 ((zl c.num : Nat) : Int))).setCell ⟨kb6, 1, none⟩ (.string (zh c.num))).setCell ⟨kb6, 2, none⟩ (.bool (zs c.num))).setCell ⟨kb6, 3, none⟩ (.int .u64 ((lo (fe c) : Nat) : Int))).setCell ⟨kb6, 4, none⟩ (.string (hs (fe c)))) = x3 at hP hT1
  have hB1 := hP.fc
  simp only [fcG, cellsF, neK, and_true, ne_eq, Nat.zero_add, Nat.reduceAdd] at hB1
  replace hL0 := hP
  replace hT := hT1
  clear hT1 hsS s1 s3 q1 q3 n6 m6 hx0 hne hsp hv hb1 e0 e1 e2 e3 e4 e5 e6 fv
  go_wp2_with fail
  clear hA
  with_reducible refine Calls.mono (HR.out (.slice g1 l g1c) (.slice g2 l g2c) _ (hT.get (List.mem_cons_of_mem _ List.mem_cons_self)) (hT.get List.mem_cons_self)) ?_
  rintro e x4 ⟨rfl, hb⟩
  replace hL0 := hL0.call hb
  replace hT := hT.call hb
  clear hb hput1 hB1
  go_wp2_with fail
  with_reducible refine Calls.mono (HZ.out _) ?_
  rintro e x5 ⟨v0, rfl, q0, hb⟩
  replace hL0 := hL0.call hb
  replace hT := hT.call hb
  clear hb
  obtain ⟨g3, g3c, rfl⟩ := ptn_form q0 lv.out
  replace hT := hT.cons q0
  clear q0
  go_wp2_with fail
  with_reducible refine Calls.mono (HU.out _) ?_
  rintro e x6 ⟨v0, rfl, q0, hb⟩
  replace hL0 := hL0.call hb
  replace hT := hT.call hb
  clear hb
  obtain ⟨g4, g4c, rfl⟩ := ptp_form q0 lu.out hn0.out
  replace hT := hT.cons q0
  clear q0
  go_upto_region 19 with fail
  have hkv := hT.get (List.mem_cons_of_mem _ List.mem_cons_self)
  replace hkv := Lib.hid hkv
  obtain ⟨ue0, ue1, ue2, ue3, ue4⟩ := fsc (slq_fs (hT.get List.mem_cons_self) (by rw [lu.out]; omega)) i (by rw [lu.out]; omega)
  rw [hui.out] at ue0 ue1 ue2 ue3 ue4
  obtain ⟨α, iα, F, hF1, hF2⟩ := cls x6
  have cue0 := fun yz => keepsC (hF1 yz) ue0
  have cue1 := fun yz => keepsC (hF1 yz) ue1
  have cue2 := fun yz => keepsC (hF1 yz) ue2
  have cue3 := fun yz => keepsC (hF1 yz) ue3
  have cue4 := fun yz => keepsC (hF1 yz) ue4
  clear ue0 ue1 ue2 ue3 ue4
  refine region_cls (F := F) (by kernel_rfl) (lexB_of_fast (by kernel_rfl)) (cls_drew hF2) ?_
  repeat (go_big_quiet_step (first | fail | (go_at_call 34; with_reducible exact cls_call hF1 hF2 HI1.out _) | (go_at_call 30; with_reducible exact cls_callK (SlQ.keeps _ _) hF1 hF2 hkv.out (fun w h => HMv.out _ w h) _)))
  refine wpQuiet_nil ?_
  rintro wq ⟨xq, rfl⟩
  replace hL0 := hL0.call (hF1 xq)
  replace hT := hT.call (hF1 xq)
  clear cue0 cue1 cue2 cue3 cue4 hkv hF2
  generalize F xq = x7 at hL0 hT ⊢
  clear hF1 xq iα F α
  replace hT := (hT.new (.cells #[.int .i64 (i : Int)] 3))
  replace hL0 := (hL0.new rfl [.int .i64 (i : Int)] 3)
  generalize hweq : (x7.alloc (.cells #[.int .i64 (i : Int)] 3)) = x8 at hL0 hT
  have hbv1 : ILs x8 (.slice (some ⟨x7.heap.size, 0, none⟩) 1 1) [(i : Int)] := ils_at (hL0.get _ _ List.mem_cons_self) rfl rfl
  replace hbv1 := Lib.hid hbv1
  go_wp2_with fail
  with_reducible refine Calls.mono (HP.out (.slice g1 l g1c) (.slice (some ⟨x7.heap.size, 0, none⟩) 1 1) _ (hT.get (List.mem_cons_of_mem _ (List.mem_cons_of_mem _ (List.mem_cons_of_mem _ List.mem_cons_self)))) hbv1.out) ?_
  rintro e x9 ⟨rfl, hb⟩
  replace hL0 := hL0.call hb
  replace hT := hT.call hb
  clear hb hweq
  go_upto_region 22 with fail
  have hd1 : ¬ i < l := by omega
  have hd2 : ¬ ((i : Nat) : Int) < ((l : Nat) : Int) := by omega
  obtain ⟨α, iα, F, hF1, hF2⟩ := cls x9
  refine region_cls (F := F) (by kernel_rfl) (lexB_of_fast (by kernel_rfl)) (cls_drew hF2) ?_
  repeat (go_big_quiet_step (first | fail))
  refine wpQuiet_nil ?_
  rintro wq ⟨xq, rfl⟩
  replace hL0 := hL0.call (hF1 xq)
  replace hT := hT.call (hF1 xq)
  clear hd1 hd2 hF2
  generalize F xq = x10 at hL0 hT ⊢
  clear hF1 xq iα F α
  go_wp2_with fail
  with_reducible refine Calls.mono (HW.out _ (hKT.out.at hL0.bl kKT)) ?_
  rintro e x11 ⟨rfl, hb⟩
  replace hL0 := hL0.call hb
  replace hT := hT.call hb
  clear hb
  go_wp2_with fail
  exact bodyPost_ret (v := .bool true) (by simp [results, Tryz.results9, go_sem]) rfl ⟨rfl, hL0.bl⟩
end Go.Proofs.YtoahpkelajimfaaGreatDoor
