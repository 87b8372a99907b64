/-
  The law answers true at every input, and leaves its arguments as they were: a part of the proof. CONDITIONS: the package-level tables start as the program's text lays them (the card ties them).
-/
import Derived.Test.YthkodldppaccmaaGreatDoorZae
import Derived.Test.YthkodldppaccmaaGreatDoorTie
import Derived.Test.YthkodldppaccmaaGreatDoorCards
set_option linter.unusedVariables false
set_option linter.unusedSimpArgs false
namespace Go.Proofs.YthkodldppaccmaaGreatDoor
open Go.RowKit
attribute [local irreducible] lo hs sm s64 c64 d64 b64 mh ml pd pc qd qc val hiB str cmpI srD lz nb
/-- A new box of two cells. -/
def nw : Prop := ∀ (W : World) (v0 v1 : Value) (t : TypeId), (W.alloc (.cells #[v0, v1] t)).cell? ⟨W.heap.size, 0, none⟩ = some v0 ∧ (W.alloc (.cells #[v0, v1] t)).cell? ⟨W.heap.size, 1, none⟩ = some v1 ∧ ∀ j, (W.alloc (.cells #[v0, v1] t)).frozen? ⟨W.heap.size, j, none⟩ = false
end Go.Proofs.YthkodldppaccmaaGreatDoor
namespace Go.Proofs.YthkodldppaccmaaGreatDoor
open Go.RowKit
def sgnQ (a : Rat) : Int := if a < 0 then -1 else if a = 0 then 0 else 1
theorem sgnQ_num (a : Rat) : sgnQ a = if a.num < 0 then -1 else if a.num = 0 then 0 else 1 := by
 unfold sgnQ
 have h1 : a < 0 ↔ a.num < 0 := by rw [← Rat.not_le, ← Rat.num_nonneg]; omega
 have h2 : a = 0 ↔ a.num = 0 := Rat.num_eq_zero.symm
 simp only [h1, h2]
end Go.Proofs.YthkodldppaccmaaGreatDoor
namespace Go.Proofs.YthkodldppaccmaaGreatDoor
open Go.RowKit
attribute [local irreducible] lo hs sm s64 c64 d64 b64 mh ml pd pc qd qc val hiB str cmpI srD lz nb zl zh zs
set_option maxHeartbeats 4000000 in
set_option maxRecDepth 100000 in
theorem fsign_w (n s : Int) (e : Nat) (HS : RT 149 #[intV n] (.int .i64 s)) (w : World) :
  Calls Tryz.prog 72 #[frV n e] w fun xe w' => xe = .returned (.int .i64 s) ∧ Below w.heap.size w w' := by
 have hL0 : GL w w [] := GL.start w
 replace HS := Lib.hid HS
 replace hL0 := (hL0.new rfl [.int .u64 ((zl n : Nat) : Int), .string (zh n), .bool (zs n), .int .u64 ((lo e : Nat) : Int), .string (hs e)] 38)
 generalize hweq : (w.alloc (.cells #[.int .u64 ((zl n : Nat) : Int), .string (zh n), .bool (zs n), .int .u64 ((lo e : Nat) : Int), .string (hs e)] 38)) = x1 at hL0
 go_enter Tryz.func72, Tryz.ntmps72
 have hN0 := cells_of _ 0 [] rfl (hL0.get _ _ List.mem_cons_self)
 simp only [cellsF, and_true, Nat.zero_add, Nat.reduceAdd] at hN0
 go_wp2_with fail
 clear hN0
 with_reducible refine Calls.mono (HS.out _) ?_
 rintro e x2 ⟨rfl, hb⟩
 replace hL0 := hL0.call hb
 clear hb hweq
 go_wp2_with fail
 exact bodyPost_ret (v := .int .i64 s) (by simp [results, Tryz.results72, go_sem]) rfl ⟨rfl, hL0.bl⟩
end Go.Proofs.YthkodldppaccmaaGreatDoor
namespace Go.Proofs.YthkodldppaccmaaGreatDoor
open Go.RowKit
attribute [local irreducible] lo hs sm s64 c64 d64 b64 mh ml pd pc qd qc val hiB str cmpI srD lz nb zl zh zs
theorem signF (q : Rat) (w : World) : Calls Tryz.prog 72 #[fracV q] w fun x w' => x = .returned (.int .i64 (sgnQ q)) ∧ Below w.heap.size w w' := by
 rw [sgnQ_num]; exact fsign_w q.num (sgn q.num) (fe q) (fun w => signI q.num w) w
end Go.Proofs.YthkodldppaccmaaGreatDoor
namespace Go.Proofs.YthkodldppaccmaaGreatDoor
open Go.RowKit
attribute [local irreducible] lo hs sm s64 c64 d64 b64 mh ml pd pc qd qc val hiB str cmpI srD lz zl zh zs dval
theorem qmade_parts (n : Int) (d : Nat) : (qmade n d).num.natAbs ≤ n.natAbs ∧ (qmade n d).den ≤ (if d < 1 then 1 else d) := by
 unfold qmade
 obtain ⟨h1, h2⟩ := canc (z := n) (d := if d < 1 then 1 else d) (by split <;> omega)
 rw [h1, h2, Int.natAbs_tdiv]
 exact ⟨Nat.div_le_self _ _, Nat.div_le_self _ _⟩
theorem qmade_sz (n : Int) (d : Nat) (h1 : -9223372036854775808 ≤ n) (h2 : n < 9223372036854775808) (h3 : d < 4294967296) : Sz (qmade n d) 1 := by
 obtain ⟨e1, e2⟩ := qmade_parts n d
 exact szc _ (by omega) (by split at e2 <;> omega)
end Go.Proofs.YthkodldppaccmaaGreatDoor
namespace Go.Proofs.YthkodldppaccmaaGreatDoor
open Go.RowKit
theorem tab_gv (l : List Rat) : tabV l.length (gv l) = l := by
 apply List.ext_getElem (tabV_len _ _)
 intro i h1 h2
 rw [tabV_get, gv_get h2]
theorem tab_gv' {l : List Rat} {n : Nat} (h : l.length = n) : tabV n (gv l) = l := by subst h; exact tab_gv l
theorem bs_add (n : Nat) (f g : Nat → Rat) : bsV n (fun i => f i + g i) = bsV n f + bsV n g := by
 induction n with
 | zero => show (0 : Rat) = 0 + 0; grind
 | succ n ih => show bsV n (fun i => f i + g i) + (f n + g n) = bsV n f + f n + (bsV n g + g n); rw [ih]; grind
theorem bs_mul (n : Nat) (c : Rat) (f : Nat → Rat) : bsV n (fun i => c * f i) = c * bsV n f := by
 induction n with
 | zero => show (0 : Rat) = c * 0; grind
 | succ n ih => show bsV n (fun i => c * f i) + c * f n = c * (bsV n f + f n); rw [ih]; grind
theorem bs_zero (n : Nat) : bsV n (fun _ => 0) = 0 := by
 induction n with
 | zero => rfl
 | succ n ih => show bsV n (fun _ => 0) + 0 = 0; rw [ih]; grind
theorem bs_nonneg {n : Nat} {f : Nat → Rat} (h : ∀ i, i < n → 0 ≤ f i) : 0 ≤ bsV n f := by
 induction n with
 | zero => exact Rat.le_refl
 | succ n ih =>
  have h1 := ih fun i hi => h i (by omega)
  have h2 := h n (by omega)
  show 0 ≤ bsV n f + f n
  grind
end Go.Proofs.YthkodldppaccmaaGreatDoor
namespace Go.Proofs.YthkodldppaccmaaGreatDoor
open Go.RowKit
section
variable {P : Program} {ops : Array Oper} {C : World → Prop}
theorem wpAny_ta {n s : Nat} {l : List Oper} {T : Nat → Value → World → Prop} {w0 : World} {a0 : Act} {Q : Exit → Act → World → Prop} {A : Nat → Bool} (hT : ∀ i, Stays (T i)) (hsel : Region.noSelect l.toArray = true) (hn : n ≤ l.length)
  (hB : barB .any l.toArray n = true) (hN : nodupD (l.take n) = true) (hD : depB l.toArray n = true)
  (hops : ∀ j o, j < n → l[j]? = some o → ∀ v w, Below w0.heap.size w0 w → (∀ p ∈ predsOf .any l.toArray j, T p (v p) w) → TyAt P l.toArray o (putsV (l.take n) 0 v a0) w (T j))
  (hptr : ∀ j, A j = true → ∀ u w, T j u w → ∃ k, u = .pointer (some ⟨k, 0, none⟩) ∧ k < w.heap.size)
  (hnew : ∀ j o, l[j]? = some o → A j = true → o.guard = none ∧ ∃ e c t, o.op = .alloc e ∧ ∀ w, (Instr.alloc e true (.tuple #[])).run P w = .ok (.pointer (some ⟨w.heap.size, 0, none⟩)) (w.alloc (.cells c t)))
  (hend : ∀ v w, Below w0.heap.size w0 w → (∀ i, i < n → T i (v i) w) → (∀ i j, i < n → j < n → i ≠ j → A i = true → A j = true → v i ≠ v j) → wpAny P .any l.toArray Q s (canonL l.length n) (putsV (l.take n) 0 v a0) w) :
  ∀ (m : Nat) (listed : Array Bool) (v : Nat → Value) (w : World), left n listed = m → closedL .any l.toArray listed → sufL n l.toArray listed → Below w0.heap.size w0 w →
   (∀ i, i < n → listed.getD i false = true → T i (v i) w) → (∀ i j, i < n → j < n → i ≠ j → A i = true → A j = true → listed.getD i false = true → listed.getD j false = true → v i ≠ v j) → wpAny P .any l.toArray Q (s + m) listed (putsIf (l.take n) 0 (fun i => listed.getD i false) v a0) w := by
 intro m
 have hlen : (l.take n).length = n := by rw [List.length_take]; omega
 induction m with
 | zero =>
  intro listed v w hl hc hu hb ht hne
  have hd := left_zero hl
  rw [putsIf_all (l.take n) 0 a0 fun i _ h2 => doneN_iff.1 hd i (by omega)]
  have e := canon_of hu hd
  rw [show l.toArray.size = l.length by simp] at e
  rw [e]
  exact hend v w hb (fun i hi => ht i hi (doneN_iff.1 hd i hi)) fun i j hi hj hij ha hb' => hne i j hi hj hij ha hb' (doneN_iff.1 hd i hi) (doneN_iff.1 hd j hj)
 | succ m ih =>
  intro listed v w hl hc hu hb ht hne
  have hnd := left_some hl
  refine ⟨fun h0 => absurd h0 (ready_some hu.1 (by simpa using hn) hD hl), fun j hj => ?_⟩
  have hjn := bar hB hc hj hnd
  obtain ⟨hju, o, ho, -⟩ := mem_ready.1 hj
  have hpre := preds_of_ready hj
  have hol : l[j]? = some o := by simpa using ho
  have hjs : j < l.toArray.size := (Array.getElem?_eq_some_iff.1 ho).1
  have hty := hops j o hjn hol v w hb fun p hp => ht p (by have := depB_pred hD hjn hp; omega) (hpre p hp)
  have hag : ∀ t ∈ o.looksAt l.toArray, (putsIf (l.take n) 0 (fun i => listed.getD i false) v a0).tmps[t]? = (putsV (l.take n) 0 v a0).tmps[t]? := fun t ht' =>
   get_puts (l.take n) 0 a0 a0 rfl fun i o' ho' hd' => by
    have hin : i < n := by rw [← hlen]; exact (List.getElem?_eq_some_iff.1 ho').1
    have ho2 : l.toArray[i]? = some o' := by rw [List.getElem?_take, if_pos hin] at ho'; simpa using ho'
    rw [Nat.zero_add]
    exact hpre i (depB_looks hD hjn hin ho ho2 ht' hd')
  have step : ∀ u w', Below w.heap.size w w' → T j u w' → (A j = true → u = .pointer (some ⟨w.heap.size, 0, none⟩)) → wpAny P .any l.toArray Q (s + m) (listed.setIfInBounds j true) ((putsIf (l.take n) 0 (fun i => listed.getD i false) v a0).put o.dst u) w' := by
   intro u w' hw' hu' hun
   have e := put_at (v := v) (v' := fun i => if i = j then u else v i) (b := fun i => listed.getD i false) (b' := fun i => (listed.setIfInBounds j true).getD i false) (j := j) (u := u) (unl hju) (by simp [hu.1]; simpa using hjs) (by simp)
    (fun i hi => ⟨getD_set_ne false fun e => hi e.symm, by simp [hi]⟩) (l.take n) 0 a0 o hN (Nat.zero_le _) (by rw [Nat.sub_zero, List.getElem?_take, if_pos hjn]; exact hol)
   rw [e]
   refine ih _ _ w' (left_set (ops := l.toArray) hu.1 hjn hjs (unl hju) hl) (hc.set hj) ⟨by simpa using hu.1, fun k hk hks => by rw [getD_set_ne true (by omega)]; exact hu.2 k hk hks⟩ (hb.trans (hw'.mono hb.size)) (fun i hi hli => ?_) ?_
   ·by_cases e : i = j
    ·subst e; simpa using hu'
    ·rw [getD_set_ne false fun e' => e e'.symm] at hli
     simp only [if_neg e]
     exact hT i _ _ _ hw' (ht i hi hli)
   intro i k hi hk hik hAi hAk hli hlk
   by_cases e : i = j
   ·subst e
    have e2 : k ≠ i := fun e => hik e.symm
    rw [getD_set_ne false fun e' => e2 e'.symm] at hlk
    simp only [if_neg e2, if_pos]
    obtain ⟨b, hb1, hb2⟩ := hptr k hAk _ _ (ht k hk hlk)
    rw [hb1, hun hAi]
    intro he
    simp only [Value.pointer.injEq, Option.some.injEq, Addr.mk.injEq, and_true] at he
    omega
   ·rw [getD_set_ne false fun e' => e e'.symm] at hli
    by_cases e2 : k = j
    ·subst e2
     simp only [if_neg e, if_pos]
     obtain ⟨b, hb1, hb2⟩ := hptr i hAi _ _ (ht i hi hli)
     rw [hb1, hun hAk]
     intro he
     simp only [Value.pointer.injEq, Option.some.injEq, Addr.mk.injEq, and_true] at he
     omega
    ·rw [getD_set_ne false fun e' => e2 e'.symm] at hlk
     simp only [if_neg e, if_neg e2]
     exact hne i k hi hk hik hAi hAk hli hlk
  unfold wpOp
  simp only [ho]
  unfold TyAt at hty
  rw [← wanted_same hag] at hty
  by_cases hw : Region.wanted o (yielded l.toArray (putsIf (l.take n) 0 (fun i => listed.getD i false) v a0).tmps) = true
  ·simp only [hw, if_true] at hty ⊢
   refine .inl ?_
   unfold Oper.wp
   rw [exec_same (fun cs b => Region.noSelect_spec hsel j o cs b ho) hag]
   have hal : A j = true → ∀ u w', (execOp (putsV (l.take n) 0 v a0).eval o).run P w = .ok (.value u) w' → u = .pointer (some ⟨w.heap.size, 0, none⟩) := fun hA u w' hr => by
    obtain ⟨_, e, c, t, he, hal⟩ := hnew j o hol hA
    rw [alloc_run he hal] at hr
    simp only [Result.ok.injEq, Next.value.injEq] at hr
    exact hr.1.symm
   have hal2 : A j = true → ∀ w', (execOp (putsV (l.take n) 0 v a0).eval o).run P w ≠ .ok .skip w' := fun hA w' hr => by
    obtain ⟨_, e, c, t, he, hal⟩ := hnew j o hol hA
    rw [alloc_run he hal] at hr
    cases hr
   have hal3 : A j = true → ∀ f args w', (execOp (putsV (l.take n) 0 v a0).eval o).run P w ≠ .ok (.enter f args) w' := fun hA f args w' hr => by
    obtain ⟨_, e, c, t, he, hal⟩ := hnew j o hol hA
    rw [alloc_run he hal] at hr
    cases hr
   generalize (execOp (putsV (l.take n) 0 v a0).eval o).run P w = r at *
   cases r with
   | ok nx w' =>
    cases nx <;> simp only [tyUpon] at hty <;> simp only [Oper.upon]
    case value u => exact step u w' hty.1 hty.2 fun hA => hal hA u w' rfl
    case skip => exact step undef w' hty.1 hty.2 fun hA => absurd rfl (hal2 hA w')
    case enter f args =>
     obtain ⟨rfl, hcall⟩ := hty
     exact hcall.mono fun e w'' ⟨u, he, h1, h2⟩ => by subst he; exact step u w'' h2 h1 fun hA => absurd rfl (hal3 hA f args _)
   | halt x w' => simp only [tyUpon] at hty
  ·simp only [hw] at hty ⊢
   exact step undef w (Below.refl _ _) hty fun hA => by
    obtain ⟨hg, _⟩ := hnew j o hol hA
    exact absurd (by unfold Region.wanted; rw [hg]) hw
/-- **A region whose first n operations each give a value of a property; then the others, in their order.** -/
theorem region_ta (n : Nat) (T : Nat → Value → World → Prop) (A : Nat → Bool) {id : Nat} {Q : Exit → Act → World → Prop} {a : Act} {w : World} {l : List Oper} (hm : P.follows .mixedOrders = true) (hB : tyB n l = true) (hT : ∀ i, Stays (T i))
  (hops : ∀ j o, j < n → l[j]? = some o → ∀ v w1, Below w.drew.heap.size w.drew w1 → (∀ p ∈ predsOf .any l.toArray j, T p (v p) w1) → TyAt P l.toArray o (putsV (l.take n) 0 v a) w1 (T j))
  (hptr : ∀ j, A j = true → ∀ u w, T j u w → ∃ k, u = .pointer (some ⟨k, 0, none⟩) ∧ k < w.heap.size)
  (hnew : ∀ j o, l[j]? = some o → A j = true → o.guard = none ∧ ∃ e c t, o.op = .alloc e ∧ ∀ w, (Instr.alloc e true (.tuple #[])).run P w = .ok (.pointer (some ⟨w.heap.size, 0, none⟩)) (w.alloc (.cells c t)))
  (hend : ∀ v w1, Below w.drew.heap.size w.drew w1 → (∀ i, i < n → T i (v i) w1) → (∀ i j, i < n → j < n → i ≠ j → A i = true → A j = true → v i ≠ v j) → wpList P l.toArray Q (l.drop n) (putsV (l.take n) 0 v a) w1) : (Code.region id l.toArray true).wp P Q a w := by
 simp only [tyB, Bool.and_eq_true, decide_eq_true_eq] at hB
 obtain ⟨⟨⟨⟨⟨hs, hn⟩, hb⟩, hN⟩, hD⟩, hq⟩ := hB
 refine wp_region_any hm ?_
 have hrep : ∀ i, (Array.replicate l.length false).getD i false = false := fun i => by
  rcases Nat.lt_or_ge i l.length with h' | h' <;> simp [h']
 have h0 : closedL .any l.toArray (Array.replicate l.length false) := fun j o _ hl => by rw [hrep] at hl; cases hl
 have hleft : left n (Array.replicate l.length false) = n := by
  unfold left
  rw [List.countP_eq_length.2 fun i _ => by rw [hrep]; rfl, List.length_range]
 have h2 := wpAny_ta (A := A) (P := P) (s := l.length - n) (Q := Q) (a0 := a) hT hs hn hb hN hD hops hptr hnew (fun v w1 h1 h2 hdis => by
   have h3 := wpAny_of_seq (md := .any) (P := P) (Q' := Q) (l.drop n) n (canonL l.length n) (putsV (l.take n) 0 v a) w1 (fun j hj => by simp [List.getElem?_drop]) (by rw [List.length_drop]; exact hq) (hend v w1 h1 h2 hdis)
   rw [List.length_drop] at h3
   exact h3) n (Array.replicate l.length false) (fun _ => undef) w.drew hleft h0 ⟨by simp, fun j _ hj => by simp at hj; simp [hj]⟩ (Below.refl _ _) (fun i _ hl => by rw [hrep] at hl; cases hl) (fun i j _ _ _ _ _ hl => by rw [hrep] at hl; cases hl)
 rw [putsIf_none (l.take n) 0 a fun i _ _ => hrep i, Nat.sub_add_cancel hn] at h2
 simpa using h2
/-- region_ta, with its properties as a list; A: the operations that make boxes. -/
theorem region_tal (n : Nat) (L : List (Value → World → Prop)) (A : List Nat) {id : Nat} {Q : Exit → Act → World → Prop} {a : Act} {w : World} {l : List Oper} (hm : P.follows .mixedOrders = true) (hB : tyB n l = true) (hT : ∀ i, Stays (L.getD i (fun _ _ => True)))
  (hops : hopsR P l.toArray (fun i => L.getD i (fun _ _ => True)) w.drew (fun v => putsV (l.take n) 0 v a) (l.take n) 0)
  (hptr : ∀ j, A.contains j = true → ∀ u w, L.getD j (fun _ _ => True) u w → ∃ k, u = .pointer (some ⟨k, 0, none⟩) ∧ k < w.heap.size)
  (hnew : newR P l A)
  (hend : ∀ v w1, Below w.drew.heap.size w.drew w1 → (∀ i, i < n → L.getD i (fun _ _ => True) (v i) w1) → (∀ i j, i < n → j < n → i ≠ j → A.contains i = true → A.contains j = true → v i ≠ v j) → wpList P l.toArray Q (l.drop n) (putsV (l.take n) 0 v a) w1) : (Code.region id l.toArray true).wp P Q a w :=
 region_ta n (fun i => L.getD i (fun _ _ => True)) (fun i => A.contains i) hm hB hT (fun j o hj ho v w1 hb hp => by
  have := hops_of (l.take n) 0 hops j o (by rw [List.getElem?_take, if_pos hj]; exact ho) v w1 hb (by rw [Nat.zero_add]; exact hp)
  rwa [Nat.zero_add] at this) hptr (fun j o ho hA => newR_spec hnew j o ho hA) hend
end
end Go.Proofs.YthkodldppaccmaaGreatDoor
namespace Go.Proofs.YthkodldppaccmaaGreatDoor
open Go.RowKit Go.Proofs.YthkodldppaccmaaGreatDoor.Rx
theorem tyAt_no {P : Program} {ops : Array Oper} {o : Oper} {a : Act} {w : World} {T : Value → World → Prop} (hg : Region.wanted o (yielded ops a.tmps) = false) (h : T undef w) : TyAt P ops o a w T := by
 unfold TyAt
 rw [hg]; exact h
end Go.Proofs.YthkodldppaccmaaGreatDoor
namespace Go.Proofs.YthkodldppaccmaaGreatDoor
open Go.RowKit
attribute [local irreducible] lo hs sm s64 c64 d64 b64 mh ml pd pc qd qc val hiB str cmpI srD lz nb zl zh zs fe rowV tabV gv bsV
theorem run_eqlF (p q : Rat) (y : Bool) (hy : y = decide (p = q)) (W : World) : (binOp .eql 38 (fracV p) (fracV q)).run Tryz.prog W = .ok (.bool y) W := by
 rcases same_fr hy with hz | hz | hz | hz | hz | hz <;> simp [go_sem, hz]
end Go.Proofs.YthkodldppaccmaaGreatDoor
namespace Go.Proofs.YthkodldppaccmaaGreatDoor
open Go.RowKit
attribute [local irreducible] lo hs sm s64 c64 d64 b64 mh ml pd pc qd qc val hiB str cmpI srD lz nb zl zh zs fe qmade
section
variable {x y : List Rat} {n k m : Nat}
end
/-- Plain fractions as Go holds them. -/
def QR (p : Int × Int) : Prop := (-9223372036854775808 ≤ p.1 ∧ p.1 < 9223372036854775808) ∧ 0 ≤ p.2 ∧ p.2 < 4294967296
theorem qm_sz {p : Int × Int} (h : QR p) : Sz (qm p) 1 := by
 obtain ⟨⟨h1, h2⟩, h3, h4⟩ := h
 exact qmade_sz p.1 p.2.toNat h1 h2 (by omega)
theorem qv_rg {w : World} {v : Value} {ql : List (Int × Int)} (h : QV w v ql) : ∀ p ∈ ql, QR p := by
 intro p hp
 obtain ⟨ao, c, h1, h2, h3, h4⟩ := h
 obtain ⟨a, e, h5⟩ := h4 (List.length_pos_of_mem hp)
 exact h5.rg p hp
end Go.Proofs.YthkodldppaccmaaGreatDoor
namespace Go.Proofs.YthkodldppaccmaaGreatDoor
open Go.RowKit
theorem tabM_ext {r c : Nat} {f g : Nat → Nat → Rat} (h : ∀ i k, i < r → k < c → f i k = g i k) : tabM r c f = tabM r c g := by
 unfold tabM
 rw [tab_ext fun p hp => h _ _ (ix_row hp).1 (ix_row hp).2]
theorem tab_ent {x : Mx} {n k K : Nat} (h : GM x n k K) : tabM n k (ent x) = x := by
 obtain ⟨r, c, l⟩ := x
 obtain ⟨rfl, rfl, hl, -⟩ := h
 unfold tabM
 congr 1
 show tabV (r * c) (fun p => gv l (p / c * c + p % c)) = l
 replace hl : l.length = r * c := hl
 refine Eq.trans (tab_ext fun p hp => ?_) (tab_gv' hl)
 rw [Nat.mul_comm, Nat.div_add_mod]
theorem mx_ext {x : Mx} {n k K : Nat} {f : Nat → Nat → Rat} (h : GM x n k K) (he : ∀ i j, i < n → j < k → ent x i j = f i j) : x = tabM n k f := by
 rw [← tab_ent h]; exact tabM_ext he
theorem mx_eq {x y : Mx} {n k K M : Nat} (hx : GM x n k K) (hy : GM y n k M) : x = y ↔ x.l = y.l := by
 constructor
 ·intro h; rw [h]
 ·intro h
  obtain ⟨r, c, l⟩ := x
  obtain ⟨r2, c2, l2⟩ := y
  obtain ⟨e1, e2, -, -⟩ := hx
  obtain ⟨e3, e4, -, -⟩ := hy
  have a1 : r = n := e1
  have a2 : c = k := e2
  have a3 : r2 = n := e3
  have a4 : c2 = k := e4
  have a5 : l = l2 := h
  subst a1 a2 a3 a4 a5; rfl
theorem bs_swap (n m : Nat) (f : Nat → Nat → Rat) : bsV n (fun i => bsV m fun j => f i j) = bsV m fun j => bsV n fun i => f i j := by
 induction n with
 | zero => exact (bs_zero m).symm
 | succ n ih =>
  show bsV n (fun i => bsV m fun j => f i j) + bsV m (fun j => f n j) = bsV m fun j => bsV n (fun i => f i j) + f n j
  rw [ih, bs_add]
theorem bs_mul_r (n : Nat) (c : Rat) (f : Nat → Rat) : bsV n (fun i => f i * c) = bsV n f * c := by
 rw [Rat.mul_comm, ← bs_mul]
 exact bs_congr fun i _ => Rat.mul_comm _ _
theorem form_eq (n k : Nat) (x : Mx) (v w : List Rat) : formM n k x v w = bsV n fun i => bsV k fun t => gv v i * ent x i t * gv w t := by
 unfold formM
 refine bs_congr fun i hi => ?_
 rw [appV, gv_tab hi, ← bs_mul]
 exact bs_congr fun t _ => by grind
theorem form_tur (n k : Nat) (x : Mx) (v w : List Rat) : formM k n (turM n k x) w v = formM n k x v w := by
 rw [form_eq, form_eq, bs_swap]
 refine bs_congr fun i hi => bs_congr fun t ht => ?_
 rw [turM, ent_tab ht hi]; grind
theorem form_gram (n k : Nat) (x : Mx) (w : List Rat) : formM k k (mulM k n k (turM n k x) x) w w = dotL n (appV n k x w) (appV n k x w) := by
 rw [form_eq]
 unfold dotL
 rw [bs_congr (g := fun i => bsV k fun t => bsV n fun s => gv w i * ent x s i * (ent x s t * gv w t)) fun i hi => bs_congr fun t ht => by
  rw [mulM, ent_tab hi ht, ← bs_mul, ← bs_mul_r]
  exact bs_congr fun s hs => by rw [turM, ent_tab hi hs]; grind]
 rw [bs_congr (g := fun i => bsV n fun s => bsV k fun t => gv w i * ent x s i * (ent x s t * gv w t)) fun i hi => bs_swap _ _ _]
 rw [bs_swap]
 refine bs_congr fun s hs => ?_
 rw [appV, gv_tab hs, ← bs_mul_r]
 refine bs_congr fun i hi => ?_
 rw [← bs_mul]
 exact bs_congr fun t _ => by grind
theorem dot_nonneg (n : Nat) (v : List Rat) : 0 ≤ dotL n v v := bs_nonneg fun i _ => by
 rcases (Rat.le_total (a := 0) (b := gv v i)) with h | h
 ·exact Rat.mul_nonneg h h
 ·have h2 : 0 ≤ -gv v i := by grind
  have := Rat.mul_nonneg h2 h2
  grind
theorem sym_tur {x : Mx} {n K : Nat} (hx : GM x n n K) : SymM n x ↔ turM n n x = x := by
 constructor
 ·intro h; exact (mx_ext hx fun i j hi hj => h i j hi hj).symm
 ·intro h i j hi hj
  have : ent (turM n n x) j i = ent x j i := by rw [h]
  rw [← this, turM, ent_tab hj hi]
theorem sym_gram (n k : Nat) (x : Mx) : SymM k (mulM k n k (turM n k x) x) := fun i j hi hj => by
 rw [mulM, ent_tab hi hj, ent_tab hj hi]
 exact bs_congr fun t ht => by rw [turM, ent_tab hi ht, ent_tab hj ht]; grind
theorem form_sym {x : Mx} {n K : Nat} (hx : GM x n n K) (h : SymM n x) (v w : List Rat) : formM n n x v w = formM n n x w v := by
 have := form_tur n n x v w
 rw [(sym_tur hx).1 h] at this
 exact this.symm
end Go.Proofs.YthkodldppaccmaaGreatDoor
namespace Go.Proofs.YthkodldppaccmaaGreatDoor
open Go.RowKit
attribute [local irreducible] lo hs sm s64 c64 d64 b64 mh ml pd pc qd qc val hiB str cmpI srD lz nb zl zh zs fe rowV tabV gv bsV
abbrev PM (x : Mx) : Value → World → Prop := fun v w => MT w v x
theorem stays_pm (x : Mx) : Stays (PM x) := fun _ _ _ hb h => h.below hb
end Go.Proofs.YthkodldppaccmaaGreatDoor
namespace Go.Proofs.YthkodldppaccmaaGreatDoor
open Go.RowKit
attribute [local irreducible] lo hs sm s64 c64 d64 b64 mh ml pd pc qd qc val hiB str cmpI srD lz nb zl zh zs fe rowV tabV gv bsV
theorem new_mat (w : World) : (Instr.alloc 81 true (.tuple #[])).run Tryz.prog w = .ok (.pointer (some ⟨w.heap.size, 0, none⟩)) (w.alloc (.cells #[.int .i64 0, .int .i64 0, .slice none 0 0] 81)) := by
 simp [go_sem, Instr.alloc]
theorem fws_one {w : World} {g c n d : Nat} {x y : Value} {a : Option Addr} (h : Hd w g [x, y, .slice a n d]) : FWs w (.slice (some ⟨g, 0, none⟩) 1 c) [n] := by
 refine ⟨_, c, g, rfl, fun _ => rfl, fun i hi => ?_⟩
 obtain rfl : i = 0 := by simpa using hi
 exact ⟨a, d, h.cell 2 (by simp)⟩
end Go.Proofs.YthkodldppaccmaaGreatDoor
namespace Go.Proofs.YthkodldppaccmaaGreatDoor
open Go.RowKit
attribute [local irreducible] lo hs sm s64 c64 d64 b64 mh ml pd pc qd qc val hiB str cmpI srD lz nb zl zh zs fe rowV tabV gv bsV tabM
theorem qE_sz {ql : List (Int × Int)} (h : ∀ p ∈ ql, QR p) (i : Nat) : Sz (qE ql i) 1 := by
 unfold qE
 split
 ·rename_i hi
  rw [List.getD_eq_getElem?_getD, List.getElem?_eq_getElem hi]
  exact qm_sz (h _ (List.getElem_mem hi))
 ·exact szc 0 (by decide) (by decide)
theorem vecM_gv {ql : List (Int × Int)} (h : ∀ p ∈ ql, QR p) (n : Nat) : GV (vecM ql n) n 1 := GV.tab fun i _ => qE_sz h i
end Go.Proofs.YthkodldppaccmaaGreatDoor
namespace Go.Proofs.YthkodldppaccmaaGreatDoor
open Go.RowKit
attribute [local irreducible] lo hs sm s64 c64 d64 b64 mh ml pd pc qd qc val hiB str cmpI srD lz nb zl zh zs fe rowV tabV gv bsV tabM
theorem someM_gm {ql : List (Int × Int)} (h : ∀ p ∈ ql, QR p) (r c : Nat) : GM (someM ql r c) r c 1 := ⟨rfl, rfl, by unfold someM; exact tabV_len _ _, by unfold someM; exact tab_all fun i _ => qE_sz h i⟩
end Go.Proofs.YthkodldppaccmaaGreatDoor
namespace Go.Proofs.YthkodldppaccmaaGreatDoor
open Go.ChangeShapes Go.WideShapes Go.ChangeAt Go.RowKit
theorem laidOut : laidOutB Tryz.prog = true := by kernel_rfl
end Go.Proofs.YthkodldppaccmaaGreatDoor
namespace Go.Proofs.YthkodldppaccmaaGreatDoor
open Go.RowKit
attribute [local irreducible] lo hs sm s64 c64 d64 b64 mh ml pd pc qd qc val hiB str cmpI srD lz nb zl zh zs fe rowV tabV gv bsV turM mulM sumM oneM appV formM tabM dotL sumL mulL
set_option maxHeartbeats 16000000 in
set_option maxRecDepth 100000 in
theorem msides_w (zr zc : Int) (al : Option Addr) (nl cl sa sb : Nat) (ea : Int.tmod zr 7 = (sa : Int)) (eb : Int.tmod zc 7 = (sb : Int)) (sa4 : (sa : Int) ≤ 6) (sb4 : (sb : Int) ≤ 6) (w : World) :
  Calls Tryz.prog 42 #[.agg #[.int .u8 zr, .int .u8 zc, .slice al nl cl]] w fun e w' => e = .returned (.tuple #[.int .i64 (sa : Int), .int .i64 (sb : Int)]) ∧ Below w.heap.size w w' := by
 have hL0 : GL w w [] := GL.start w
 have hT : PTs w [] := PTs.nil w
 have sa0 : (0 : Int) ≤ (sa : Int) := Int.natCast_nonneg _
 have sb0 : (0 : Int) ≤ (sb : Int) := Int.natCast_nonneg _
 replace hT := (hT.new (.cells #[.int .u8 zr, .int .u8 zc, .slice al nl cl] 76))
 replace hL0 := (hL0.new rfl [.int .u8 zr, .int .u8 zc, .slice al nl cl] 76)
 generalize hweq : (w.alloc (.cells #[.int .u8 zr, .int .u8 zc, .slice al nl cl] 76)) = x1 at hL0 hT
 go_enter Tryz.func42, Tryz.ntmps42
 go_upto_region 1 with fail
 clear hweq
 obtain ⟨α, iα, F, hF1, hF2⟩ := cls x1
 have hq0 := cls_box hF1 hL0 _ _ List.mem_cons_self
 simp only [cellsC, and_true, Nat.zero_add, Nat.reduceAdd] at hq0
 refine region_qs 10 (C := fun w' => ∃ x, w' = F x) (by kernel_rfl) (by kernel_rfl) (cls_drew hF2) ?_
 simp only [List.take_succ_cons, List.take_zero, List.drop_succ_cons, List.drop_zero, List.take_nil, List.drop_nil]
 repeat (go_big_quiet_step (first | fail))
 refine wpQuiet_nil ?_
 rintro wq ⟨xq, rfl⟩
 replace hL0 := hL0.call (hF1 xq)
 replace hT := hT.call (hF1 xq)
 clear  hq0 hF2
 generalize F xq = x2 at hL0 hT ⊢
 clear hF1 xq iα F α
 go_wp2_with fail
 exact bodyPost_ret (v := .tuple #[.int .i64 (sa : Int), .int .i64 (sb : Int)]) (by simp [results, Tryz.results42, go_sem]) rfl ⟨rfl, hL0.bl⟩
set_option maxHeartbeats 16000000 in
set_option maxRecDepth 100000 in
theorem mMOf_w (zr zc : Int) (al : Option Addr) (nl cl sa sb : Nat) (x : Mx) (KA : World → Prop) (hKA : Keeps KA) (HS : ∀ (w : World), KA w → Calls Tryz.prog 43 #[.agg #[.int .u8 zr, .int .u8 zc, .slice al nl cl], .int .i64 (sa : Int), .int .i64 (sb : Int)] w fun e w' => ∃ pv, e = .returned pv ∧ MT w' pv x ∧ Below w.heap.size w w') (ea : Int.tmod zr 7 = (sa : Int)) (eb : Int.tmod zc 7 = (sb : Int)) (sa4 : (sa : Int) ≤ 6) (sb4 : (sb : Int) ≤ 6) (hx1 : (x.r : Int) = (sa : Int)) (hx2 : (x.c : Int) = (sb : Int)) (w : World) (kKA : KA w) :
  Calls Tryz.prog 57 #[.agg #[.int .u8 zr, .int .u8 zc, .slice al nl cl]] w fun e w' => ∃ pv, e = .returned pv ∧ MT w' pv x ∧ Below w.heap.size w w' := by
 replace hKA := Lib.hid hKA
 replace HS := Lib.hid HS
 have hL0 : GL w w [] := GL.start w
 have hT : PTs w [] := PTs.nil w
 have sa0 : (0 : Int) ≤ (sa : Int) := Int.natCast_nonneg _
 have sb0 : (0 : Int) ≤ (sb : Int) := Int.natCast_nonneg _
 replace hx1 := Lib.hid hx1
 replace hx2 := Lib.hid hx2
 replace hT := ((hT.new (.cells #[.int .u8 zr, .int .u8 zc, .slice al nl cl] 76)).new (.cells #[.int .i64 0, .int .i64 0, .slice none 0 0] 81))
 replace hL0 := ((hL0.new rfl [.int .u8 zr, .int .u8 zc, .slice al nl cl] 76).new (K := w.heap.size + 1) (szA _ _) [.int .i64 0, .int .i64 0, .slice none 0 0] 81)
 generalize hweq : ((w.alloc (.cells #[.int .u8 zr, .int .u8 zc, .slice al nl cl] 76)).alloc (.cells #[.int .i64 0, .int .i64 0, .slice none 0 0] 81)) = x1 at hL0 hT
 go_enter Tryz.func57, Tryz.ntmps57
 have hN0 := cells_of _ 0 [] rfl (hL0.get _ _ (List.mem_cons_of_mem _ List.mem_cons_self))
 simp only [cellsF, and_true, Nat.zero_add, Nat.reduceAdd] at hN0
 go_wp2_with fail
 clear hN0
 with_reducible refine Calls.mono (HS.out _ (hKA.out.at (hL0.bl) kKA)) ?_
 rintro e x2 ⟨v0, rfl, q0, hb⟩
 replace hL0 := hL0.call hb
 replace hT := hT.call hb
 clear hb hweq
 obtain ⟨g1, d1, g1c, rfl, hm1, hcp1⟩ := mt_form q0 hx1.out hx2.out
 replace hcp1 := Lib.hid hcp1
 replace hT := hT.cons hm1
 clear hm1
 clear q0
 have hT1 := hT.putM ((((Upd.refl (w.heap.size + 1) x2).setCell 0 (.int .i64 (sa : Int))).setCell 1 (.int .i64 (sb : Int))).setCell 2 (.slice g1 d1 g1c)) (hL0.get _ _ List.mem_cons_self) (by intro n; simp)
 have hA := hL0.fc
 simp only [fcG, cellsF, neK, and_true, ne_eq, Nat.zero_add, Nat.reduceAdd] at hA
 have hP := hL0.put 0 (w.heap.size + 1) _ rfl [.int .i64 (sa : Int), .int .i64 (sb : Int), .slice g1 d1 g1c] rfl
 simp only [setAll, List.set_cons_zero, List.set_cons_succ] at hP
 generalize hput1 : (((x2.setCell ⟨w.heap.size + 1, 0, none⟩ (.int .i64 (sa : Int))).setCell ⟨w.heap.size + 1, 1, none⟩ (.int .i64 (sb : Int))).setCell ⟨w.heap.size + 1, 2, none⟩ (.slice g1 d1 g1c)) = x3 at hP hT1
 have hB1 := hP.fc
 simp only [fcG, cellsF, neK, and_true, ne_eq, Nat.zero_add, Nat.reduceAdd] at hB1
 replace hL0 := hP
 replace hT := hT1
 clear hT1
 go_wp2_with fail
 exact bodyPost_ret (v := .agg #[.int .i64 (sa : Int), .int .i64 (sb : Int), .slice g1 d1 g1c]) (by simp [results, Tryz.results57, go_sem, hB1]) rfl ⟨_, rfl, (mt_of (hT.get List.mem_cons_self) hcp1.out hx1.out hx2.out), hL0.bl⟩
end Go.Proofs.YthkodldppaccmaaGreatDoor
namespace Go.Proofs.YthkodldppaccmaaGreatDoor
open Go.RowKit
attribute [local irreducible] lo hs sm s64 c64 d64 b64 mh ml pd pc qd qc val hiB str cmpI srD lz nb zl zh zs fe rowV tabV gv bsV tabM
/-- One element of the upper triangle, at both places. -/
def stS (ql : List (Int × Int)) (n i k j : Nat) (l : List Rat) : List Rat := if j < ql.length then (l.set (i * n + k) (qE ql j)).set (k * n + i) (qE ql j) else l
def inS (ql : List (Int × Int)) (n i j : Nat) : Nat → List Rat → List Rat
 | 0, l => l
 | m + 1, l => stS ql n i (i + m) (j + m) (inS ql n i j m l)
def outS (ql : List (Int × Int)) (n : Nat) : Nat → List Rat × Nat
 | 0 => (List.replicate (n * n) 0, 0)
 | i + 1 => (inS ql n i (outS ql n i).2 (n - i) (outS ql n i).1, (outS ql n i).2 + (n - i))
def symM (ql : List (Int × Int)) (n : Nat) : Mx := ⟨n, n, (outS ql n n).1⟩
/-- Of the right length, of numbers of a size, equal to its transpose. -/
structure SyL (n : Nat) (l : List Rat) : Prop where
 len : l.length = n * n
 sz : ∀ q ∈ l, Sz q 1
 sy : ∀ a b, a < n → b < n → gv l (a * n + b) = gv l (b * n + a)
theorem gv_set {l : List Rat} {i k : Nat} {q : Rat} (hi : i < l.length) (hk : k < l.length) : gv (l.set i q) k = if i = k then q else gv l k := by
 rw [gv_get (by rw [List.length_set]; exact hk), List.getElem_set]
 split
 ·rfl
 ·rw [gv_get hk]
theorem ix_inj {n a b i k : Nat} (hb : b < n) (hk : k < n) (h : a * n + b = i * n + k) : a = i ∧ b = k := by
 have h1 := congrArg (· / n) h
 have h2 := congrArg (· % n) h
 simp only [ix_div hb, ix_div hk, ix_mod hb, ix_mod hk] at h1 h2
 exact ⟨h1, h2⟩
theorem stS_len (ql : List (Int × Int)) (n i k j : Nat) (l : List Rat) : (stS ql n i k j l).length = l.length := by
 unfold stS
 split
 ·rw [List.length_set, List.length_set]
 ·rfl
theorem inS_len (ql : List (Int × Int)) (n i j m : Nat) (l : List Rat) : (inS ql n i j m l).length = l.length := by
 induction m with
 | zero => rfl
 | succ m ih => show (stS _ _ _ _ _ _).length = _; rw [stS_len, ih]
theorem outS_len (ql : List (Int × Int)) (n i : Nat) : (outS ql n i).1.length = n * n := by
 induction i with
 | zero => exact List.length_replicate
 | succ i ih => show (inS _ _ _ _ _ _).length = _; rw [inS_len, ih]
theorem SyL.step {ql : List (Int × Int)} (hq : ∀ p ∈ ql, QR p) {n i k j : Nat} {l : List Rat} (h : SyL n l) (hi : i < n) (hk : k < n) : SyL n (stS ql n i k j l) := by
 refine ⟨by rw [stS_len, h.len], fun q hm => ?_, fun a b ha hb => ?_⟩
 ·unfold stS at hm
  split at hm
  ·rcases List.mem_or_eq_of_mem_set hm with hm | rfl
   ·rcases List.mem_or_eq_of_mem_set hm with hm | rfl
    ·exact h.sz q hm
    ·exact qE_sz hq j
   ·exact qE_sz hq j
  ·exact h.sz q hm
 ·unfold stS
  split
  ·have l1 := ix_lt hi hk
   have l2 := ix_lt hk hi
   have l3 := ix_lt ha hb
   have l4 := ix_lt hb ha
   rw [gv_set (by rw [List.length_set, h.len]; exact l2) (by rw [List.length_set, h.len]; exact l3), gv_set (by rw [h.len]; exact l1) (by rw [h.len]; exact l3), gv_set (by rw [List.length_set, h.len]; exact l2) (by rw [List.length_set, h.len]; exact l4), gv_set (by rw [h.len]; exact l1) (by rw [h.len]; exact l4), h.sy a b ha hb]
   by_cases e1 : k * n + i = a * n + b
   ·obtain ⟨rfl, rfl⟩ := ix_inj hi hb e1
    rw [if_pos rfl]
    by_cases e2 : k * n + i = i * n + k
    ·rw [if_pos e2]
    ·rw [if_neg e2, if_pos rfl]
   ·rw [if_neg e1]
    by_cases e3 : i * n + k = a * n + b
    ·obtain ⟨rfl, rfl⟩ := ix_inj hk hb e3
     rw [if_pos rfl, if_pos rfl]
    ·rw [if_neg e3]
     have e4 : ¬ k * n + i = b * n + a := fun e => by
      obtain ⟨rfl, rfl⟩ := ix_inj hi ha e
      exact e3 rfl
     have e5 : ¬ i * n + k = b * n + a := fun e => by
      obtain ⟨rfl, rfl⟩ := ix_inj hk ha e
      exact e1 rfl
     rw [if_neg e4, if_neg e5]
  ·exact h.sy a b ha hb
theorem SyL.inn {ql : List (Int × Int)} (hq : ∀ p ∈ ql, QR p) {n i j m : Nat} {l : List Rat} (h : SyL n l) (hi : i < n) (hm : i + m ≤ n) : SyL n (inS ql n i j m l) := by
 induction m with
 | zero => exact h
 | succ m ih => exact (ih (by omega)).step hq hi (by omega)
theorem SyL.out {ql : List (Int × Int)} (hq : ∀ p ∈ ql, QR p) {n i : Nat} (hi : i ≤ n) : SyL n (outS ql n i).1 := by
 induction i with
 | zero => exact ⟨List.length_replicate, fun q hm => by rw [(List.mem_replicate.1 hm).2]; exact szc 0 (by decide) (by decide), fun a b ha hb => by
   show gv (List.replicate (n * n) 0) _ = gv (List.replicate (n * n) 0) _
   rw [gv_get (by rw [List.length_replicate]; exact ix_lt ha hb), gv_get (by rw [List.length_replicate]; exact ix_lt hb ha), List.getElem_replicate, List.getElem_replicate]⟩
 | succ i ih => exact (ih (by omega)).inn hq (by omega) (by omega)
theorem symM_gm {ql : List (Int × Int)} (hq : ∀ p ∈ ql, QR p) (n : Nat) : GM (symM ql n) n n 1 ∧ SymM n (symM ql n) := by
 have h := SyL.out hq (Nat.le_refl n)
 exact ⟨⟨rfl, rfl, h.len, h.sz⟩, fun a b ha hb => h.sy a b ha hb⟩
set_option maxHeartbeats 4000000 in
set_option maxRecDepth 100000 in
theorem msymm_w (ql : List (Int × Int)) (n nl c : Nat) (al : Option Addr) (hn : n ≤ 20) (hnl : nl ≤ 1000) (w : World) (hv : QV w (.slice al nl c) ql) :
  Calls Tryz.prog 73 #[.int .i64 (n : Int), .slice al nl c] w fun xe w' => ∃ u, xe = .returned u ∧ MT w' u (symM ql n) ∧ Below w.heap.size w w' := by
 obtain ⟨s, hs9⟩ : ∃ s, s = n * n := ⟨_, rfl⟩
 have hs4 : s ≤ 400 := by rw [hs9]; exact Nat.mul_le_mul hn hn
 have hmul : (n : Int) * (n : Int) = (s : Int) := by rw [hs9, Int.natCast_mul]
 have hs1 : (s : Int) ≤ 400 := by omega
 have hs0 : (0 : Int) ≤ (s : Int) := Int.natCast_nonneg _
 have hnl2 : nl = ql.length := (qv_len hv).symm
 have hnb : (nl : Int) ≤ 1000 := by omega
 have hmk := fun W => makeM W (s : Int) s rfl (by omega)
 replace hs9 := Lib.hid hs9
 replace hn := Lib.hid hn
 replace hnl2 := Lib.hid hnl2
 have hlo := fun i => (show (outS ql n i).1.length = s by rw [outS_len, hs9.out])
 have hli := fun i j m l => inS_len ql n i j m l
 replace hlo := Lib.hid hlo
 replace hli := Lib.hid hli
 have hL0 : GL w w [] := GL.start w
 replace hL0 := hL0.new rfl [.int .i64 0, .int .i64 0, .slice none 0 0] 81
 generalize hweq : w.alloc (.cells #[.int .i64 0, .int .i64 0, .slice none 0 0] 81) = x1 at hL0
 have hx1 : w.heap.size < x1.heap.size := by have := (hL0.get _ _ List.mem_cons_self).lt; exact this
 replace hL0 := hL0.new (K := x1.heap.size) rfl (frCs (List.replicate s 0)) 38
 generalize hweq2 : x1.alloc (.cells (frCs (List.replicate s 0)).toArray 38) = x2 at hL0
 have hx2 : x1.heap.size < x2.heap.size := by have := (hL0.get _ _ List.mem_cons_self).lt; exact this
 replace hL0 := hL0.new (K := x2.heap.size) rfl [.int .i64 0, .int .i64 0, .slice none 0 0] 81
 generalize hweq3 : x2.alloc (.cells #[.int .i64 0, .int .i64 0, .slice none 0 0] 81) = x3a at hL0
 have hA := cells_of _ 0 [] rfl (hL0.get _ _ List.mem_cons_self)
 simp only [cellsF, and_true, Nat.zero_add, Nat.reduceAdd] at hA
 have zf := (hL0.get _ _ List.mem_cons_self).frz
 have hPt := hL0.put 0 (x2.heap.size) _ rfl [.int .i64 (n : Int), .int .i64 (n : Int), .slice (some ⟨x1.heap.size, 0, none⟩) s s] rfl
 simp only [setAll, List.set_cons_zero, List.set_cons_succ] at hPt
 generalize hput0 : (((x3a.setCell ⟨x2.heap.size, 0, none⟩ (.int .i64 (n : Int))).setCell ⟨x2.heap.size, 1, none⟩ (.int .i64 (n : Int))).setCell ⟨x2.heap.size, 2, none⟩ (.slice (some ⟨x1.heap.size, 0, none⟩) s s)) = x3 at hPt
 clear hL0
 have hL0 := hPt
 clear hPt
 go_enter Tryz.func73, Tryz.ntmps73
 go_wp2_with fail
 clear hweq hweq2 hweq3 hput0 hA zf hmk
 obtain ⟨g, hg⟩ : ∃ g, g = x1.heap.size := ⟨_, rfl⟩
 obtain ⟨b, hb⟩ : ∃ b, b = x2.heap.size := ⟨_, rfl⟩
 rw [← hg, ← hb] at hL0 ⊢
 have hgb := Lib.hid (show w.heap.size < g ∧ g < b by omega)
 clear hx1 hx2 hg hb
 have hL9 : GL w x3 [(b, [.int .i64 (n : Int), .int .i64 (n : Int), .slice (some ⟨g, 0, none⟩) s s]), (g, frCs ((outS ql n 0).1)), (w.heap.size, [.int .i64 0, .int .i64 0, .slice none 0 0])] := by show GL w x3 [(b, [.int .i64 (n : Int), .int .i64 (n : Int), .slice (some ⟨g, 0, none⟩) s s]), (g, frCs (List.replicate (n * n) 0)), (w.heap.size, [.int .i64 0, .int .i64 0, .slice none 0 0])]; rw [← hs9.out]; exact hL0
 clear hL0
 have hL0 := hL9
 clear hL9
 go_loopg [6, 7] n (fun gk av iv wr => ∃ (i : Nat) (zi zj : Int), i + gk = n ∧ av = .int .i64 zj ∧ iv = .int .i64 zi ∧ zi = (i : Int) ∧ zj = (((outS ql n i).2 : Nat) : Int) ∧ (outS ql n i).2 ≤ i * n ∧ GL w wr [(b, [.int .i64 (n : Int), .int .i64 (n : Int), .slice (some ⟨g, 0, none⟩) s s]), (g, frCs ((outS ql n i).1)), (w.heap.size, [.int .i64 0, .int .i64 0, .slice none 0 0])])
 case atStart => exact ⟨0, 0, 0, Nat.zero_add n, by first | rfl | go_num, by first | rfl | go_num, rfl, rfl, Nat.zero_le _, hL0⟩
 case round =>
  clear hL0
  obtain ⟨i, zi, zj, hik, rfl, rfl, hzi, hzj, hjb, hL0⟩ := hrel
  have hnn := hn.out
  rcases Nat.lt_or_ge i n with hin | hin
  ·subst hzi
   have k1 : (i : Int) < (n : Int) := by omega
   have k0 : (0 : Int) ≤ (i : Int) := Int.natCast_nonneg _
   have kb : (i : Int) ≤ 1000 := by omega
   have hp4 : i * n ≤ s := by rw [hs9.out]; exact Nat.mul_le_mul_right _ (Nat.le_of_lt hin)
   have hout := Lib.hid (show outS ql n (i + 1) = (inS ql n i (outS ql n i).2 (n - i) (outS ql n i).1, (outS ql n i).2 + (n - i)) from rfl)
   have hl0 := Lib.hid (hlo.out i)
   obtain ⟨l0, hl9⟩ : ∃ l0, l0 = (outS ql n i).1 := ⟨_, rfl⟩
   obtain ⟨j0, hj9⟩ : ∃ j0, j0 = (outS ql n i).2 := ⟨_, rfl⟩
   rw [← hl9, ← hj9] at hout
   rw [← hl9] at hL0 hl0
   rw [← hj9] at hzj hjb
   clear hl9 hj9
   obtain ⟨p, hp⟩ : ∃ p, p = i * n := ⟨_, rfl⟩
   have hmu2 : (i : Int) * (n : Int) = (p : Int) := by rw [hp, Int.natCast_mul]
   have hpn := Lib.hid (show (i + 1) * n = p + n by rw [hp, Nat.add_mul, Nat.one_mul])
   rw [← hp] at hjb hp4
   have hpk := Lib.hid (show ∀ k, k < n → p + k < s by intro k hk; rw [hp, hs9.out]; exact ix_lt hin hk)
   replace hp := Lib.hid hp
   have hjb2 := Lib.hid hjb
   subst hzj
   clear hjb
   go_wp2_with fail
   obtain ⟨wo, hwo⟩ : ∃ wo, wo = wr := ⟨_, rfl⟩
   subst hwo
   go_loopg [6, 8] (n - i) (fun gk av kv wr2 => ∃ (m : Nat) (zk zj : Int), m + gk = n - i ∧ av = .int .i64 zj ∧ kv = .int .i64 zk ∧ zk = ((i + m : Nat) : Int) ∧ zj = ((j0 + m : Nat) : Int) ∧ GL w wr2 [(b, [.int .i64 (n : Int), .int .i64 (n : Int), .slice (some ⟨g, 0, none⟩) s s]), (g, frCs (inS ql n i j0 m l0)), (w.heap.size, [.int .i64 0, .int .i64 0, .slice none 0 0])])
   case atStart => exact ⟨0, _, _, by omega, rfl, rfl, by simp, by simp, hL0⟩
   case round =>
    clear hL0
    obtain ⟨m, zk, zj, hmk2, rfl, rfl, hzk, hzj, hL0⟩ := hrel
    have hjj := hjb2.out
    have hr0 := hli.out i j0 m l0
    rw [hl0.out] at hr0
    have hin2 := Lib.hid (show inS ql n i j0 (m + 1) l0 = stS ql n i (i + m) (j0 + m) (inS ql n i j0 m l0) from rfl)
    obtain ⟨row, hrow⟩ : ∃ row, row = inS ql n i j0 m l0 := ⟨_, rfl⟩
    obtain ⟨k, hk⟩ : ∃ k, k = i + m := ⟨_, rfl⟩
    obtain ⟨j, hj⟩ : ∃ j, j = j0 + m := ⟨_, rfl⟩
    rw [← hrow] at hL0 hr0
    have hrow9 := Lib.hid hrow
    rw [← hrow, ← hk, ← hj] at hin2
    rw [← hk] at hzk
    rw [← hj] at hzj
    have rowlen := Lib.hid hr0
    clear hrow hr0
    rcases Nat.lt_or_ge k n with hkn | hkn
    ·subst hzk
     subst hzj
     have m1 : (k : Int) < (n : Int) := by omega
     have m0 : (0 : Int) ≤ (k : Int) := Int.natCast_nonneg _
     have mb : (k : Int) ≤ 1000 := by omega
     have j1 : (0 : Int) ≤ (j : Int) := Int.natCast_nonneg _
     have jb : (j : Int) ≤ 1000 := by omega
     replace hk := Lib.hid hk
     replace hj := Lib.hid hj
     rcases Nat.lt_or_ge j nl with hjn | hjn
     ·have k2 : (j : Int) < (nl : Int) := by omega
      obtain ⟨ao, cc, e0, h1, h2, h3⟩ := id hv
      obtain ⟨rfl, hlen, rfl⟩ : al = ao ∧ nl = ql.length ∧ c = cc := by simpa using e0
      obtain ⟨a, rfl, hsl⟩ := h3 (by omega)
      replace hsl := Lib.hid hsl
      have hjl := Lib.hid (show j < ql.length by omega)
      obtain ⟨pq, hpq⟩ : ∃ pq, pq = ql[j]'hjl.out := ⟨_, rfl⟩
      obtain ⟨⟨b1, b2⟩, b3, b4⟩ := hsl.out.rg pq (by rw [hpq]; exact List.getElem_mem hjl.out)
      have HQ := qof_any pq.1 pq.2 b1 b2 b3 b4
      obtain ⟨q, hqq⟩ : ∃ q, q = qm pq := ⟨_, rfl⟩
      rw [show qmade pq.1 pq.2.toNat = qm pq from rfl, ← hqq] at HQ
      rw [hpq, ← qE_in hjl.out] at hqq
      obtain ⟨zn, hz1⟩ : ∃ z, pq.1 = z := ⟨_, rfl⟩
      obtain ⟨zd, hz2⟩ : ∃ z, pq.2 = z := ⟨_, rfl⟩
      rw [hz1, hz2] at HQ
      rw [hpq] at hz1 hz2
      clear hpq
      replace hz1 := Lib.hid hz1
      replace hz2 := Lib.hid hz2
      replace HQ := Lib.hid HQ
      have hin3 := Lib.hid (show inS ql n i j0 (m + 1) l0 = (row.set (p + k) q).set (k * n + i) q by rw [hin2.out]; unfold stS; rw [if_pos hjl.out, hp.out, hqq])
      clear b1 b2 b3 b4 e0 h1 h2 h3 hlen hqq hin2
      obtain ⟨r, hr⟩ : ∃ r, r = k * n := ⟨_, rfl⟩
      have hmu3 : (k : Int) * (n : Int) = (r : Int) := by rw [hr, Int.natCast_mul]
      have hri0 : r + i < s := by rw [hr, hs9.out]; exact ix_lt hkn hin
      rw [← hr] at hin3
      have hpk0 := hpk.out k hkn
      have s1 : (p : Int) + (k : Int) < (s : Int) := by omega
      have s2 : (0 : Int) ≤ (p : Int) + (k : Int) := by omega
      have s3 : (p : Int) + (k : Int) ≤ 400 := by omega
      have s4 : (r : Int) + (i : Int) < (s : Int) := by omega
      have s5 : (0 : Int) ≤ (r : Int) + (i : Int) := by omega
      have s6 : (r : Int) + (i : Int) ≤ 400 := by omega
      have s7 : (p : Int) ≤ 400 := by omega
      have s8 : (r : Int) ≤ 400 := by omega
      have hpos := Lib.hid hpk0
      have hri := Lib.hid hri0
      clear hr hpk0 hri0
      go_upto_region 10 with fail
      have e1 := (hsl.out.below hL0.bl).c0 j hjl.out
      have e2 := (hsl.out.below hL0.bl).c1 j hjl.out
      rw [hz1.out] at e1
      rw [hz2.out, add_one] at e2
      obtain ⟨α, iα, F, hF1, hF2⟩ := cls wr
      have hc0 := cells_of _ 0 [] rfl (hL0.get _ _ List.mem_cons_self)
      simp only [cellsF, and_true, Nat.zero_add, Nat.reduceAdd] at hc0
      have q0 := fun yz => keepsC (hF1 yz) hc0.2.2
      have q1 := fun yz => keepsC (hF1 yz) e1
      have q2 := fun yz => keepsC (hF1 yz) e2
      clear hc0 e1 e2
      refine region_qs 13 (C := fun w' => ∃ x, w' = F x) (by kernel_rfl) (by kernel_rfl) (cls_drew hF2) ?_
      simp only [List.take_succ_cons, List.take_zero, List.drop_succ_cons, List.drop_zero, List.take_nil, List.drop_nil]
      repeat (go_big_quiet_step (first | fail | (go_at_call 15; with_reducible exact cls_call hF1 hF2 HQ.out _)))
      refine wpQuiet_nil ?_
      rintro wq ⟨xq, rfl⟩
      replace hL0 := hL0.call (hF1 xq)
      clear q0 q1 q2 hF2
      generalize F xq = y3a at hL0 ⊢
      clear hF1 xq iα F α
      have zh := hL0.get _ _ (List.mem_cons_of_mem _ List.mem_cons_self)
      obtain ⟨z0, z1, z2, z3, z4⟩ := (hd_fs zh).cell (p + k) (by rw [rowlen.out]; exact hpos.out)
      have zz := zh.frz
      clear zh
      have hPt := hL0.putF 1 g row rfl (p + k) q (by rw [rowlen.out]; exact hpos.out)
      simp only [List.set_cons_zero, List.set_cons_succ] at hPt
      generalize hput10 : (((((y3a.setCell ⟨g, (p + k) * 5, none⟩ (.int .u64 ((zl q.num : Nat) : Int))).setCell ⟨g, (p + k) * 5 + 1, none⟩ (.string (zh q.num))).setCell ⟨g, (p + k) * 5 + 2, none⟩ (.bool (zs q.num))).setCell ⟨g, (p + k) * 5 + 3, none⟩ (.int .u64 ((lo (fe q) : Nat) : Int))).setCell ⟨g, (p + k) * 5 + 4, none⟩ (.string (hs (fe q)))) = y3 at hPt
      clear hL0
      have hL0 := hPt
      clear hPt
      have row2len := Lib.hid (show (row.set (p + k) q).length = s by rw [List.length_set]; exact rowlen.out)
      obtain ⟨row2, hrow2⟩ : ∃ row2, row2 = row.set (p + k) q := ⟨_, rfl⟩
      rw [← hrow2] at hL0 hin3 row2len
      clear hrow2
      go_upto_region 11 with fail
      clear z0 z1 z2 z3 z4 zz hput10
      have e1 := (hsl.out.below hL0.bl).c0 j hjl.out
      have e2 := (hsl.out.below hL0.bl).c1 j hjl.out
      rw [hz1.out] at e1
      rw [hz2.out, add_one] at e2
      obtain ⟨α, iα, F, hF1, hF2⟩ := cls y3
      have hc0 := cells_of _ 0 [] rfl (hL0.get _ _ List.mem_cons_self)
      simp only [cellsF, and_true, Nat.zero_add, Nat.reduceAdd] at hc0
      have q0 := fun yz => keepsC (hF1 yz) hc0.2.2
      have q1 := fun yz => keepsC (hF1 yz) e1
      have q2 := fun yz => keepsC (hF1 yz) e2
      clear hc0 e1 e2
      refine region_qs 13 (C := fun w' => ∃ x, w' = F x) (by kernel_rfl) (by kernel_rfl) (cls_drew hF2) ?_
      simp only [List.take_succ_cons, List.take_zero, List.drop_succ_cons, List.drop_zero, List.take_nil, List.drop_nil]
      repeat (go_big_quiet_step (first | fail | (go_at_call 15; with_reducible exact cls_call hF1 hF2 HQ.out _)))
      refine wpQuiet_nil ?_
      rintro wq ⟨xq, rfl⟩
      replace hL0 := hL0.call (hF1 xq)
      clear q0 q1 q2 hF2
      generalize F xq = y6a at hL0 ⊢
      clear hF1 xq iα F α
      have zh := hL0.get _ _ (List.mem_cons_of_mem _ List.mem_cons_self)
      obtain ⟨z0, z1, z2, z3, z4⟩ := (hd_fs zh).cell (r + i) (by rw [row2len.out]; exact hri.out)
      have zz := zh.frz
      clear zh
      have hPt := hL0.putF 1 g row2 rfl (r + i) q (by rw [row2len.out]; exact hri.out)
      simp only [List.set_cons_zero, List.set_cons_succ] at hPt
      generalize hput11 : (((((y6a.setCell ⟨g, (r + i) * 5, none⟩ (.int .u64 ((zl q.num : Nat) : Int))).setCell ⟨g, (r + i) * 5 + 1, none⟩ (.string (zh q.num))).setCell ⟨g, (r + i) * 5 + 2, none⟩ (.bool (zs q.num))).setCell ⟨g, (r + i) * 5 + 3, none⟩ (.int .u64 ((lo (fe q) : Nat) : Int))).setCell ⟨g, (r + i) * 5 + 4, none⟩ (.string (hs (fe q)))) = y6 at hPt
      clear hL0
      have hL0 := hPt
      clear hPt
      rw [← hin3.out] at hL0
      go_wp2_with fail
      go_roundg (n - i - (m + 1))
      case measure => have := hk.out; omega
      case rel => exact ⟨m + 1, _, _, by have := hk.out; omega, by first | rfl | go_num, by first | rfl | go_num, by have := hk.out; omega, by have := hj.out; omega, hL0⟩
     ·have k2 : ¬ (j : Int) < (nl : Int) := by omega
      rw [show row = inS ql n i j0 (m + 1) l0 by rw [hin2.out]; unfold stS; rw [if_neg (by have := hnl2.out; omega)]] at hL0
      go_wp2_with fail
      go_roundg (n - i - (m + 1))
      case measure => have := hk.out; omega
      case rel => exact ⟨m + 1, _, _, by have := hk.out; omega, by first | rfl | go_num, by first | rfl | go_num, by have := hk.out; omega, by have := hj.out; omega, hL0⟩
    ·obtain rfl : k = n := by omega
     subst hzk
     subst hzj
     have m1 : ¬ (k : Int) < (k : Int) := by omega
     have hme : m = k - i := by omega
     have hjn := Lib.hid (show j = (outS ql k (i + 1)).2 by rw [hout.out]; show j = j0 + (k - i); omega)
     have hrn := Lib.hid (show row = (outS ql k (i + 1)).1 by rw [hout.out, ← hme]; exact hrow9.out)
     rw [hrn.out] at hL0
     have hb9 := Lib.hid (show (outS ql k (i + 1)).2 ≤ (i + 1) * k by rw [← hjn.out, hpn.out]; omega)
     replace hk := Lib.hid hk
     replace hj := Lib.hid hj
     clear hin2
     go_wp2_with fail
     go_roundg (k - (i + 1))
     case measure => omega
     case rel => exact ⟨i + 1, _, _, by omega, by first | rfl | go_num, by first | rfl | go_num, by omega, by rw [hjn.out], hb9.out, hL0⟩
  ·obtain rfl : i = n := by omega
   subst hzi
   subst hzj
   have k1 : ¬ (i : Int) < (i : Int) := by omega
   have hA := cells_of _ 0 [] rfl (hL0.get _ _ List.mem_cons_self)
   simp only [cellsF, and_true, Nat.zero_add, Nat.reduceAdd] at hA
   have hC := cells_of _ 0 [] rfl (hL0.get _ _ (List.mem_cons_of_mem _ (List.mem_cons_of_mem _ List.mem_cons_self)))
   simp only [cellsF, and_true, Nat.zero_add, Nat.reduceAdd] at hC
   have zC := (hL0.get _ _ (List.mem_cons_of_mem _ (List.mem_cons_of_mem _ List.mem_cons_self))).frz
   have hPt := hL0.put 2 (w.heap.size) _ rfl [.int .i64 (i : Int), .int .i64 (i : Int), .slice (some ⟨g, 0, none⟩) s s] rfl
   simp only [setAll, List.set_cons_zero, List.set_cons_succ] at hPt
   generalize hput1 : (((wr.setCell ⟨w.heap.size, 0, none⟩ (.int .i64 (i : Int))).setCell ⟨w.heap.size, 1, none⟩ (.int .i64 (i : Int))).setCell ⟨w.heap.size, 2, none⟩ (.slice (some ⟨g, 0, none⟩) s s)) = y9 at hPt
   have hB1 := cells_of _ 0 [] rfl (hPt.get _ _ (List.mem_cons_of_mem _ (List.mem_cons_of_mem _ List.mem_cons_self)))
   simp only [cellsF, and_true, Nat.zero_add, Nat.reduceAdd] at hB1
   have hcq : CQ y9 (.slice (some ⟨g, 0, none⟩) s s) (outS ql i i).1 := ⟨.inr ⟨g, s, by rw [hlo.out], hd_fs (hPt.get _ _ (List.mem_cons_of_mem _ List.mem_cons_self))⟩, _, _, _, rfl, Nat.le_refl _⟩
   replace hcq := Lib.hid hcq
   clear hL0
   go_wp2_with fail
   exact bodyPost_ret (v := .agg #[.int .i64 (i : Int), .int .i64 (i : Int), .slice (some ⟨g, 0, none⟩) s s]) (by simp [results, Tryz.results73, go_sem, hB1]) rfl ⟨_, rfl, ⟨_, rfl, hcq.out⟩, hPt.bl⟩
end Go.Proofs.YthkodldppaccmaaGreatDoor
namespace Go.Proofs.YthkodldppaccmaaGreatDoor
open Go.RowKit
attribute [local irreducible] lo hs sm s64 c64 d64 b64 mh ml pd pc qd qc val hiB str cmpI srD lz nb zl zh zs fe rowV tabV gv bsV turM mulM sumM oneM appV formM tabM dotL sumL mulL
set_option maxHeartbeats 16000000 in
set_option maxRecDepth 100000 in
theorem mforms_l1 (zr zc : Int) (la av aw al : Option Addr) (lx ly nv cv nw cw nl cl : Nat)  (HFw : ∀ (p0 : Value) (w : World), FWs w p0 ([lx]) → Calls Tryz.prog 40 #[p0] w fun e w' => e = .returned (.bool false) ∧ Below w.heap.size w w') (KT : World → Prop) (hKT : Keeps KT) (HW : ∀ w, KT w → Calls Tryz.prog 41 #[] w fun xe w' => xe = .returned (.bool true) ∧ Below w.heap.size w w') (w : World) (kKT : KT w) :
  Calls Tryz.prog 8 #[.agg #[.int .u8 zr, .int .u8 zc, .slice la lx ly], .slice av nv cv, .slice aw nw cw, .slice al nl cl] w fun e w' => e = .returned (.bool true) ∧ Below w.heap.size w w' := by
 replace HFw := Lib.hid HFw
 replace hKT := Lib.hid hKT
 replace HW := Lib.hid HW
 have hL0 : GL w w [] := GL.start w
 have hT : PTs w [] := PTs.nil w
 replace hT := (hT.new (.cells #[.int .u8 zr, .int .u8 zc, .slice la lx ly] 76))
 replace hL0 := (hL0.new rfl [.int .u8 zr, .int .u8 zc, .slice la lx ly] 76)
 generalize hweq : (w.alloc (.cells #[.int .u8 zr, .int .u8 zc, .slice la lx ly] 76)) = x1 at hL0 hT
 go_enter Tryz.func8, Tryz.ntmps8
 go_upto_region 1 with fail
 have hZ0 := cells_of _ 0 [] rfl (hL0.get _ _ List.mem_cons_self)
 simp only [cellsF, and_true, Nat.zero_add, Nat.reduceAdd] at hZ0
 replace hT := (hT.new (.cells #[.int .u8 zr, .int .u8 zc, .slice la lx ly] 76))
 clear hweq
 replace hL0 := (hL0.new rfl [.int .u8 zr, .int .u8 zc, .slice la lx ly] 76)
 generalize hweq : (x1.alloc (.cells #[.int .u8 zr, .int .u8 zc, .slice la lx ly] 76)) = x2 at hL0 hT
 have hN0 := cells_of _ 0 [] rfl (hL0.get _ _ (List.mem_cons_of_mem _ List.mem_cons_self))
 simp only [cellsF, and_true, Nat.zero_add, Nat.reduceAdd] at hN0
 have hbv1 : FWs x2 (.slice (some ⟨x1.heap.size, 0, none⟩) 1 1) [lx] := fws_one (hL0.get _ _ List.mem_cons_self)
 replace hbv1 := Lib.hid hbv1
 go_wp2_with fail
 clear hN0
 with_reducible refine Calls.mono (HFw.out (.slice (some ⟨x1.heap.size, 0, none⟩) 1 1) _ hbv1.out) ?_
 rintro e x3 ⟨rfl, hb⟩
 replace hL0 := hL0.call hb
 replace hT := hT.call hb
 clear hb hweq
 clear hZ0
 go_wp2_with fail
 with_reducible refine Calls.mono (HW.out _ (hKT.out.at hL0.bl kKT)) ?_
 rintro e x4 ⟨rfl, hb⟩
 replace hL0 := hL0.call hb
 replace hT := hT.call hb
 clear hb
 go_wp2_with fail
 exact bodyPost_ret (v := .bool true) (by simp [results, Tryz.results8, go_sem]) rfl ⟨rfl, hL0.bl⟩
set_option maxHeartbeats 16000000 in
set_option maxRecDepth 100000 in
theorem mforms_l2 (zr zc : Int) (la av aw al : Option Addr) (lx ly nv cv nw cw nl cl : Nat)  (HFw : ∀ (p0 : Value) (w : World), FWs w p0 ([lx]) → Calls Tryz.prog 40 #[p0] w fun e w' => e = .returned (.bool true) ∧ Below w.heap.size w w') (KT : World → Prop) (hKT : Keeps KT) (HW : ∀ w, KT w → Calls Tryz.prog 41 #[] w fun xe w' => xe = .returned (.bool true) ∧ Below w.heap.size w w') (l_nv : decide ((20 : Int) < ((nv : Nat) : Int)) = true) (k_nv : decide (20 < nv) = true) (w : World) (kKT : KT w) :
  Calls Tryz.prog 8 #[.agg #[.int .u8 zr, .int .u8 zc, .slice la lx ly], .slice av nv cv, .slice aw nw cw, .slice al nl cl] w fun e w' => e = .returned (.bool true) ∧ Below w.heap.size w w' := by
 replace HFw := Lib.hid HFw
 replace hKT := Lib.hid hKT
 replace HW := Lib.hid HW
 have hL0 : GL w w [] := GL.start w
 have hT : PTs w [] := PTs.nil w
 replace hT := (hT.new (.cells #[.int .u8 zr, .int .u8 zc, .slice la lx ly] 76))
 replace hL0 := (hL0.new rfl [.int .u8 zr, .int .u8 zc, .slice la lx ly] 76)
 generalize hweq : (w.alloc (.cells #[.int .u8 zr, .int .u8 zc, .slice la lx ly] 76)) = x1 at hL0 hT
 go_enter Tryz.func8, Tryz.ntmps8
 go_upto_region 1 with fail
 have hZ0 := cells_of _ 0 [] rfl (hL0.get _ _ List.mem_cons_self)
 simp only [cellsF, and_true, Nat.zero_add, Nat.reduceAdd] at hZ0
 replace hT := (hT.new (.cells #[.int .u8 zr, .int .u8 zc, .slice la lx ly] 76))
 clear hweq
 replace hL0 := (hL0.new rfl [.int .u8 zr, .int .u8 zc, .slice la lx ly] 76)
 generalize hweq : (x1.alloc (.cells #[.int .u8 zr, .int .u8 zc, .slice la lx ly] 76)) = x2 at hL0 hT
 have hN0 := cells_of _ 0 [] rfl (hL0.get _ _ (List.mem_cons_of_mem _ List.mem_cons_self))
 simp only [cellsF, and_true, Nat.zero_add, Nat.reduceAdd] at hN0
 have hbv1 : FWs x2 (.slice (some ⟨x1.heap.size, 0, none⟩) 1 1) [lx] := fws_one (hL0.get _ _ List.mem_cons_self)
 replace hbv1 := Lib.hid hbv1
 go_wp2_with fail
 clear hN0
 with_reducible refine Calls.mono (HFw.out (.slice (some ⟨x1.heap.size, 0, none⟩) 1 1) _ hbv1.out) ?_
 rintro e x3 ⟨rfl, hb⟩
 replace hL0 := hL0.call hb
 replace hT := hT.call hb
 clear hb hweq
 clear hZ0
 go_wp2_with fail
 with_reducible refine Calls.mono (HW.out _ (hKT.out.at hL0.bl kKT)) ?_
 rintro e x4 ⟨rfl, hb⟩
 replace hL0 := hL0.call hb
 replace hT := hT.call hb
 clear hb
 go_wp2_with fail
 exact bodyPost_ret (v := .bool true) (by simp [results, Tryz.results8, go_sem]) rfl ⟨rfl, hL0.bl⟩
set_option maxHeartbeats 16000000 in
set_option maxRecDepth 100000 in
theorem mforms_l3 (zr zc : Int) (la av aw al : Option Addr) (lx ly nv cv nw cw nl cl : Nat)  (HFw : ∀ (p0 : Value) (w : World), FWs w p0 ([lx]) → Calls Tryz.prog 40 #[p0] w fun e w' => e = .returned (.bool true) ∧ Below w.heap.size w w') (KT : World → Prop) (hKT : Keeps KT) (HW : ∀ w, KT w → Calls Tryz.prog 41 #[] w fun xe w' => xe = .returned (.bool true) ∧ Below w.heap.size w w') (l_nv : decide ((20 : Int) < ((nv : Nat) : Int)) = false) (k_nv : decide (20 < nv) = false) (l_nw : decide ((20 : Int) < ((nw : Nat) : Int)) = true) (k_nw : decide (20 < nw) = true) (w : World) (kKT : KT w) :
  Calls Tryz.prog 8 #[.agg #[.int .u8 zr, .int .u8 zc, .slice la lx ly], .slice av nv cv, .slice aw nw cw, .slice al nl cl] w fun e w' => e = .returned (.bool true) ∧ Below w.heap.size w w' := by
 replace HFw := Lib.hid HFw
 replace hKT := Lib.hid hKT
 replace HW := Lib.hid HW
 have hL0 : GL w w [] := GL.start w
 have hT : PTs w [] := PTs.nil w
 replace hT := (hT.new (.cells #[.int .u8 zr, .int .u8 zc, .slice la lx ly] 76))
 replace hL0 := (hL0.new rfl [.int .u8 zr, .int .u8 zc, .slice la lx ly] 76)
 generalize hweq : (w.alloc (.cells #[.int .u8 zr, .int .u8 zc, .slice la lx ly] 76)) = x1 at hL0 hT
 go_enter Tryz.func8, Tryz.ntmps8
 go_upto_region 1 with fail
 have hZ0 := cells_of _ 0 [] rfl (hL0.get _ _ List.mem_cons_self)
 simp only [cellsF, and_true, Nat.zero_add, Nat.reduceAdd] at hZ0
 replace hT := (hT.new (.cells #[.int .u8 zr, .int .u8 zc, .slice la lx ly] 76))
 clear hweq
 replace hL0 := (hL0.new rfl [.int .u8 zr, .int .u8 zc, .slice la lx ly] 76)
 generalize hweq : (x1.alloc (.cells #[.int .u8 zr, .int .u8 zc, .slice la lx ly] 76)) = x2 at hL0 hT
 have hN0 := cells_of _ 0 [] rfl (hL0.get _ _ (List.mem_cons_of_mem _ List.mem_cons_self))
 simp only [cellsF, and_true, Nat.zero_add, Nat.reduceAdd] at hN0
 have hbv1 : FWs x2 (.slice (some ⟨x1.heap.size, 0, none⟩) 1 1) [lx] := fws_one (hL0.get _ _ List.mem_cons_self)
 replace hbv1 := Lib.hid hbv1
 go_wp2_with fail
 clear hN0
 with_reducible refine Calls.mono (HFw.out (.slice (some ⟨x1.heap.size, 0, none⟩) 1 1) _ hbv1.out) ?_
 rintro e x3 ⟨rfl, hb⟩
 replace hL0 := hL0.call hb
 replace hT := hT.call hb
 clear hb hweq
 clear hZ0
 go_wp2_with fail
 with_reducible refine Calls.mono (HW.out _ (hKT.out.at hL0.bl kKT)) ?_
 rintro e x4 ⟨rfl, hb⟩
 replace hL0 := hL0.call hb
 replace hT := hT.call hb
 clear hb
 go_wp2_with fail
 exact bodyPost_ret (v := .bool true) (by simp [results, Tryz.results8, go_sem]) rfl ⟨rfl, hL0.bl⟩
set_option maxHeartbeats 16000000 in
set_option maxRecDepth 100000 in
theorem mforms_l4 (zr zc : Int) (la av aw al : Option Addr) (lx ly nv cv nw cw nl cl : Nat)  (HFw : ∀ (p0 : Value) (w : World), FWs w p0 ([lx]) → Calls Tryz.prog 40 #[p0] w fun e w' => e = .returned (.bool true) ∧ Below w.heap.size w w') (KT : World → Prop) (hKT : Keeps KT) (HW : ∀ w, KT w → Calls Tryz.prog 41 #[] w fun xe w' => xe = .returned (.bool true) ∧ Below w.heap.size w w') (l_nv : decide ((20 : Int) < ((nv : Nat) : Int)) = false) (k_nv : decide (20 < nv) = false) (l_nw : decide ((20 : Int) < ((nw : Nat) : Int)) = false) (k_nw : decide (20 < nw) = false) (l_nl : decide ((40 : Int) < ((nl : Nat) : Int)) = true) (k_nl : decide (40 < nl) = true) (w : World) (kKT : KT w) :
  Calls Tryz.prog 8 #[.agg #[.int .u8 zr, .int .u8 zc, .slice la lx ly], .slice av nv cv, .slice aw nw cw, .slice al nl cl] w fun e w' => e = .returned (.bool true) ∧ Below w.heap.size w w' := by
 replace HFw := Lib.hid HFw
 replace hKT := Lib.hid hKT
 replace HW := Lib.hid HW
 have hL0 : GL w w [] := GL.start w
 have hT : PTs w [] := PTs.nil w
 replace hT := (hT.new (.cells #[.int .u8 zr, .int .u8 zc, .slice la lx ly] 76))
 replace hL0 := (hL0.new rfl [.int .u8 zr, .int .u8 zc, .slice la lx ly] 76)
 generalize hweq : (w.alloc (.cells #[.int .u8 zr, .int .u8 zc, .slice la lx ly] 76)) = x1 at hL0 hT
 go_enter Tryz.func8, Tryz.ntmps8
 go_upto_region 1 with fail
 have hZ0 := cells_of _ 0 [] rfl (hL0.get _ _ List.mem_cons_self)
 simp only [cellsF, and_true, Nat.zero_add, Nat.reduceAdd] at hZ0
 replace hT := (hT.new (.cells #[.int .u8 zr, .int .u8 zc, .slice la lx ly] 76))
 clear hweq
 replace hL0 := (hL0.new rfl [.int .u8 zr, .int .u8 zc, .slice la lx ly] 76)
 generalize hweq : (x1.alloc (.cells #[.int .u8 zr, .int .u8 zc, .slice la lx ly] 76)) = x2 at hL0 hT
 have hN0 := cells_of _ 0 [] rfl (hL0.get _ _ (List.mem_cons_of_mem _ List.mem_cons_self))
 simp only [cellsF, and_true, Nat.zero_add, Nat.reduceAdd] at hN0
 have hbv1 : FWs x2 (.slice (some ⟨x1.heap.size, 0, none⟩) 1 1) [lx] := fws_one (hL0.get _ _ List.mem_cons_self)
 replace hbv1 := Lib.hid hbv1
 go_wp2_with fail
 clear hN0
 with_reducible refine Calls.mono (HFw.out (.slice (some ⟨x1.heap.size, 0, none⟩) 1 1) _ hbv1.out) ?_
 rintro e x3 ⟨rfl, hb⟩
 replace hL0 := hL0.call hb
 replace hT := hT.call hb
 clear hb hweq
 clear hZ0
 go_wp2_with fail
 with_reducible refine Calls.mono (HW.out _ (hKT.out.at hL0.bl kKT)) ?_
 rintro e x4 ⟨rfl, hb⟩
 replace hL0 := hL0.call hb
 replace hT := hT.call hb
 clear hb
 go_wp2_with fail
 exact bodyPost_ret (v := .bool true) (by simp [results, Tryz.results8, go_sem]) rfl ⟨rfl, hL0.bl⟩
set_option maxHeartbeats 16000000 in
set_option maxRecDepth 100000 in
theorem mforms_sq (zr zc : Int) (la av aw al : Option Addr) (lx ly nv cv nw cw nl cl : Nat) (na nb : Nat) (x tx gm sm : Mx) (vx vy vz va : List Rat) (q1 q2 q3 : Rat) (sg : Int) (bs : Bool) (HFw : ∀ (p0 : Value) (w : World), FWs w p0 ([lx]) → Calls Tryz.prog 40 #[p0] w fun e w' => e = .returned (.bool true) ∧ Below w.heap.size w w') (HSd : ∀ w, Calls Tryz.prog 42 #[.agg #[.int .u8 zr, .int .u8 zc, .slice la lx ly]] w fun xe w' => xe = .returned (.tuple #[.int .i64 (na : Int), .int .i64 (nb : Int)]) ∧ Below w.heap.size w w') (KA : World → Prop) (hKA : Keeps KA) (HMo : ∀ (w : World), KA w → Calls Tryz.prog 57 #[.agg #[.int .u8 zr, .int .u8 zc, .slice la lx ly]] w fun e w' => ∃ pv, e = .returned pv ∧ MT w' pv x ∧ Below w.heap.size w w') (KV : World → Prop) (hKV : Keeps KV) (HV1 : ∀ (w : World), KV w → Calls Tryz.prog 58 #[.slice av nv cv, .int .i64 (na : Int)] w fun e w' => ∃ pv, e = .returned pv ∧ PT w' pv vx ∧ Below w.heap.size w w') (KW : World → Prop) (hKW : Keeps KW) (HV2 : ∀ (w : World), KW w → Calls Tryz.prog 58 #[.slice aw nw cw, .int .i64 (nb : Int)] w fun e w' => ∃ pv, e = .returned pv ∧ PT w' pv vy ∧ Below w.heap.size w w') (F1 : ∀ (p0 p1 p2 : Value) (w : World), MT w p0 x → PT w p1 vx → PT w p2 vy → Calls Tryz.prog 60 #[p0, p1, p2] w fun e w' => e = .returned (.tuple #[fracV q1, .int .i64 0]) ∧ Below w.heap.size w w') (T1 : ∀ (p0 : Value) (w : World), MT w p0 x → Calls Tryz.prog 70 #[p0] w fun e w' => ∃ pv, e = .returned pv ∧ MT w' pv tx ∧ Below w.heap.size w w') (F2 : ∀ (p0 p1 p2 : Value) (w : World), MT w p0 tx → PT w p1 vy → PT w p2 vx → Calls Tryz.prog 60 #[p0, p1, p2] w fun e w' => e = .returned (.tuple #[fracV q1, .int .i64 0]) ∧ Below w.heap.size w w') (Y1 : ∀ (p0 : Value) (w : World), MT w p0 x → Calls Tryz.prog 71 #[p0] w fun e w' => e = .returned (.bool bs) ∧ Below w.heap.size w w') (E1 : ∀ (p0 p1 : Value) (w : World), MT w p0 tx → MT w p1 x → Calls Tryz.prog 67 #[p0, p1] w fun e w' => e = .returned (.bool bs) ∧ Below w.heap.size w w') (M1 : ∀ (p0 p1 : Value) (w : World), MT w p0 tx → MT w p1 x → Calls Tryz.prog 68 #[p0, p1] w fun e w' => ∃ pv, e = .returned pv ∧ MT w' pv gm ∧ Below w.heap.size w w') (F3 : ∀ (p0 p1 p2 : Value) (w : World), MT w p0 gm → PT w p1 vy → PT w p2 vy → Calls Tryz.prog 60 #[p0, p1, p2] w fun e w' => e = .returned (.tuple #[fracV q2, .int .i64 0]) ∧ Below w.heap.size w w') (P1 : ∀ (p0 p1 : Value) (w : World), MT w p0 x → PT w p1 vy → Calls Tryz.prog 59 #[p0, p1] w fun e w' => ∃ pv, e = .returned (.tuple #[pv, .int .i64 0]) ∧ PT w' pv va ∧ Below w.heap.size w w') (D1 : ∀ (p0 p1 : Value) (w : World), PT w p0 va → PT w p1 va → Calls Tryz.prog 26 #[p0, p1] w fun e w' => e = .returned (.tuple #[fracV q2, .int .i64 0]) ∧ Below w.heap.size w w') (Y2 : ∀ (p0 : Value) (w : World), MT w p0 gm → Calls Tryz.prog 71 #[p0] w fun e w' => e = .returned (.bool true) ∧ Below w.heap.size w w') (HSg : ∀ w, Calls Tryz.prog 72 #[fracV q2] w fun xe w' => xe = .returned (.int .i64 sg) ∧ Below w.heap.size w w') (KL : World → Prop) (hKL : Keeps KL) (HSy : ∀ (w : World), KL w → Calls Tryz.prog 73 #[.int .i64 (na : Int), .slice al nl cl] w fun e w' => ∃ pv, e = .returned pv ∧ MT w' pv sm ∧ Below w.heap.size w w') (HV3 : ∀ (w : World), KW w → Calls Tryz.prog 58 #[.slice aw nw cw, .int .i64 (na : Int)] w fun e w' => ∃ pv, e = .returned pv ∧ PT w' pv vz ∧ Below w.heap.size w w') (F4 : ∀ (p0 p1 p2 : Value) (w : World), MT w p0 sm → PT w p1 vx → PT w p2 vz → Calls Tryz.prog 60 #[p0, p1, p2] w fun e w' => e = .returned (.tuple #[fracV q3, .int .i64 0]) ∧ Below w.heap.size w w') (F5 : ∀ (p0 p1 p2 : Value) (w : World), MT w p0 sm → PT w p1 vz → PT w p2 vx → Calls Tryz.prog 60 #[p0, p1, p2] w fun e w' => e = .returned (.tuple #[fracV q3, .int .i64 0]) ∧ Below w.heap.size w w') (Y3 : ∀ (p0 : Value) (w : World), MT w p0 sm → Calls Tryz.prog 71 #[p0] w fun e w' => e = .returned (.bool true) ∧ Below w.heap.size w w') (KT : World → Prop) (hKT : Keeps KT) (HW : ∀ w, KT w → Calls Tryz.prog 41 #[] w fun xe w' => xe = .returned (.bool true) ∧ Below w.heap.size w w') (l_nv : decide ((20 : Int) < ((nv : Nat) : Int)) = false) (k_nv : decide (20 < nv) = false) (l_nw : decide ((20 : Int) < ((nw : Nat) : Int)) = false) (k_nw : decide (20 < nw) = false) (l_nl : decide ((40 : Int) < ((nl : Nat) : Int)) = false) (k_nl : decide (40 < nl) = false) (hsg : decide (sg < 0) = false) (hsh : ¬ sg < 0) (hx1 : (x.r : Int) = (na : Int)) (htx1 : (tx.r : Int) = (nb : Int)) (hgm1 : (gm.r : Int) = (nb : Int)) (hsm1 : (sm.r : Int) = (na : Int)) (hx2 : (x.c : Int) = (nb : Int)) (htx2 : (tx.c : Int) = (na : Int)) (hgm2 : (gm.c : Int) = (nb : Int)) (hsm2 : (sm.c : Int) = (na : Int)) (hnk : ((na : Int) == (nb : Int)) = true) (hnl : (na == nb) = true) (w : World) (kKA : KA w) (kKV : KV w) (kKW : KW w) (kKL : KL w) (kKT : KT w) :
  Calls Tryz.prog 8 #[.agg #[.int .u8 zr, .int .u8 zc, .slice la lx ly], .slice av nv cv, .slice aw nw cw, .slice al nl cl] w fun e w' => e = .returned (.bool true) ∧ Below w.heap.size w w' := by
 replace HFw := Lib.hid HFw
 replace HSd := Lib.hid HSd
 replace hKA := Lib.hid hKA
 replace HMo := Lib.hid HMo
 replace hKV := Lib.hid hKV
 replace HV1 := Lib.hid HV1
 replace hKW := Lib.hid hKW
 replace HV2 := Lib.hid HV2
 replace F1 := Lib.hid F1
 replace T1 := Lib.hid T1
 replace F2 := Lib.hid F2
 replace Y1 := Lib.hid Y1
 replace E1 := Lib.hid E1
 replace M1 := Lib.hid M1
 replace F3 := Lib.hid F3
 replace P1 := Lib.hid P1
 replace D1 := Lib.hid D1
 replace Y2 := Lib.hid Y2
 replace HSg := Lib.hid HSg
 replace hKL := Lib.hid hKL
 replace HSy := Lib.hid HSy
 replace HV3 := Lib.hid HV3
 replace F4 := Lib.hid F4
 replace F5 := Lib.hid F5
 replace Y3 := Lib.hid Y3
 replace hKT := Lib.hid hKT
 replace HW := Lib.hid HW
 have hL0 : GL w w [] := GL.start w
 have hT : PTs w [] := PTs.nil w
 replace hx1 := Lib.hid hx1
 replace hx2 := Lib.hid hx2
 replace htx1 := Lib.hid htx1
 replace htx2 := Lib.hid htx2
 replace hgm1 := Lib.hid hgm1
 replace hgm2 := Lib.hid hgm2
 replace hsm1 := Lib.hid hsm1
 replace hsm2 := Lib.hid hsm2
 have hne2 : ∀ W, (binOp .neq 38 (fracV q2) (fracV q2)).run Tryz.prog W = .ok (.bool false) W := fun W => by have := run_neqF q2 q2 true (by simp) W; exact this
 have heq3 : ∀ W, (binOp .eql 38 (fracV q3) (fracV q3)).run Tryz.prog W = .ok (.bool true) W := fun W => run_eqlF q3 q3 true (by simp) W
 replace hT := (hT.new (.cells #[.int .u8 zr, .int .u8 zc, .slice la lx ly] 76))
 replace hL0 := (hL0.new rfl [.int .u8 zr, .int .u8 zc, .slice la lx ly] 76)
 generalize hweq : (w.alloc (.cells #[.int .u8 zr, .int .u8 zc, .slice la lx ly] 76)) = x1 at hL0 hT
 go_enter Tryz.func8, Tryz.ntmps8
 go_upto_region 1 with fail
 have hZ0 := cells_of _ 0 [] rfl (hL0.get _ _ List.mem_cons_self)
 simp only [cellsF, and_true, Nat.zero_add, Nat.reduceAdd] at hZ0
 replace hT := (hT.new (.cells #[.int .u8 zr, .int .u8 zc, .slice la lx ly] 76))
 clear hweq
 replace hL0 := (hL0.new rfl [.int .u8 zr, .int .u8 zc, .slice la lx ly] 76)
 generalize hweq : (x1.alloc (.cells #[.int .u8 zr, .int .u8 zc, .slice la lx ly] 76)) = x2 at hL0 hT
 have hN0 := cells_of _ 0 [] rfl (hL0.get _ _ (List.mem_cons_of_mem _ List.mem_cons_self))
 simp only [cellsF, and_true, Nat.zero_add, Nat.reduceAdd] at hN0
 have hbv1 : FWs x2 (.slice (some ⟨x1.heap.size, 0, none⟩) 1 1) [lx] := fws_one (hL0.get _ _ List.mem_cons_self)
 replace hbv1 := Lib.hid hbv1
 go_wp2_with fail
 clear hN0
 with_reducible refine Calls.mono (HFw.out (.slice (some ⟨x1.heap.size, 0, none⟩) 1 1) _ hbv1.out) ?_
 rintro e x3 ⟨rfl, hb⟩
 replace hL0 := hL0.call hb
 replace hT := hT.call hb
 clear hb hweq
 clear hZ0
 have hN0 := cells_of _ 0 [] rfl (hL0.get _ _ (List.mem_cons_of_mem _ List.mem_cons_self))
 simp only [cellsF, and_true, Nat.zero_add, Nat.reduceAdd] at hN0
 go_wp2_with fail
 clear hN0
 with_reducible refine Calls.mono (HSd.out _) ?_
 rintro e x4 ⟨rfl, hb⟩
 replace hL0 := hL0.call hb
 replace hT := hT.call hb
 clear hb
 have hN0 := cells_of _ 0 [] rfl (hL0.get _ _ (List.mem_cons_of_mem _ List.mem_cons_self))
 simp only [cellsF, and_true, Nat.zero_add, Nat.reduceAdd] at hN0
 go_wp2_with fail
 clear hN0
 with_reducible refine Calls.mono (HMo.out _ (hKA.out.at (hL0.bl) kKA)) ?_
 rintro e x5 ⟨v0, rfl, q0, hb⟩
 replace hL0 := hL0.call hb
 replace hT := hT.call hb
 clear hb
 obtain ⟨g1, d1, g1c, rfl, hm1, hcp1⟩ := mt_form q0 hx1.out hx2.out
 replace hcp1 := Lib.hid hcp1
 replace hT := hT.cons hm1
 clear hm1
 clear q0
 replace hT := (hT.new (.cells #[.int .i64 (na : Int), .int .i64 (nb : Int), .slice g1 d1 g1c] 81))
 replace hL0 := (hL0.new rfl [.int .i64 (na : Int), .int .i64 (nb : Int), .slice g1 d1 g1c] 81)
 generalize hweq : (x5.alloc (.cells #[.int .i64 (na : Int), .int .i64 (nb : Int), .slice g1 d1 g1c] 81)) = x6 at hL0 hT
 go_wp2_with fail
 with_reducible refine Calls.mono (HV1.out _ (hKV.out.at (hL0.bl) kKV)) ?_
 rintro e x7 ⟨v0, rfl, q0, hb⟩
 replace hL0 := hL0.call hb
 replace hT := hT.call hb
 clear hb hweq
 obtain ⟨g2, d2, g2c, rfl, -⟩ := pt_form q0
 replace hT := hT.cons q0
 clear q0
 go_wp2_with fail
 with_reducible refine Calls.mono (HV2.out _ (hKW.out.at (hL0.bl) kKW)) ?_
 rintro e x8 ⟨v0, rfl, q0, hb⟩
 replace hL0 := hL0.call hb
 replace hT := hT.call hb
 clear hb
 obtain ⟨g3, d3, g3c, rfl, -⟩ := pt_form q0
 replace hT := hT.cons q0
 clear q0
 have hN0 := cells_of _ 0 [] rfl (hL0.get _ _ List.mem_cons_self)
 simp only [cellsF, and_true, Nat.zero_add, Nat.reduceAdd] at hN0
 go_wp2_with fail
 clear hN0
 with_reducible refine Calls.mono (F1.out (.agg #[.int .i64 (na : Int), .int .i64 (nb : Int), .slice g1 d1 g1c]) (.slice g2 d2 g2c) (.slice g3 d3 g3c) _ (mt_of (hT.get (List.mem_cons_of_mem _ (List.mem_cons_of_mem _ List.mem_cons_self))) hcp1.out hx1.out hx2.out) (hT.get (List.mem_cons_of_mem _ List.mem_cons_self)) (hT.get List.mem_cons_self)) ?_
 rintro e x9 ⟨rfl, hb⟩
 replace hL0 := hL0.call hb
 replace hT := hT.call hb
 clear hb
 replace hT := (hT.new (.cells #[.int .u64 ((zl q1.num : Nat) : Int), .string (zh q1.num), .bool (zs q1.num), .int .u64 ((lo (fe q1) : Nat) : Int), .string (hs (fe q1))] 38))
 replace hL0 := (hL0.new rfl [.int .u64 ((zl q1.num : Nat) : Int), .string (zh q1.num), .bool (zs q1.num), .int .u64 ((lo (fe q1) : Nat) : Int), .string (hs (fe q1))] 38)
 generalize hweq : (x9.alloc (.cells #[.int .u64 ((zl q1.num : Nat) : Int), .string (zh q1.num), .bool (zs q1.num), .int .u64 ((lo (fe q1) : Nat) : Int), .string (hs (fe q1))] 38)) = x10 at hL0 hT
 go_upto_region 7 with fail
 have hN0 := cells_of _ 0 [] rfl (hL0.get _ _ (List.mem_cons_of_mem _ List.mem_cons_self))
 simp only [cellsF, and_true, Nat.zero_add, Nat.reduceAdd] at hN0
 go_wp2_with fail
 clear hN0
 with_reducible refine Calls.mono (T1.out (.agg #[.int .i64 (na : Int), .int .i64 (nb : Int), .slice g1 d1 g1c]) _ (mt_of (hT.get (List.mem_cons_of_mem _ (List.mem_cons_of_mem _ List.mem_cons_self))) hcp1.out hx1.out hx2.out)) ?_
 rintro e x11 ⟨v0, rfl, q0, hb⟩
 replace hL0 := hL0.call hb
 replace hT := hT.call hb
 clear hb hweq
 obtain ⟨g4, d4, g4c, rfl, hm2, hcp2⟩ := mt_form q0 htx1.out htx2.out
 replace hcp2 := Lib.hid hcp2
 replace hT := hT.cons hm2
 clear hm2
 clear q0
 go_wp2_with fail
 with_reducible refine Calls.mono (F2.out (.agg #[.int .i64 (nb : Int), .int .i64 (na : Int), .slice g4 d4 g4c]) (.slice g3 d3 g3c) (.slice g2 d2 g2c) _ (mt_of (hT.get List.mem_cons_self) hcp2.out htx1.out htx2.out) (hT.get (List.mem_cons_of_mem _ List.mem_cons_self)) (hT.get (List.mem_cons_of_mem _ (List.mem_cons_of_mem _ List.mem_cons_self)))) ?_
 rintro e x12 ⟨rfl, hb⟩
 replace hL0 := hL0.call hb
 replace hT := hT.call hb
 clear hb
 replace hT := (hT.new (.cells #[.int .u64 ((zl q1.num : Nat) : Int), .string (zh q1.num), .bool (zs q1.num), .int .u64 ((lo (fe q1) : Nat) : Int), .string (hs (fe q1))] 38))
 replace hL0 := (hL0.new rfl [.int .u64 ((zl q1.num : Nat) : Int), .string (zh q1.num), .bool (zs q1.num), .int .u64 ((lo (fe q1) : Nat) : Int), .string (hs (fe q1))] 38)
 generalize hweq : (x12.alloc (.cells #[.int .u64 ((zl q1.num : Nat) : Int), .string (zh q1.num), .bool (zs q1.num), .int .u64 ((lo (fe q1) : Nat) : Int), .string (hs (fe q1))] 38)) = x13 at hL0 hT
 go_upto_region 8 with fail
 clear hweq
 refine region_tl 25 [EV (.int .i64 0), EV (.bool false), EV (.bool false), EV (.int .i64 0), EV (.bool false), EV (.bool false), EV (.bool false), EV (.agg #[.int .u64 ((zl q1.num : Nat) : Int), .string (zh q1.num), .bool (zs q1.num), .int .u64 ((lo (fe q1) : Nat) : Int), .string (hs (fe q1))]), EV (.agg #[.int .u64 ((zl q1.num : Nat) : Int), .string (zh q1.num), .bool (zs q1.num), .int .u64 ((lo (fe q1) : Nat) : Int), .string (hs (fe q1))]), EV (.bool false), EV (.bool false), EV (.bool false), EV (.agg #[.int .i64 (na : Int), .int .i64 (nb : Int), .slice g1 d1 g1c]), EV (.bool bs), EV (.int .i64 (na : Int)), EV (.int .i64 (nb : Int)), EV (.bool true), EV (.bool true), EV (.agg #[.int .i64 (na : Int), .int .i64 (nb : Int), .slice g1 d1 g1c]), PM tx, EV (.agg #[.int .i64 (na : Int), .int .i64 (nb : Int), .slice g1 d1 g1c]), EV (.bool bs), EV (.bool bs), EV (.bool false), EV (.bool false)] (by kernel_rfl) (by kernel_rfl) ?_ ?_ ?_
 ·exact stays_cons (stays_eq _) (stays_cons (stays_eq _) (stays_cons (stays_eq _) (stays_cons (stays_eq _) (stays_cons (stays_eq _) (stays_cons (stays_eq _) (stays_cons (stays_eq _) (stays_cons (stays_eq _) (stays_cons (stays_eq _) (stays_cons (stays_eq _) (stays_cons (stays_eq _) (stays_cons (stays_eq _) (stays_cons (stays_eq _) (stays_cons (stays_eq _) (stays_cons (stays_eq _) (stays_cons (stays_eq _) (stays_cons (stays_eq _) (stays_cons (stays_eq _) (stays_cons (stays_eq _) (stays_cons (stays_pm _) (stays_cons (stays_eq _) (stays_cons (stays_eq _) (stays_cons (stays_eq _) (stays_cons (stays_eq _) (stays_cons (stays_eq _) (stays_nil)))))))))))))))))))))))))
 ·simp only [List.take_succ_cons, List.take_zero, hopsR, and_true]
  refine ⟨?_, ?_, ?_, ?_, ?_, ?_, ?_, ?_, ?_, ?_, ?_, ?_, ?_, ?_, ?_, ?_, ?_, ?_, ?_, ?_, ?_, ?_, ?_, ?_, ?_⟩ <;> intro fv w1 hb1 hp
  all_goals (simp only [putsV, Act.put, List.setIfInBounds_toArray, List.set_cons_succ, List.set_cons_zero, Nat.zero_add, Nat.reduceAdd])
  ·refine tyAt_none rfl ?_
   simp [tyUpon, execOp, go_sem, Act.eval, hnk, hnl, Below.refl]
  ·have h0 : EV _ (fv 0) w1 := hp 0 (LC (by kernel_rfl))
   refine tyAt_none rfl ?_
   simp [tyUpon, execOp, go_sem, Act.eval, h0, hnk, hnl, Below.refl]
  ·have h1 : EV _ (fv 1) w1 := hp 1 (LC (by kernel_rfl))
   refine tyAt_none rfl ?_
   simp [tyUpon, execOp, go_sem, Act.eval, h1, hnk, hnl, Below.refl]
  ·have h2 : EV _ (fv 2) w1 := hp 2 (LC (by kernel_rfl))
   refine tyAt_yes (by simp [Region.wanted, yielded, h2]) ?_
   simp [tyUpon, execOp, go_sem, Act.eval, h2, hnk, hnl, Below.refl]
  ·have h3 : EV _ (fv 3) w1 := hp 3 (LC (by kernel_rfl))
   have h2 : EV _ (fv 2) w1 := hp 2 (LC (by kernel_rfl))
   refine tyAt_yes (by simp [Region.wanted, yielded, h3, h2]) ?_
   simp [tyUpon, execOp, go_sem, Act.eval, h3, h2, hnk, hnl, Below.refl]
  ·have h2 : EV _ (fv 2) w1 := hp 2 (LC (by kernel_rfl))
   have h4 : EV _ (fv 4) w1 := hp 4 (LC (by kernel_rfl))
   refine tyAt_none rfl ?_
   simp [tyUpon, execOp, go_sem, Act.eval, h2, h4, hnk, hnl, Below.refl]
  ·have h5 : EV _ (fv 5) w1 := hp 5 (LC (by kernel_rfl))
   refine tyAt_none rfl ?_
   simp [tyUpon, execOp, go_sem, Act.eval, h5, hnk, hnl, Below.refl]
  ·have h6 : EV _ (fv 6) w1 := hp 6 (LC (by kernel_rfl))
   refine tyAt_yes (by simp [Region.wanted, yielded, h6]) ?_
   have hc := (hL0.call (below_drew hb1)).fc
   simp only [fcG, cellsF, neK, and_true, ne_eq, Nat.zero_add, Nat.reduceAdd] at hc
   simp [tyUpon, execOp, go_sem, Act.eval, hc, h6, hnk, hnl, Below.refl]
  ·have h6 : EV _ (fv 6) w1 := hp 6 (LC (by kernel_rfl))
   refine tyAt_yes (by simp [Region.wanted, yielded, h6]) ?_
   have hc := (hL0.call (below_drew hb1)).fc
   simp only [fcG, cellsF, neK, and_true, ne_eq, Nat.zero_add, Nat.reduceAdd] at hc
   simp [tyUpon, execOp, go_sem, Act.eval, hc, h6, hnk, hnl, Below.refl]
  ·have h7 : EV _ (fv 7) w1 := hp 7 (LC (by kernel_rfl))
   have h8 : EV _ (fv 8) w1 := hp 8 (LC (by kernel_rfl))
   have h6 : EV _ (fv 6) w1 := hp 6 (LC (by kernel_rfl))
   refine tyAt_yes (by simp [Region.wanted, yielded, h7, h8, h6]) ?_
   simp [tyUpon, execOp, go_sem, Act.eval, h7, h8, h6, hnk, hnl, Below.refl]
  ·have h6 : EV _ (fv 6) w1 := hp 6 (LC (by kernel_rfl))
   have h9 : EV _ (fv 9) w1 := hp 9 (LC (by kernel_rfl))
   refine tyAt_none rfl ?_
   simp [tyUpon, execOp, go_sem, Act.eval, h6, h9, hnk, hnl, Below.refl]
  ·have h10 : EV _ (fv 10) w1 := hp 10 (LC (by kernel_rfl))
   refine tyAt_none rfl ?_
   simp [tyUpon, execOp, go_sem, Act.eval, h10, hnk, hnl, Below.refl]
  ·have h11 : EV _ (fv 11) w1 := hp 11 (LC (by kernel_rfl))
   refine tyAt_yes (by simp [Region.wanted, yielded, h11]) ?_
   have hc := (hL0.call (below_drew hb1)).fc
   simp only [fcG, cellsF, neK, and_true, ne_eq, Nat.zero_add, Nat.reduceAdd] at hc
   simp [tyUpon, execOp, go_sem, Act.eval, hc, h11, hnk, hnl, Below.refl]
  ·have h12 : EV _ (fv 12) w1 := hp 12 (LC (by kernel_rfl))
   have h11 : EV _ (fv 11) w1 := hp 11 (LC (by kernel_rfl))
   refine tyAt_yes (by simp [Region.wanted, yielded, h12, h11]) ?_
   refine ty_call (f := 71) (args := #[.agg #[.int .i64 (na : Int), .int .i64 (nb : Int), .slice g1 d1 g1c]]) (by simp [execOp, go_sem, Act.eval, h12, h11]) ?_
   exact (Y1.out (.agg #[.int .i64 (na : Int), .int .i64 (nb : Int), .slice g1 d1 g1c]) w1 (mt_of (PT.below (hT.get (List.mem_cons_of_mem _ (List.mem_cons_of_mem _ (List.mem_cons_of_mem _ List.mem_cons_self)))) (below_drew hb1)) hcp1.out hx1.out hx2.out)).mono fun e w2 ⟨h1, h2⟩ => ⟨_, h1, rfl, h2⟩
  ·have h11 : EV _ (fv 11) w1 := hp 11 (LC (by kernel_rfl))
   refine tyAt_yes (by simp [Region.wanted, yielded, h11]) ?_
   simp [tyUpon, execOp, go_sem, Act.eval, h11, hnk, hnl, Below.refl]
  ·have h11 : EV _ (fv 11) w1 := hp 11 (LC (by kernel_rfl))
   refine tyAt_yes (by simp [Region.wanted, yielded, h11]) ?_
   simp [tyUpon, execOp, go_sem, Act.eval, h11, hnk, hnl, Below.refl]
  ·have h14 : EV _ (fv 14) w1 := hp 14 (LC (by kernel_rfl))
   have h15 : EV _ (fv 15) w1 := hp 15 (LC (by kernel_rfl))
   have h11 : EV _ (fv 11) w1 := hp 11 (LC (by kernel_rfl))
   refine tyAt_yes (by simp [Region.wanted, yielded, h14, h15, h11]) ?_
   simp [tyUpon, execOp, go_sem, Act.eval, h14, h15, h11, hnk, hnl, Below.refl]
  ·have h16 : EV _ (fv 16) w1 := hp 16 (LC (by kernel_rfl))
   have h11 : EV _ (fv 11) w1 := hp 11 (LC (by kernel_rfl))
   refine tyAt_yes (by simp [Region.wanted, yielded, h16, h11]) ?_
   simp [tyUpon, execOp, go_sem, Act.eval, h16, h11, hnk, hnl, Below.refl]
  ·have h17 : EV _ (fv 17) w1 := hp 17 (LC (by kernel_rfl))
   refine tyAt_yes (by simp [Region.wanted, yielded, h17]) ?_
   have hc := (hL0.call (below_drew hb1)).fc
   simp only [fcG, cellsF, neK, and_true, ne_eq, Nat.zero_add, Nat.reduceAdd] at hc
   simp [tyUpon, execOp, go_sem, Act.eval, hc, h17, hnk, hnl, Below.refl]
  ·have h18 : EV _ (fv 18) w1 := hp 18 (LC (by kernel_rfl))
   have h17 : EV _ (fv 17) w1 := hp 17 (LC (by kernel_rfl))
   refine tyAt_yes (by simp [Region.wanted, yielded, h18, h17]) ?_
   refine ty_call (f := 70) (args := #[.agg #[.int .i64 (na : Int), .int .i64 (nb : Int), .slice g1 d1 g1c]]) (by simp [execOp, go_sem, Act.eval, h18, h17]) ?_
   exact (T1.out (.agg #[.int .i64 (na : Int), .int .i64 (nb : Int), .slice g1 d1 g1c]) w1 (mt_of (PT.below (hT.get (List.mem_cons_of_mem _ (List.mem_cons_of_mem _ (List.mem_cons_of_mem _ List.mem_cons_self)))) (below_drew hb1)) hcp1.out hx1.out hx2.out)).mono fun e w2 ⟨pv, h1, h2, h3⟩ => ⟨pv, h1, h2, h3⟩
  ·have h17 : EV _ (fv 17) w1 := hp 17 (LC (by kernel_rfl))
   refine tyAt_yes (by simp [Region.wanted, yielded, h17]) ?_
   have hc := (hL0.call (below_drew hb1)).fc
   simp only [fcG, cellsF, neK, and_true, ne_eq, Nat.zero_add, Nat.reduceAdd] at hc
   simp [tyUpon, execOp, go_sem, Act.eval, hc, h17, hnk, hnl, Below.refl]
  ·have h19 : (PM tx) (fv 19) w1 := hp 19 (LC (by kernel_rfl))
   have h20 : EV _ (fv 20) w1 := hp 20 (LC (by kernel_rfl))
   have h17 : EV _ (fv 17) w1 := hp 17 (LC (by kernel_rfl))
   refine tyAt_yes (by simp [Region.wanted, yielded, h20, h17]) ?_
   refine ty_call (f := 67) (args := #[fv 19, .agg #[.int .i64 (na : Int), .int .i64 (nb : Int), .slice g1 d1 g1c]]) (by simp [execOp, go_sem, Act.eval, h20, h17]) ?_
   exact (E1.out (fv 19) (.agg #[.int .i64 (na : Int), .int .i64 (nb : Int), .slice g1 d1 g1c]) w1 h19 (mt_of (PT.below (hT.get (List.mem_cons_of_mem _ (List.mem_cons_of_mem _ (List.mem_cons_of_mem _ List.mem_cons_self)))) (below_drew hb1)) hcp1.out hx1.out hx2.out)).mono fun e w2 ⟨h1, h2⟩ => ⟨_, h1, rfl, h2⟩
  ·have h17 : EV _ (fv 17) w1 := hp 17 (LC (by kernel_rfl))
   have h21 : EV _ (fv 21) w1 := hp 21 (LC (by kernel_rfl))
   have h11 : EV _ (fv 11) w1 := hp 11 (LC (by kernel_rfl))
   refine tyAt_yes (by simp [Region.wanted, yielded, h17, h21, h11]) ?_
   simp [tyUpon, execOp, go_sem, Act.eval, h17, h21, h11, hnk, hnl, Below.refl]
  ·have h13 : EV _ (fv 13) w1 := hp 13 (LC (by kernel_rfl))
   have h22 : EV _ (fv 22) w1 := hp 22 (LC (by kernel_rfl))
   have h11 : EV _ (fv 11) w1 := hp 11 (LC (by kernel_rfl))
   refine tyAt_yes (by simp [Region.wanted, yielded, h13, h22, h11]) ?_
   simp [tyUpon, execOp, go_sem, Act.eval, h13, h22, h11, hnk, hnl, Below.refl]
  ·have h11 : EV _ (fv 11) w1 := hp 11 (LC (by kernel_rfl))
   have h23 : EV _ (fv 23) w1 := hp 23 (LC (by kernel_rfl))
   refine tyAt_none rfl ?_
   simp [tyUpon, execOp, go_sem, Act.eval, h11, h23, hnk, hnl, Below.refl]
 ·intro fv x14 hb1 hv
  have e0 : fv 0 = _ := hv 0 (by omega)
  have e1 : fv 1 = _ := hv 1 (by omega)
  have e2 : fv 2 = _ := hv 2 (by omega)
  have e3 : fv 3 = _ := hv 3 (by omega)
  have e4 : fv 4 = _ := hv 4 (by omega)
  have e5 : fv 5 = _ := hv 5 (by omega)
  have e6 : fv 6 = _ := hv 6 (by omega)
  have e7 : fv 7 = _ := hv 7 (by omega)
  have e8 : fv 8 = _ := hv 8 (by omega)
  have e9 : fv 9 = _ := hv 9 (by omega)
  have e10 : fv 10 = _ := hv 10 (by omega)
  have e11 : fv 11 = _ := hv 11 (by omega)
  have e12 : fv 12 = _ := hv 12 (by omega)
  have e13 : fv 13 = _ := hv 13 (by omega)
  have e14 : fv 14 = _ := hv 14 (by omega)
  have e15 : fv 15 = _ := hv 15 (by omega)
  have e16 : fv 16 = _ := hv 16 (by omega)
  have e17 : fv 17 = _ := hv 17 (by omega)
  have e18 : fv 18 = _ := hv 18 (by omega)
  have q19 : MT x14 (fv 19) tx := hv 19 (by omega)
  obtain ⟨g5, d5, g5c, e19, hm3, hcp3⟩ := mt_form q19 htx1.out htx2.out
  replace hcp3 := Lib.hid hcp3
  rw [e19] at q19
  have e20 : fv 20 = _ := hv 20 (by omega)
  have e21 : fv 21 = _ := hv 21 (by omega)
  have e22 : fv 22 = _ := hv 22 (by omega)
  have e23 : fv 23 = _ := hv 23 (by omega)
  have e24 : fv 24 = _ := hv 24 (by omega)
  simp only [List.take_succ_cons, List.take_zero, putsV, Act.put, List.setIfInBounds_toArray, List.set_cons_succ, List.set_cons_zero, List.drop_succ_cons, List.drop_zero, Nat.zero_add, Nat.reduceAdd, e0, e1, e2, e3, e4, e5, e6, e7, e8, e9, e10, e11, e12, e13, e14, e15, e16, e17, e18, e19, e20, e21, e22, e23, e24]
  replace hL0 := hL0.call (below_drew hb1)
  replace hT := hT.call (below_drew hb1)
  replace hT := hT.cons hm3
  clear hm3
  clear e0 e1 e2 e3 e4 e5 e6 e7 e8 e9 e10 e11 e12 e13 e14 e15 e16 e17 e18 e19 e20 e21 e22 e23 e24 hb1 hv q19 fv
  go_upto_region 10 with fail
  refine region_tal 5 [EV (.agg #[.int .i64 (na : Int), .int .i64 (nb : Int), .slice g1 d1 g1c]), PM tx, EV (.agg #[.int .i64 (na : Int), .int .i64 (nb : Int), .slice g1 d1 g1c]), PM gm, NewB x14.heap.size [.int .i64 0, .int .i64 0, .slice none 0 0]] [4] (by kernel_rfl) (by kernel_rfl) ?_ ?_ ?_ ?_ ?_
  ·exact stays_cons (stays_eq _) (stays_cons (stays_pm _) (stays_cons (stays_eq _) (stays_cons (stays_pm _) (stays_cons (stays_new _ _) (stays_nil)))))
  ·simp only [List.take_succ_cons, List.take_zero, hopsR, and_true]
   refine ⟨?_, ?_, ?_, ?_, ?_⟩ <;> intro fv w1 hb1 hp
   all_goals (simp only [putsV, Act.put, List.setIfInBounds_toArray, List.set_cons_succ, List.set_cons_zero, Nat.zero_add, Nat.reduceAdd])
   ·refine tyAt_none rfl ?_
    have hc := (hL0.call (below_drew hb1)).fc
    simp only [fcG, cellsF, neK, and_true, ne_eq, Nat.zero_add, Nat.reduceAdd] at hc
    simp [tyUpon, execOp, go_sem, Act.eval, hc, hnk, hnl, Below.refl]
   ·have h0 : EV _ (fv 0) w1 := hp 0 (LC (by kernel_rfl))
    refine tyAt_none rfl ?_
    refine ty_call (f := 70) (args := #[.agg #[.int .i64 (na : Int), .int .i64 (nb : Int), .slice g1 d1 g1c]]) (by simp [execOp, go_sem, Act.eval, h0]) ?_
    exact (T1.out (.agg #[.int .i64 (na : Int), .int .i64 (nb : Int), .slice g1 d1 g1c]) w1 (mt_of (PT.below (hT.get (List.mem_cons_of_mem _ (List.mem_cons_of_mem _ (List.mem_cons_of_mem _ (List.mem_cons_of_mem _ List.mem_cons_self))))) (below_drew hb1)) hcp1.out hx1.out hx2.out)).mono fun e w2 ⟨pv, h1, h2, h3⟩ => ⟨pv, h1, h2, h3⟩
   ·refine tyAt_none rfl ?_
    have hc := (hL0.call (below_drew hb1)).fc
    simp only [fcG, cellsF, neK, and_true, ne_eq, Nat.zero_add, Nat.reduceAdd] at hc
    simp [tyUpon, execOp, go_sem, Act.eval, hc, hnk, hnl, Below.refl]
   ·have h1 : (PM tx) (fv 1) w1 := hp 1 (LC (by kernel_rfl))
    have h2 : EV _ (fv 2) w1 := hp 2 (LC (by kernel_rfl))
    refine tyAt_none rfl ?_
    refine ty_call (f := 68) (args := #[fv 1, .agg #[.int .i64 (na : Int), .int .i64 (nb : Int), .slice g1 d1 g1c]]) (by simp [execOp, go_sem, Act.eval, h2]) ?_
    exact (M1.out (fv 1) (.agg #[.int .i64 (na : Int), .int .i64 (nb : Int), .slice g1 d1 g1c]) w1 h1 (mt_of (PT.below (hT.get (List.mem_cons_of_mem _ (List.mem_cons_of_mem _ (List.mem_cons_of_mem _ (List.mem_cons_of_mem _ List.mem_cons_self))))) (below_drew hb1)) hcp1.out hx1.out hx2.out)).mono fun e w2 ⟨pv, h1, h2, h3⟩ => ⟨pv, h1, h2, h3⟩
   ·exact tyAt_new rfl rfl new_mat (below_drew hb1).size
  ·intro j hj u w2 hT
   simp only [List.contains_iff_mem, List.mem_cons, List.not_mem_nil, or_false] at hj
   rcases hj with rfl <;> exact NewB.ptr hT
  ·exact ⟨⟨_, _, _, _, rfl, rfl, rfl, new_mat⟩, trivial⟩
  ·intro fv x15 hb1 hv hne
   have e0 : fv 0 = _ := hv 0 (by omega)
   have q1 : MT x15 (fv 1) tx := hv 1 (by omega)
   obtain ⟨g6, d6, g6c, e1, hm4, hcp4⟩ := mt_form q1 htx1.out htx2.out
   replace hcp4 := Lib.hid hcp4
   rw [e1] at q1
   have e2 : fv 2 = _ := hv 2 (by omega)
   have q3 : MT x15 (fv 3) gm := hv 3 (by omega)
   obtain ⟨g7, d7, g7c, e3, hm5, hcp5⟩ := mt_form q3 hgm1.out hgm2.out
   replace hcp5 := Lib.hid hcp5
   rw [e3] at q3
   obtain ⟨kb4, e4, n4, m4⟩ : NewB x14.heap.size [.int .i64 0, .int .i64 0, .slice none 0 0] (fv 4) x15 := hv 4 (by omega)
   simp only [List.take_succ_cons, List.take_zero, putsV, Act.put, List.setIfInBounds_toArray, List.set_cons_succ, List.set_cons_zero, List.drop_succ_cons, List.drop_zero, Nat.zero_add, Nat.reduceAdd, e0, e1, e2, e3, e4]
   have hx0 := hL0
   replace hL0 := hL0.call (below_drew hb1)
   replace hT := hT.call (below_drew hb1)
   replace hL0 := GL.tnew (M := []) hL0 hx0 n4 m4 (fun p hp => by cases hp)
   simp only [List.cons_append, List.nil_append] at hL0
   replace hT := hT.cons hm4
   clear hm4
   replace hT := hT.cons hm5
   clear hm5
   clear e0 e1 e2 e3 e4 hb1 hv hne hx0 n4 m4 q1 q3 fv
   have hT1 := hT.putM ((((Upd.refl kb4 x15).setCell 0 (.int .i64 (nb : Int))).setCell 1 (.int .i64 (nb : Int))).setCell 2 (.slice g7 d7 g7c)) (hL0.get _ _ List.mem_cons_self) (by intro n; simp)
   have hA := hL0.fc
   simp only [fcG, cellsF, neK, and_true, ne_eq, Nat.zero_add, Nat.reduceAdd] at hA
   have hP := hL0.put 0 (kb4) _ rfl [.int .i64 (nb : Int), .int .i64 (nb : Int), .slice g7 d7 g7c] rfl
   simp only [setAll, List.set_cons_zero, List.set_cons_succ] at hP
   generalize hput1 : (((x15.setCell ⟨kb4, 0, none⟩ (.int .i64 (nb : Int))).setCell ⟨kb4, 1, none⟩ (.int .i64 (nb : Int))).setCell ⟨kb4, 2, none⟩ (.slice g7 d7 g7c)) = x16 at hP hT1
   have hB1 := hP.fc
   simp only [fcG, cellsF, neK, and_true, ne_eq, Nat.zero_add, Nat.reduceAdd] at hB1
   replace hL0 := hP
   replace hT := hT1
   clear hT1
   go_wp2_with fail
   clear hA
   with_reducible refine Calls.mono (F3.out (.agg #[.int .i64 (nb : Int), .int .i64 (nb : Int), .slice g7 d7 g7c]) (.slice g3 d3 g3c) (.slice g3 d3 g3c) _ (mt_of (hT.get List.mem_cons_self) hcp5.out hgm1.out hgm2.out) (hT.get (List.mem_cons_of_mem _ (List.mem_cons_of_mem _ (List.mem_cons_of_mem _ (List.mem_cons_of_mem _ List.mem_cons_self))))) (hT.get (List.mem_cons_of_mem _ (List.mem_cons_of_mem _ (List.mem_cons_of_mem _ (List.mem_cons_of_mem _ List.mem_cons_self)))))) ?_
   rintro e x17 ⟨rfl, hb⟩
   replace hL0 := hL0.call hb
   replace hT := hT.call hb
   clear hb hput1 hB1
   have hZ0 := cells_of _ 0 [] rfl (hL0.get _ _ (List.mem_cons_of_mem _ (List.mem_cons_of_mem _ (List.mem_cons_of_mem _ List.mem_cons_self))))
   simp only [cellsF, and_true, Nat.zero_add, Nat.reduceAdd] at hZ0
   replace hT := (hT.new (.cells #[.int .u64 ((zl q2.num : Nat) : Int), .string (zh q2.num), .bool (zs q2.num), .int .u64 ((lo (fe q2) : Nat) : Int), .string (hs (fe q2))] 38))
   replace hL0 := (hL0.new rfl [.int .u64 ((zl q2.num : Nat) : Int), .string (zh q2.num), .bool (zs q2.num), .int .u64 ((lo (fe q2) : Nat) : Int), .string (hs (fe q2))] 38)
   generalize hweq : (x17.alloc (.cells #[.int .u64 ((zl q2.num : Nat) : Int), .string (zh q2.num), .bool (zs q2.num), .int .u64 ((lo (fe q2) : Nat) : Int), .string (hs (fe q2))] 38)) = x18 at hL0 hT
   have hN0 := cells_of _ 0 [] rfl (hL0.get _ _ (List.mem_cons_of_mem _ (List.mem_cons_of_mem _ (List.mem_cons_of_mem _ (List.mem_cons_of_mem _ List.mem_cons_self)))))
   simp only [cellsF, and_true, Nat.zero_add, Nat.reduceAdd] at hN0
   go_wp2_with fail
   clear hN0
   with_reducible refine Calls.mono (P1.out (.agg #[.int .i64 (na : Int), .int .i64 (nb : Int), .slice g1 d1 g1c]) (.slice g3 d3 g3c) _ (mt_of (hT.get (List.mem_cons_of_mem _ (List.mem_cons_of_mem _ (List.mem_cons_of_mem _ (List.mem_cons_of_mem _ (List.mem_cons_of_mem _ (List.mem_cons_of_mem _ List.mem_cons_self))))))) hcp1.out hx1.out hx2.out) (hT.get (List.mem_cons_of_mem _ (List.mem_cons_of_mem _ (List.mem_cons_of_mem _ (List.mem_cons_of_mem _ List.mem_cons_self)))))) ?_
   rintro e x19 ⟨v0, rfl, q0, hb⟩
   replace hL0 := hL0.call hb
   replace hT := hT.call hb
   clear hb hweq
   clear hZ0
   obtain ⟨g8, d8, g8c, rfl, -⟩ := pt_form q0
   replace hT := hT.cons q0
   clear q0
   go_wp2_with fail
   with_reducible refine Calls.mono (D1.out (.slice g8 d8 g8c) (.slice g8 d8 g8c) _ (hT.get List.mem_cons_self) (hT.get List.mem_cons_self)) ?_
   rintro e x20 ⟨rfl, hb⟩
   replace hL0 := hL0.call hb
   replace hT := hT.call hb
   clear hb
   have hZ0 := cells_of _ 0 [] rfl (hL0.get _ _ (List.mem_cons_of_mem _ List.mem_cons_self))
   simp only [cellsF, and_true, Nat.zero_add, Nat.reduceAdd] at hZ0
   replace hT := (hT.new (.cells #[.int .u64 ((zl q2.num : Nat) : Int), .string (zh q2.num), .bool (zs q2.num), .int .u64 ((lo (fe q2) : Nat) : Int), .string (hs (fe q2))] 38))
   replace hL0 := (hL0.new rfl [.int .u64 ((zl q2.num : Nat) : Int), .string (zh q2.num), .bool (zs q2.num), .int .u64 ((lo (fe q2) : Nat) : Int), .string (hs (fe q2))] 38)
   generalize hweq : (x20.alloc (.cells #[.int .u64 ((zl q2.num : Nat) : Int), .string (zh q2.num), .bool (zs q2.num), .int .u64 ((lo (fe q2) : Nat) : Int), .string (hs (fe q2))] 38)) = x21 at hL0 hT
   have hN0 := cells_of _ 0 [] rfl (hL0.get _ _ (List.mem_cons_of_mem _ (List.mem_cons_of_mem _ List.mem_cons_self)))
   simp only [cellsF, and_true, Nat.zero_add, Nat.reduceAdd] at hN0
   go_wp2_with fail
   clear hN0
   with_reducible refine Calls.mono (Y2.out (.agg #[.int .i64 (nb : Int), .int .i64 (nb : Int), .slice g7 d7 g7c]) _ (mt_of (hT.get (List.mem_cons_of_mem _ List.mem_cons_self)) hcp5.out hgm1.out hgm2.out)) ?_
   rintro e x22 ⟨rfl, hb⟩
   replace hL0 := hL0.call hb
   replace hT := hT.call hb
   clear hb hweq
   clear hZ0
   have hN0 := cells_of _ 0 [] rfl (hL0.get _ _ List.mem_cons_self)
   simp only [cellsF, and_true, Nat.zero_add, Nat.reduceAdd] at hN0
   have hN1 := cells_of _ 0 [] rfl (hL0.get _ _ (List.mem_cons_of_mem _ List.mem_cons_self))
   simp only [cellsF, and_true, Nat.zero_add, Nat.reduceAdd] at hN1
   have hN2 := cells_of _ 0 [] rfl (hL0.get _ _ (List.mem_cons_of_mem _ (List.mem_cons_of_mem _ List.mem_cons_self)))
   simp only [cellsF, and_true, Nat.zero_add, Nat.reduceAdd] at hN2
   go_wp2_with fail
   clear hN0 hN1 hN2
   with_reducible refine Calls.mono (HSg.out _) ?_
   rintro e x23 ⟨rfl, hb⟩
   replace hL0 := hL0.call hb
   replace hT := hT.call hb
   clear hb
   go_wp2_with fail
   with_reducible refine Calls.mono (HSy.out _ (hKL.out.at (hL0.bl) kKL)) ?_
   rintro e x24 ⟨v0, rfl, q0, hb⟩
   replace hL0 := hL0.call hb
   replace hT := hT.call hb
   clear hb
   obtain ⟨g9, d9, g9c, rfl, hm6, hcp6⟩ := mt_form q0 hsm1.out hsm2.out
   replace hcp6 := Lib.hid hcp6
   replace hT := hT.cons hm6
   clear hm6
   clear q0
   replace hT := (hT.new (.cells #[.int .i64 (na : Int), .int .i64 (na : Int), .slice g9 d9 g9c] 81))
   replace hL0 := (hL0.new rfl [.int .i64 (na : Int), .int .i64 (na : Int), .slice g9 d9 g9c] 81)
   generalize hweq : (x24.alloc (.cells #[.int .i64 (na : Int), .int .i64 (na : Int), .slice g9 d9 g9c] 81)) = x25 at hL0 hT
   go_wp2_with fail
   with_reducible refine Calls.mono (HV3.out _ (hKW.out.at (hL0.bl) kKW)) ?_
   rintro e x26 ⟨v0, rfl, q0, hb⟩
   replace hL0 := hL0.call hb
   replace hT := hT.call hb
   clear hb hweq
   obtain ⟨g10, d10, g10c, rfl, -⟩ := pt_form q0
   replace hT := hT.cons q0
   clear q0
   have hN0 := cells_of _ 0 [] rfl (hL0.get _ _ List.mem_cons_self)
   simp only [cellsF, and_true, Nat.zero_add, Nat.reduceAdd] at hN0
   go_wp2_with fail
   clear hN0
   with_reducible refine Calls.mono (F4.out (.agg #[.int .i64 (na : Int), .int .i64 (na : Int), .slice g9 d9 g9c]) (.slice g2 d2 g2c) (.slice g10 d10 g10c) _ (mt_of (hT.get (List.mem_cons_of_mem _ List.mem_cons_self)) hcp6.out hsm1.out hsm2.out) (hT.get (List.mem_cons_of_mem _ (List.mem_cons_of_mem _ (List.mem_cons_of_mem _ (List.mem_cons_of_mem _ (List.mem_cons_of_mem _ (List.mem_cons_of_mem _ (List.mem_cons_of_mem _ (List.mem_cons_of_mem _ List.mem_cons_self))))))))) (hT.get List.mem_cons_self)) ?_
   rintro e x27 ⟨rfl, hb⟩
   replace hL0 := hL0.call hb
   replace hT := hT.call hb
   clear hb
   replace hT := (hT.new (.cells #[.int .u64 ((zl q3.num : Nat) : Int), .string (zh q3.num), .bool (zs q3.num), .int .u64 ((lo (fe q3) : Nat) : Int), .string (hs (fe q3))] 38))
   replace hL0 := (hL0.new rfl [.int .u64 ((zl q3.num : Nat) : Int), .string (zh q3.num), .bool (zs q3.num), .int .u64 ((lo (fe q3) : Nat) : Int), .string (hs (fe q3))] 38)
   generalize hweq : (x27.alloc (.cells #[.int .u64 ((zl q3.num : Nat) : Int), .string (zh q3.num), .bool (zs q3.num), .int .u64 ((lo (fe q3) : Nat) : Int), .string (hs (fe q3))] 38)) = x28 at hL0 hT
   go_upto_region 19 with fail
   have hN0 := cells_of _ 0 [] rfl (hL0.get _ _ (List.mem_cons_of_mem _ List.mem_cons_self))
   simp only [cellsF, and_true, Nat.zero_add, Nat.reduceAdd] at hN0
   go_wp2_with fail
   clear hN0
   with_reducible refine Calls.mono (F5.out (.agg #[.int .i64 (na : Int), .int .i64 (na : Int), .slice g9 d9 g9c]) (.slice g10 d10 g10c) (.slice g2 d2 g2c) _ (mt_of (hT.get (List.mem_cons_of_mem _ List.mem_cons_self)) hcp6.out hsm1.out hsm2.out) (hT.get List.mem_cons_self) (hT.get (List.mem_cons_of_mem _ (List.mem_cons_of_mem _ (List.mem_cons_of_mem _ (List.mem_cons_of_mem _ (List.mem_cons_of_mem _ (List.mem_cons_of_mem _ (List.mem_cons_of_mem _ (List.mem_cons_of_mem _ List.mem_cons_self)))))))))) ?_
   rintro e x29 ⟨rfl, hb⟩
   replace hL0 := hL0.call hb
   replace hT := hT.call hb
   clear hb hweq
   have hZ0 := cells_of _ 0 [] rfl (hL0.get _ _ (List.mem_cons_of_mem _ List.mem_cons_self))
   simp only [cellsF, and_true, Nat.zero_add, Nat.reduceAdd] at hZ0
   replace hT := (hT.new (.cells #[.int .u64 ((zl q3.num : Nat) : Int), .string (zh q3.num), .bool (zs q3.num), .int .u64 ((lo (fe q3) : Nat) : Int), .string (hs (fe q3))] 38))
   replace hL0 := (hL0.new rfl [.int .u64 ((zl q3.num : Nat) : Int), .string (zh q3.num), .bool (zs q3.num), .int .u64 ((lo (fe q3) : Nat) : Int), .string (hs (fe q3))] 38)
   generalize hweq : (x29.alloc (.cells #[.int .u64 ((zl q3.num : Nat) : Int), .string (zh q3.num), .bool (zs q3.num), .int .u64 ((lo (fe q3) : Nat) : Int), .string (hs (fe q3))] 38)) = x30 at hL0 hT
   have hN0 := cells_of _ 0 [] rfl (hL0.get _ _ (List.mem_cons_of_mem _ (List.mem_cons_of_mem _ List.mem_cons_self)))
   simp only [cellsF, and_true, Nat.zero_add, Nat.reduceAdd] at hN0
   go_wp2_with fail
   clear hN0
   with_reducible refine Calls.mono (Y3.out (.agg #[.int .i64 (na : Int), .int .i64 (na : Int), .slice g9 d9 g9c]) _ (mt_of (hT.get (List.mem_cons_of_mem _ List.mem_cons_self)) hcp6.out hsm1.out hsm2.out)) ?_
   rintro e x31 ⟨rfl, hb⟩
   replace hL0 := hL0.call hb
   replace hT := hT.call hb
   clear hb hweq
   clear hZ0
   have hN0 := cells_of _ 0 [] rfl (hL0.get _ _ List.mem_cons_self)
   simp only [cellsF, and_true, Nat.zero_add, Nat.reduceAdd] at hN0
   have hN1 := cells_of _ 0 [] rfl (hL0.get _ _ (List.mem_cons_of_mem _ List.mem_cons_self))
   simp only [cellsF, and_true, Nat.zero_add, Nat.reduceAdd] at hN1
   go_wp2_with fail
   clear hN0 hN1
   with_reducible refine Calls.mono (HW.out _ (hKT.out.at hL0.bl kKT)) ?_
   rintro e x32 ⟨rfl, hb⟩
   replace hL0 := hL0.call hb
   replace hT := hT.call hb
   clear hb
   go_wp2_with fail
   exact bodyPost_ret (v := .bool true) (by simp [results, Tryz.results8, go_sem]) rfl ⟨rfl, hL0.bl⟩
set_option maxHeartbeats 16000000 in
set_option maxRecDepth 100000 in
theorem mforms_ns (zr zc : Int) (la av aw al : Option Addr) (lx ly nv cv nw cw nl cl : Nat) (na nb : Nat) (x tx gm sm : Mx) (vx vy vz va : List Rat) (q1 q2 q3 : Rat) (sg : Int) (HFw : ∀ (p0 : Value) (w : World), FWs w p0 ([lx]) → Calls Tryz.prog 40 #[p0] w fun e w' => e = .returned (.bool true) ∧ Below w.heap.size w w') (HSd : ∀ w, Calls Tryz.prog 42 #[.agg #[.int .u8 zr, .int .u8 zc, .slice la lx ly]] w fun xe w' => xe = .returned (.tuple #[.int .i64 (na : Int), .int .i64 (nb : Int)]) ∧ Below w.heap.size w w') (KA : World → Prop) (hKA : Keeps KA) (HMo : ∀ (w : World), KA w → Calls Tryz.prog 57 #[.agg #[.int .u8 zr, .int .u8 zc, .slice la lx ly]] w fun e w' => ∃ pv, e = .returned pv ∧ MT w' pv x ∧ Below w.heap.size w w') (KV : World → Prop) (hKV : Keeps KV) (HV1 : ∀ (w : World), KV w → Calls Tryz.prog 58 #[.slice av nv cv, .int .i64 (na : Int)] w fun e w' => ∃ pv, e = .returned pv ∧ PT w' pv vx ∧ Below w.heap.size w w') (KW : World → Prop) (hKW : Keeps KW) (HV2 : ∀ (w : World), KW w → Calls Tryz.prog 58 #[.slice aw nw cw, .int .i64 (nb : Int)] w fun e w' => ∃ pv, e = .returned pv ∧ PT w' pv vy ∧ Below w.heap.size w w') (F1 : ∀ (p0 p1 p2 : Value) (w : World), MT w p0 x → PT w p1 vx → PT w p2 vy → Calls Tryz.prog 60 #[p0, p1, p2] w fun e w' => e = .returned (.tuple #[fracV q1, .int .i64 0]) ∧ Below w.heap.size w w') (T1 : ∀ (p0 : Value) (w : World), MT w p0 x → Calls Tryz.prog 70 #[p0] w fun e w' => ∃ pv, e = .returned pv ∧ MT w' pv tx ∧ Below w.heap.size w w') (F2 : ∀ (p0 p1 p2 : Value) (w : World), MT w p0 tx → PT w p1 vy → PT w p2 vx → Calls Tryz.prog 60 #[p0, p1, p2] w fun e w' => e = .returned (.tuple #[fracV q1, .int .i64 0]) ∧ Below w.heap.size w w') (Y1 : ∀ (p0 : Value) (w : World), MT w p0 x → Calls Tryz.prog 71 #[p0] w fun e w' => e = .returned (.bool false) ∧ Below w.heap.size w w') (M1 : ∀ (p0 p1 : Value) (w : World), MT w p0 tx → MT w p1 x → Calls Tryz.prog 68 #[p0, p1] w fun e w' => ∃ pv, e = .returned pv ∧ MT w' pv gm ∧ Below w.heap.size w w') (F3 : ∀ (p0 p1 p2 : Value) (w : World), MT w p0 gm → PT w p1 vy → PT w p2 vy → Calls Tryz.prog 60 #[p0, p1, p2] w fun e w' => e = .returned (.tuple #[fracV q2, .int .i64 0]) ∧ Below w.heap.size w w') (P1 : ∀ (p0 p1 : Value) (w : World), MT w p0 x → PT w p1 vy → Calls Tryz.prog 59 #[p0, p1] w fun e w' => ∃ pv, e = .returned (.tuple #[pv, .int .i64 0]) ∧ PT w' pv va ∧ Below w.heap.size w w') (D1 : ∀ (p0 p1 : Value) (w : World), PT w p0 va → PT w p1 va → Calls Tryz.prog 26 #[p0, p1] w fun e w' => e = .returned (.tuple #[fracV q2, .int .i64 0]) ∧ Below w.heap.size w w') (Y2 : ∀ (p0 : Value) (w : World), MT w p0 gm → Calls Tryz.prog 71 #[p0] w fun e w' => e = .returned (.bool true) ∧ Below w.heap.size w w') (HSg : ∀ w, Calls Tryz.prog 72 #[fracV q2] w fun xe w' => xe = .returned (.int .i64 sg) ∧ Below w.heap.size w w') (KL : World → Prop) (hKL : Keeps KL) (HSy : ∀ (w : World), KL w → Calls Tryz.prog 73 #[.int .i64 (na : Int), .slice al nl cl] w fun e w' => ∃ pv, e = .returned pv ∧ MT w' pv sm ∧ Below w.heap.size w w') (HV3 : ∀ (w : World), KW w → Calls Tryz.prog 58 #[.slice aw nw cw, .int .i64 (na : Int)] w fun e w' => ∃ pv, e = .returned pv ∧ PT w' pv vz ∧ Below w.heap.size w w') (F4 : ∀ (p0 p1 p2 : Value) (w : World), MT w p0 sm → PT w p1 vx → PT w p2 vz → Calls Tryz.prog 60 #[p0, p1, p2] w fun e w' => e = .returned (.tuple #[fracV q3, .int .i64 0]) ∧ Below w.heap.size w w') (F5 : ∀ (p0 p1 p2 : Value) (w : World), MT w p0 sm → PT w p1 vz → PT w p2 vx → Calls Tryz.prog 60 #[p0, p1, p2] w fun e w' => e = .returned (.tuple #[fracV q3, .int .i64 0]) ∧ Below w.heap.size w w') (Y3 : ∀ (p0 : Value) (w : World), MT w p0 sm → Calls Tryz.prog 71 #[p0] w fun e w' => e = .returned (.bool true) ∧ Below w.heap.size w w') (KT : World → Prop) (hKT : Keeps KT) (HW : ∀ w, KT w → Calls Tryz.prog 41 #[] w fun xe w' => xe = .returned (.bool true) ∧ Below w.heap.size w w') (l_nv : decide ((20 : Int) < ((nv : Nat) : Int)) = false) (k_nv : decide (20 < nv) = false) (l_nw : decide ((20 : Int) < ((nw : Nat) : Int)) = false) (k_nw : decide (20 < nw) = false) (l_nl : decide ((40 : Int) < ((nl : Nat) : Int)) = false) (k_nl : decide (40 < nl) = false) (hsg : decide (sg < 0) = false) (hsh : ¬ sg < 0) (hx1 : (x.r : Int) = (na : Int)) (htx1 : (tx.r : Int) = (nb : Int)) (hgm1 : (gm.r : Int) = (nb : Int)) (hsm1 : (sm.r : Int) = (na : Int)) (hx2 : (x.c : Int) = (nb : Int)) (htx2 : (tx.c : Int) = (na : Int)) (hgm2 : (gm.c : Int) = (nb : Int)) (hsm2 : (sm.c : Int) = (na : Int)) (hnk : ((na : Int) == (nb : Int)) = false) (hnl : (na == nb) = false) (w : World) (kKA : KA w) (kKV : KV w) (kKW : KW w) (kKL : KL w) (kKT : KT w) :
  Calls Tryz.prog 8 #[.agg #[.int .u8 zr, .int .u8 zc, .slice la lx ly], .slice av nv cv, .slice aw nw cw, .slice al nl cl] w fun e w' => e = .returned (.bool true) ∧ Below w.heap.size w w' := by
 replace HFw := Lib.hid HFw
 replace HSd := Lib.hid HSd
 replace hKA := Lib.hid hKA
 replace HMo := Lib.hid HMo
 replace hKV := Lib.hid hKV
 replace HV1 := Lib.hid HV1
 replace hKW := Lib.hid hKW
 replace HV2 := Lib.hid HV2
 replace F1 := Lib.hid F1
 replace T1 := Lib.hid T1
 replace F2 := Lib.hid F2
 replace Y1 := Lib.hid Y1
 replace M1 := Lib.hid M1
 replace F3 := Lib.hid F3
 replace P1 := Lib.hid P1
 replace D1 := Lib.hid D1
 replace Y2 := Lib.hid Y2
 replace HSg := Lib.hid HSg
 replace hKL := Lib.hid hKL
 replace HSy := Lib.hid HSy
 replace HV3 := Lib.hid HV3
 replace F4 := Lib.hid F4
 replace F5 := Lib.hid F5
 replace Y3 := Lib.hid Y3
 replace hKT := Lib.hid hKT
 replace HW := Lib.hid HW
 have hL0 : GL w w [] := GL.start w
 have hT : PTs w [] := PTs.nil w
 replace hx1 := Lib.hid hx1
 replace hx2 := Lib.hid hx2
 replace htx1 := Lib.hid htx1
 replace htx2 := Lib.hid htx2
 replace hgm1 := Lib.hid hgm1
 replace hgm2 := Lib.hid hgm2
 replace hsm1 := Lib.hid hsm1
 replace hsm2 := Lib.hid hsm2
 have hne2 : ∀ W, (binOp .neq 38 (fracV q2) (fracV q2)).run Tryz.prog W = .ok (.bool false) W := fun W => by have := run_neqF q2 q2 true (by simp) W; exact this
 have heq3 : ∀ W, (binOp .eql 38 (fracV q3) (fracV q3)).run Tryz.prog W = .ok (.bool true) W := fun W => run_eqlF q3 q3 true (by simp) W
 replace hT := (hT.new (.cells #[.int .u8 zr, .int .u8 zc, .slice la lx ly] 76))
 replace hL0 := (hL0.new rfl [.int .u8 zr, .int .u8 zc, .slice la lx ly] 76)
 generalize hweq : (w.alloc (.cells #[.int .u8 zr, .int .u8 zc, .slice la lx ly] 76)) = x1 at hL0 hT
 go_enter Tryz.func8, Tryz.ntmps8
 go_upto_region 1 with fail
 have hZ0 := cells_of _ 0 [] rfl (hL0.get _ _ List.mem_cons_self)
 simp only [cellsF, and_true, Nat.zero_add, Nat.reduceAdd] at hZ0
 replace hT := (hT.new (.cells #[.int .u8 zr, .int .u8 zc, .slice la lx ly] 76))
 clear hweq
 replace hL0 := (hL0.new rfl [.int .u8 zr, .int .u8 zc, .slice la lx ly] 76)
 generalize hweq : (x1.alloc (.cells #[.int .u8 zr, .int .u8 zc, .slice la lx ly] 76)) = x2 at hL0 hT
 have hN0 := cells_of _ 0 [] rfl (hL0.get _ _ (List.mem_cons_of_mem _ List.mem_cons_self))
 simp only [cellsF, and_true, Nat.zero_add, Nat.reduceAdd] at hN0
 have hbv1 : FWs x2 (.slice (some ⟨x1.heap.size, 0, none⟩) 1 1) [lx] := fws_one (hL0.get _ _ List.mem_cons_self)
 replace hbv1 := Lib.hid hbv1
 go_wp2_with fail
 clear hN0
 with_reducible refine Calls.mono (HFw.out (.slice (some ⟨x1.heap.size, 0, none⟩) 1 1) _ hbv1.out) ?_
 rintro e x3 ⟨rfl, hb⟩
 replace hL0 := hL0.call hb
 replace hT := hT.call hb
 clear hb hweq
 clear hZ0
 have hN0 := cells_of _ 0 [] rfl (hL0.get _ _ (List.mem_cons_of_mem _ List.mem_cons_self))
 simp only [cellsF, and_true, Nat.zero_add, Nat.reduceAdd] at hN0
 go_wp2_with fail
 clear hN0
 with_reducible refine Calls.mono (HSd.out _) ?_
 rintro e x4 ⟨rfl, hb⟩
 replace hL0 := hL0.call hb
 replace hT := hT.call hb
 clear hb
 have hN0 := cells_of _ 0 [] rfl (hL0.get _ _ (List.mem_cons_of_mem _ List.mem_cons_self))
 simp only [cellsF, and_true, Nat.zero_add, Nat.reduceAdd] at hN0
 go_wp2_with fail
 clear hN0
 with_reducible refine Calls.mono (HMo.out _ (hKA.out.at (hL0.bl) kKA)) ?_
 rintro e x5 ⟨v0, rfl, q0, hb⟩
 replace hL0 := hL0.call hb
 replace hT := hT.call hb
 clear hb
 obtain ⟨g1, d1, g1c, rfl, hm1, hcp1⟩ := mt_form q0 hx1.out hx2.out
 replace hcp1 := Lib.hid hcp1
 replace hT := hT.cons hm1
 clear hm1
 clear q0
 replace hT := (hT.new (.cells #[.int .i64 (na : Int), .int .i64 (nb : Int), .slice g1 d1 g1c] 81))
 replace hL0 := (hL0.new rfl [.int .i64 (na : Int), .int .i64 (nb : Int), .slice g1 d1 g1c] 81)
 generalize hweq : (x5.alloc (.cells #[.int .i64 (na : Int), .int .i64 (nb : Int), .slice g1 d1 g1c] 81)) = x6 at hL0 hT
 go_wp2_with fail
 with_reducible refine Calls.mono (HV1.out _ (hKV.out.at (hL0.bl) kKV)) ?_
 rintro e x7 ⟨v0, rfl, q0, hb⟩
 replace hL0 := hL0.call hb
 replace hT := hT.call hb
 clear hb hweq
 obtain ⟨g2, d2, g2c, rfl, -⟩ := pt_form q0
 replace hT := hT.cons q0
 clear q0
 go_wp2_with fail
 with_reducible refine Calls.mono (HV2.out _ (hKW.out.at (hL0.bl) kKW)) ?_
 rintro e x8 ⟨v0, rfl, q0, hb⟩
 replace hL0 := hL0.call hb
 replace hT := hT.call hb
 clear hb
 obtain ⟨g3, d3, g3c, rfl, -⟩ := pt_form q0
 replace hT := hT.cons q0
 clear q0
 have hN0 := cells_of _ 0 [] rfl (hL0.get _ _ List.mem_cons_self)
 simp only [cellsF, and_true, Nat.zero_add, Nat.reduceAdd] at hN0
 go_wp2_with fail
 clear hN0
 with_reducible refine Calls.mono (F1.out (.agg #[.int .i64 (na : Int), .int .i64 (nb : Int), .slice g1 d1 g1c]) (.slice g2 d2 g2c) (.slice g3 d3 g3c) _ (mt_of (hT.get (List.mem_cons_of_mem _ (List.mem_cons_of_mem _ List.mem_cons_self))) hcp1.out hx1.out hx2.out) (hT.get (List.mem_cons_of_mem _ List.mem_cons_self)) (hT.get List.mem_cons_self)) ?_
 rintro e x9 ⟨rfl, hb⟩
 replace hL0 := hL0.call hb
 replace hT := hT.call hb
 clear hb
 replace hT := (hT.new (.cells #[.int .u64 ((zl q1.num : Nat) : Int), .string (zh q1.num), .bool (zs q1.num), .int .u64 ((lo (fe q1) : Nat) : Int), .string (hs (fe q1))] 38))
 replace hL0 := (hL0.new rfl [.int .u64 ((zl q1.num : Nat) : Int), .string (zh q1.num), .bool (zs q1.num), .int .u64 ((lo (fe q1) : Nat) : Int), .string (hs (fe q1))] 38)
 generalize hweq : (x9.alloc (.cells #[.int .u64 ((zl q1.num : Nat) : Int), .string (zh q1.num), .bool (zs q1.num), .int .u64 ((lo (fe q1) : Nat) : Int), .string (hs (fe q1))] 38)) = x10 at hL0 hT
 go_upto_region 7 with fail
 have hN0 := cells_of _ 0 [] rfl (hL0.get _ _ (List.mem_cons_of_mem _ List.mem_cons_self))
 simp only [cellsF, and_true, Nat.zero_add, Nat.reduceAdd] at hN0
 go_wp2_with fail
 clear hN0
 with_reducible refine Calls.mono (T1.out (.agg #[.int .i64 (na : Int), .int .i64 (nb : Int), .slice g1 d1 g1c]) _ (mt_of (hT.get (List.mem_cons_of_mem _ (List.mem_cons_of_mem _ List.mem_cons_self))) hcp1.out hx1.out hx2.out)) ?_
 rintro e x11 ⟨v0, rfl, q0, hb⟩
 replace hL0 := hL0.call hb
 replace hT := hT.call hb
 clear hb hweq
 obtain ⟨g4, d4, g4c, rfl, hm2, hcp2⟩ := mt_form q0 htx1.out htx2.out
 replace hcp2 := Lib.hid hcp2
 replace hT := hT.cons hm2
 clear hm2
 clear q0
 go_wp2_with fail
 with_reducible refine Calls.mono (F2.out (.agg #[.int .i64 (nb : Int), .int .i64 (na : Int), .slice g4 d4 g4c]) (.slice g3 d3 g3c) (.slice g2 d2 g2c) _ (mt_of (hT.get List.mem_cons_self) hcp2.out htx1.out htx2.out) (hT.get (List.mem_cons_of_mem _ List.mem_cons_self)) (hT.get (List.mem_cons_of_mem _ (List.mem_cons_of_mem _ List.mem_cons_self)))) ?_
 rintro e x12 ⟨rfl, hb⟩
 replace hL0 := hL0.call hb
 replace hT := hT.call hb
 clear hb
 replace hT := (hT.new (.cells #[.int .u64 ((zl q1.num : Nat) : Int), .string (zh q1.num), .bool (zs q1.num), .int .u64 ((lo (fe q1) : Nat) : Int), .string (hs (fe q1))] 38))
 replace hL0 := (hL0.new rfl [.int .u64 ((zl q1.num : Nat) : Int), .string (zh q1.num), .bool (zs q1.num), .int .u64 ((lo (fe q1) : Nat) : Int), .string (hs (fe q1))] 38)
 generalize hweq : (x12.alloc (.cells #[.int .u64 ((zl q1.num : Nat) : Int), .string (zh q1.num), .bool (zs q1.num), .int .u64 ((lo (fe q1) : Nat) : Int), .string (hs (fe q1))] 38)) = x13 at hL0 hT
 go_upto_region 8 with fail
 clear hweq
 refine region_tl 25 [EV (.int .i64 0), EV (.bool false), EV (.bool false), EV (.int .i64 0), EV (.bool false), EV (.bool false), EV (.bool false), EV (.agg #[.int .u64 ((zl q1.num : Nat) : Int), .string (zh q1.num), .bool (zs q1.num), .int .u64 ((lo (fe q1) : Nat) : Int), .string (hs (fe q1))]), EV (.agg #[.int .u64 ((zl q1.num : Nat) : Int), .string (zh q1.num), .bool (zs q1.num), .int .u64 ((lo (fe q1) : Nat) : Int), .string (hs (fe q1))]), EV (.bool false), EV (.bool false), EV (.bool false), EV (.agg #[.int .i64 (na : Int), .int .i64 (nb : Int), .slice g1 d1 g1c]), EV (.bool false), EV (.int .i64 (na : Int)), EV (.int .i64 (nb : Int)), EV (.bool false), EV (.bool false), EV undef, EV undef, EV undef, EV undef, EV (.bool false), EV (.bool false), EV (.bool false)] (by kernel_rfl) (by kernel_rfl) ?_ ?_ ?_
 ·exact stays_cons (stays_eq _) (stays_cons (stays_eq _) (stays_cons (stays_eq _) (stays_cons (stays_eq _) (stays_cons (stays_eq _) (stays_cons (stays_eq _) (stays_cons (stays_eq _) (stays_cons (stays_eq _) (stays_cons (stays_eq _) (stays_cons (stays_eq _) (stays_cons (stays_eq _) (stays_cons (stays_eq _) (stays_cons (stays_eq _) (stays_cons (stays_eq _) (stays_cons (stays_eq _) (stays_cons (stays_eq _) (stays_cons (stays_eq _) (stays_cons (stays_eq _) (stays_cons (stays_eq _) (stays_cons (stays_eq _) (stays_cons (stays_eq _) (stays_cons (stays_eq _) (stays_cons (stays_eq _) (stays_cons (stays_eq _) (stays_cons (stays_eq _) (stays_nil)))))))))))))))))))))))))
 ·simp only [List.take_succ_cons, List.take_zero, hopsR, and_true]
  refine ⟨?_, ?_, ?_, ?_, ?_, ?_, ?_, ?_, ?_, ?_, ?_, ?_, ?_, ?_, ?_, ?_, ?_, ?_, ?_, ?_, ?_, ?_, ?_, ?_, ?_⟩ <;> intro fv w1 hb1 hp
  all_goals (simp only [putsV, Act.put, List.setIfInBounds_toArray, List.set_cons_succ, List.set_cons_zero, Nat.zero_add, Nat.reduceAdd])
  ·refine tyAt_none rfl ?_
   simp [tyUpon, execOp, go_sem, Act.eval, hnk, hnl, Below.refl]
  ·have h0 : EV _ (fv 0) w1 := hp 0 (LC (by kernel_rfl))
   refine tyAt_none rfl ?_
   simp [tyUpon, execOp, go_sem, Act.eval, h0, hnk, hnl, Below.refl]
  ·have h1 : EV _ (fv 1) w1 := hp 1 (LC (by kernel_rfl))
   refine tyAt_none rfl ?_
   simp [tyUpon, execOp, go_sem, Act.eval, h1, hnk, hnl, Below.refl]
  ·have h2 : EV _ (fv 2) w1 := hp 2 (LC (by kernel_rfl))
   refine tyAt_yes (by simp [Region.wanted, yielded, h2]) ?_
   simp [tyUpon, execOp, go_sem, Act.eval, h2, hnk, hnl, Below.refl]
  ·have h3 : EV _ (fv 3) w1 := hp 3 (LC (by kernel_rfl))
   have h2 : EV _ (fv 2) w1 := hp 2 (LC (by kernel_rfl))
   refine tyAt_yes (by simp [Region.wanted, yielded, h3, h2]) ?_
   simp [tyUpon, execOp, go_sem, Act.eval, h3, h2, hnk, hnl, Below.refl]
  ·have h2 : EV _ (fv 2) w1 := hp 2 (LC (by kernel_rfl))
   have h4 : EV _ (fv 4) w1 := hp 4 (LC (by kernel_rfl))
   refine tyAt_none rfl ?_
   simp [tyUpon, execOp, go_sem, Act.eval, h2, h4, hnk, hnl, Below.refl]
  ·have h5 : EV _ (fv 5) w1 := hp 5 (LC (by kernel_rfl))
   refine tyAt_none rfl ?_
   simp [tyUpon, execOp, go_sem, Act.eval, h5, hnk, hnl, Below.refl]
  ·have h6 : EV _ (fv 6) w1 := hp 6 (LC (by kernel_rfl))
   refine tyAt_yes (by simp [Region.wanted, yielded, h6]) ?_
   have hc := (hL0.call (below_drew hb1)).fc
   simp only [fcG, cellsF, neK, and_true, ne_eq, Nat.zero_add, Nat.reduceAdd] at hc
   simp [tyUpon, execOp, go_sem, Act.eval, hc, h6, hnk, hnl, Below.refl]
  ·have h6 : EV _ (fv 6) w1 := hp 6 (LC (by kernel_rfl))
   refine tyAt_yes (by simp [Region.wanted, yielded, h6]) ?_
   have hc := (hL0.call (below_drew hb1)).fc
   simp only [fcG, cellsF, neK, and_true, ne_eq, Nat.zero_add, Nat.reduceAdd] at hc
   simp [tyUpon, execOp, go_sem, Act.eval, hc, h6, hnk, hnl, Below.refl]
  ·have h7 : EV _ (fv 7) w1 := hp 7 (LC (by kernel_rfl))
   have h8 : EV _ (fv 8) w1 := hp 8 (LC (by kernel_rfl))
   have h6 : EV _ (fv 6) w1 := hp 6 (LC (by kernel_rfl))
   refine tyAt_yes (by simp [Region.wanted, yielded, h7, h8, h6]) ?_
   simp [tyUpon, execOp, go_sem, Act.eval, h7, h8, h6, hnk, hnl, Below.refl]
  ·have h6 : EV _ (fv 6) w1 := hp 6 (LC (by kernel_rfl))
   have h9 : EV _ (fv 9) w1 := hp 9 (LC (by kernel_rfl))
   refine tyAt_none rfl ?_
   simp [tyUpon, execOp, go_sem, Act.eval, h6, h9, hnk, hnl, Below.refl]
  ·have h10 : EV _ (fv 10) w1 := hp 10 (LC (by kernel_rfl))
   refine tyAt_none rfl ?_
   simp [tyUpon, execOp, go_sem, Act.eval, h10, hnk, hnl, Below.refl]
  ·have h11 : EV _ (fv 11) w1 := hp 11 (LC (by kernel_rfl))
   refine tyAt_yes (by simp [Region.wanted, yielded, h11]) ?_
   have hc := (hL0.call (below_drew hb1)).fc
   simp only [fcG, cellsF, neK, and_true, ne_eq, Nat.zero_add, Nat.reduceAdd] at hc
   simp [tyUpon, execOp, go_sem, Act.eval, hc, h11, hnk, hnl, Below.refl]
  ·have h12 : EV _ (fv 12) w1 := hp 12 (LC (by kernel_rfl))
   have h11 : EV _ (fv 11) w1 := hp 11 (LC (by kernel_rfl))
   refine tyAt_yes (by simp [Region.wanted, yielded, h12, h11]) ?_
   refine ty_call (f := 71) (args := #[.agg #[.int .i64 (na : Int), .int .i64 (nb : Int), .slice g1 d1 g1c]]) (by simp [execOp, go_sem, Act.eval, h12, h11]) ?_
   exact (Y1.out (.agg #[.int .i64 (na : Int), .int .i64 (nb : Int), .slice g1 d1 g1c]) w1 (mt_of (PT.below (hT.get (List.mem_cons_of_mem _ (List.mem_cons_of_mem _ (List.mem_cons_of_mem _ List.mem_cons_self)))) (below_drew hb1)) hcp1.out hx1.out hx2.out)).mono fun e w2 ⟨h1, h2⟩ => ⟨_, h1, rfl, h2⟩
  ·have h11 : EV _ (fv 11) w1 := hp 11 (LC (by kernel_rfl))
   refine tyAt_yes (by simp [Region.wanted, yielded, h11]) ?_
   simp [tyUpon, execOp, go_sem, Act.eval, h11, hnk, hnl, Below.refl]
  ·have h11 : EV _ (fv 11) w1 := hp 11 (LC (by kernel_rfl))
   refine tyAt_yes (by simp [Region.wanted, yielded, h11]) ?_
   simp [tyUpon, execOp, go_sem, Act.eval, h11, hnk, hnl, Below.refl]
  ·have h14 : EV _ (fv 14) w1 := hp 14 (LC (by kernel_rfl))
   have h15 : EV _ (fv 15) w1 := hp 15 (LC (by kernel_rfl))
   have h11 : EV _ (fv 11) w1 := hp 11 (LC (by kernel_rfl))
   refine tyAt_yes (by simp [Region.wanted, yielded, h14, h15, h11]) ?_
   simp [tyUpon, execOp, go_sem, Act.eval, h14, h15, h11, hnk, hnl, Below.refl]
  ·have h16 : EV _ (fv 16) w1 := hp 16 (LC (by kernel_rfl))
   have h11 : EV _ (fv 11) w1 := hp 11 (LC (by kernel_rfl))
   refine tyAt_yes (by simp [Region.wanted, yielded, h16, h11]) ?_
   simp [tyUpon, execOp, go_sem, Act.eval, h16, h11, hnk, hnl, Below.refl]
  ·have h17 : EV _ (fv 17) w1 := hp 17 (LC (by kernel_rfl))
   exact tyAt_no (by simp [Region.wanted, yielded, h17]) rfl
  ·have h17 : EV _ (fv 17) w1 := hp 17 (LC (by kernel_rfl))
   exact tyAt_no (by simp [Region.wanted, yielded, h17]) rfl
  ·have h17 : EV _ (fv 17) w1 := hp 17 (LC (by kernel_rfl))
   exact tyAt_no (by simp [Region.wanted, yielded, h17]) rfl
  ·have h17 : EV _ (fv 17) w1 := hp 17 (LC (by kernel_rfl))
   exact tyAt_no (by simp [Region.wanted, yielded, h17]) rfl
  ·have h17 : EV _ (fv 17) w1 := hp 17 (LC (by kernel_rfl))
   have h21 : EV _ (fv 21) w1 := hp 21 (LC (by kernel_rfl))
   have h11 : EV _ (fv 11) w1 := hp 11 (LC (by kernel_rfl))
   refine tyAt_yes (by simp [Region.wanted, yielded, h17, h21, h11]) ?_
   simp [tyUpon, execOp, go_sem, Act.eval, h17, h21, h11, hnk, hnl, Below.refl]
  ·have h13 : EV _ (fv 13) w1 := hp 13 (LC (by kernel_rfl))
   have h22 : EV _ (fv 22) w1 := hp 22 (LC (by kernel_rfl))
   have h11 : EV _ (fv 11) w1 := hp 11 (LC (by kernel_rfl))
   refine tyAt_yes (by simp [Region.wanted, yielded, h13, h22, h11]) ?_
   simp [tyUpon, execOp, go_sem, Act.eval, h13, h22, h11, hnk, hnl, Below.refl]
  ·have h11 : EV _ (fv 11) w1 := hp 11 (LC (by kernel_rfl))
   have h23 : EV _ (fv 23) w1 := hp 23 (LC (by kernel_rfl))
   refine tyAt_none rfl ?_
   simp [tyUpon, execOp, go_sem, Act.eval, h11, h23, hnk, hnl, Below.refl]
 ·intro fv x14 hb1 hv
  have e0 : fv 0 = _ := hv 0 (by omega)
  have e1 : fv 1 = _ := hv 1 (by omega)
  have e2 : fv 2 = _ := hv 2 (by omega)
  have e3 : fv 3 = _ := hv 3 (by omega)
  have e4 : fv 4 = _ := hv 4 (by omega)
  have e5 : fv 5 = _ := hv 5 (by omega)
  have e6 : fv 6 = _ := hv 6 (by omega)
  have e7 : fv 7 = _ := hv 7 (by omega)
  have e8 : fv 8 = _ := hv 8 (by omega)
  have e9 : fv 9 = _ := hv 9 (by omega)
  have e10 : fv 10 = _ := hv 10 (by omega)
  have e11 : fv 11 = _ := hv 11 (by omega)
  have e12 : fv 12 = _ := hv 12 (by omega)
  have e13 : fv 13 = _ := hv 13 (by omega)
  have e14 : fv 14 = _ := hv 14 (by omega)
  have e15 : fv 15 = _ := hv 15 (by omega)
  have e16 : fv 16 = _ := hv 16 (by omega)
  have e17 : fv 17 = _ := hv 17 (by omega)
  have e18 : fv 18 = _ := hv 18 (by omega)
  have e19 : fv 19 = _ := hv 19 (by omega)
  have e20 : fv 20 = _ := hv 20 (by omega)
  have e21 : fv 21 = _ := hv 21 (by omega)
  have e22 : fv 22 = _ := hv 22 (by omega)
  have e23 : fv 23 = _ := hv 23 (by omega)
  have e24 : fv 24 = _ := hv 24 (by omega)
  simp only [List.take_succ_cons, List.take_zero, putsV, Act.put, List.setIfInBounds_toArray, List.set_cons_succ, List.set_cons_zero, List.drop_succ_cons, List.drop_zero, Nat.zero_add, Nat.reduceAdd, e0, e1, e2, e3, e4, e5, e6, e7, e8, e9, e10, e11, e12, e13, e14, e15, e16, e17, e18, e19, e20, e21, e22, e23, e24]
  replace hL0 := hL0.call (below_drew hb1)
  replace hT := hT.call (below_drew hb1)
  clear e0 e1 e2 e3 e4 e5 e6 e7 e8 e9 e10 e11 e12 e13 e14 e15 e16 e17 e18 e19 e20 e21 e22 e23 e24 hb1 hv fv
  go_upto_region 10 with fail
  refine region_tal 5 [EV (.agg #[.int .i64 (na : Int), .int .i64 (nb : Int), .slice g1 d1 g1c]), PM tx, EV (.agg #[.int .i64 (na : Int), .int .i64 (nb : Int), .slice g1 d1 g1c]), PM gm, NewB x14.heap.size [.int .i64 0, .int .i64 0, .slice none 0 0]] [4] (by kernel_rfl) (by kernel_rfl) ?_ ?_ ?_ ?_ ?_
  ·exact stays_cons (stays_eq _) (stays_cons (stays_pm _) (stays_cons (stays_eq _) (stays_cons (stays_pm _) (stays_cons (stays_new _ _) (stays_nil)))))
  ·simp only [List.take_succ_cons, List.take_zero, hopsR, and_true]
   refine ⟨?_, ?_, ?_, ?_, ?_⟩ <;> intro fv w1 hb1 hp
   all_goals (simp only [putsV, Act.put, List.setIfInBounds_toArray, List.set_cons_succ, List.set_cons_zero, Nat.zero_add, Nat.reduceAdd])
   ·refine tyAt_none rfl ?_
    have hc := (hL0.call (below_drew hb1)).fc
    simp only [fcG, cellsF, neK, and_true, ne_eq, Nat.zero_add, Nat.reduceAdd] at hc
    simp [tyUpon, execOp, go_sem, Act.eval, hc, hnk, hnl, Below.refl]
   ·have h0 : EV _ (fv 0) w1 := hp 0 (LC (by kernel_rfl))
    refine tyAt_none rfl ?_
    refine ty_call (f := 70) (args := #[.agg #[.int .i64 (na : Int), .int .i64 (nb : Int), .slice g1 d1 g1c]]) (by simp [execOp, go_sem, Act.eval, h0]) ?_
    exact (T1.out (.agg #[.int .i64 (na : Int), .int .i64 (nb : Int), .slice g1 d1 g1c]) w1 (mt_of (PT.below (hT.get (List.mem_cons_of_mem _ (List.mem_cons_of_mem _ (List.mem_cons_of_mem _ List.mem_cons_self)))) (below_drew hb1)) hcp1.out hx1.out hx2.out)).mono fun e w2 ⟨pv, h1, h2, h3⟩ => ⟨pv, h1, h2, h3⟩
   ·refine tyAt_none rfl ?_
    have hc := (hL0.call (below_drew hb1)).fc
    simp only [fcG, cellsF, neK, and_true, ne_eq, Nat.zero_add, Nat.reduceAdd] at hc
    simp [tyUpon, execOp, go_sem, Act.eval, hc, hnk, hnl, Below.refl]
   ·have h1 : (PM tx) (fv 1) w1 := hp 1 (LC (by kernel_rfl))
    have h2 : EV _ (fv 2) w1 := hp 2 (LC (by kernel_rfl))
    refine tyAt_none rfl ?_
    refine ty_call (f := 68) (args := #[fv 1, .agg #[.int .i64 (na : Int), .int .i64 (nb : Int), .slice g1 d1 g1c]]) (by simp [execOp, go_sem, Act.eval, h2]) ?_
    exact (M1.out (fv 1) (.agg #[.int .i64 (na : Int), .int .i64 (nb : Int), .slice g1 d1 g1c]) w1 h1 (mt_of (PT.below (hT.get (List.mem_cons_of_mem _ (List.mem_cons_of_mem _ (List.mem_cons_of_mem _ List.mem_cons_self)))) (below_drew hb1)) hcp1.out hx1.out hx2.out)).mono fun e w2 ⟨pv, h1, h2, h3⟩ => ⟨pv, h1, h2, h3⟩
   ·exact tyAt_new rfl rfl new_mat (below_drew hb1).size
  ·intro j hj u w2 hT
   simp only [List.contains_iff_mem, List.mem_cons, List.not_mem_nil, or_false] at hj
   rcases hj with rfl <;> exact NewB.ptr hT
  ·exact ⟨⟨_, _, _, _, rfl, rfl, rfl, new_mat⟩, trivial⟩
  ·intro fv x15 hb1 hv hne
   have e0 : fv 0 = _ := hv 0 (by omega)
   have q1 : MT x15 (fv 1) tx := hv 1 (by omega)
   obtain ⟨g5, d5, g5c, e1, hm3, hcp3⟩ := mt_form q1 htx1.out htx2.out
   replace hcp3 := Lib.hid hcp3
   rw [e1] at q1
   have e2 : fv 2 = _ := hv 2 (by omega)
   have q3 : MT x15 (fv 3) gm := hv 3 (by omega)
   obtain ⟨g6, d6, g6c, e3, hm4, hcp4⟩ := mt_form q3 hgm1.out hgm2.out
   replace hcp4 := Lib.hid hcp4
   rw [e3] at q3
   obtain ⟨kb4, e4, n4, m4⟩ : NewB x14.heap.size [.int .i64 0, .int .i64 0, .slice none 0 0] (fv 4) x15 := hv 4 (by omega)
   simp only [List.take_succ_cons, List.take_zero, putsV, Act.put, List.setIfInBounds_toArray, List.set_cons_succ, List.set_cons_zero, List.drop_succ_cons, List.drop_zero, Nat.zero_add, Nat.reduceAdd, e0, e1, e2, e3, e4]
   have hx0 := hL0
   replace hL0 := hL0.call (below_drew hb1)
   replace hT := hT.call (below_drew hb1)
   replace hL0 := GL.tnew (M := []) hL0 hx0 n4 m4 (fun p hp => by cases hp)
   simp only [List.cons_append, List.nil_append] at hL0
   replace hT := hT.cons hm3
   clear hm3
   replace hT := hT.cons hm4
   clear hm4
   clear e0 e1 e2 e3 e4 hb1 hv hne hx0 n4 m4 q1 q3 fv
   have hT1 := hT.putM ((((Upd.refl kb4 x15).setCell 0 (.int .i64 (nb : Int))).setCell 1 (.int .i64 (nb : Int))).setCell 2 (.slice g6 d6 g6c)) (hL0.get _ _ List.mem_cons_self) (by intro n; simp)
   have hA := hL0.fc
   simp only [fcG, cellsF, neK, and_true, ne_eq, Nat.zero_add, Nat.reduceAdd] at hA
   have hP := hL0.put 0 (kb4) _ rfl [.int .i64 (nb : Int), .int .i64 (nb : Int), .slice g6 d6 g6c] rfl
   simp only [setAll, List.set_cons_zero, List.set_cons_succ] at hP
   generalize hput1 : (((x15.setCell ⟨kb4, 0, none⟩ (.int .i64 (nb : Int))).setCell ⟨kb4, 1, none⟩ (.int .i64 (nb : Int))).setCell ⟨kb4, 2, none⟩ (.slice g6 d6 g6c)) = x16 at hP hT1
   have hB1 := hP.fc
   simp only [fcG, cellsF, neK, and_true, ne_eq, Nat.zero_add, Nat.reduceAdd] at hB1
   replace hL0 := hP
   replace hT := hT1
   clear hT1
   go_wp2_with fail
   clear hA
   with_reducible refine Calls.mono (F3.out (.agg #[.int .i64 (nb : Int), .int .i64 (nb : Int), .slice g6 d6 g6c]) (.slice g3 d3 g3c) (.slice g3 d3 g3c) _ (mt_of (hT.get List.mem_cons_self) hcp4.out hgm1.out hgm2.out) (hT.get (List.mem_cons_of_mem _ (List.mem_cons_of_mem _ (List.mem_cons_of_mem _ List.mem_cons_self)))) (hT.get (List.mem_cons_of_mem _ (List.mem_cons_of_mem _ (List.mem_cons_of_mem _ List.mem_cons_self))))) ?_
   rintro e x17 ⟨rfl, hb⟩
   replace hL0 := hL0.call hb
   replace hT := hT.call hb
   clear hb hput1 hB1
   have hZ0 := cells_of _ 0 [] rfl (hL0.get _ _ (List.mem_cons_of_mem _ (List.mem_cons_of_mem _ (List.mem_cons_of_mem _ List.mem_cons_self))))
   simp only [cellsF, and_true, Nat.zero_add, Nat.reduceAdd] at hZ0
   replace hT := (hT.new (.cells #[.int .u64 ((zl q2.num : Nat) : Int), .string (zh q2.num), .bool (zs q2.num), .int .u64 ((lo (fe q2) : Nat) : Int), .string (hs (fe q2))] 38))
   replace hL0 := (hL0.new rfl [.int .u64 ((zl q2.num : Nat) : Int), .string (zh q2.num), .bool (zs q2.num), .int .u64 ((lo (fe q2) : Nat) : Int), .string (hs (fe q2))] 38)
   generalize hweq : (x17.alloc (.cells #[.int .u64 ((zl q2.num : Nat) : Int), .string (zh q2.num), .bool (zs q2.num), .int .u64 ((lo (fe q2) : Nat) : Int), .string (hs (fe q2))] 38)) = x18 at hL0 hT
   have hN0 := cells_of _ 0 [] rfl (hL0.get _ _ (List.mem_cons_of_mem _ (List.mem_cons_of_mem _ (List.mem_cons_of_mem _ (List.mem_cons_of_mem _ List.mem_cons_self)))))
   simp only [cellsF, and_true, Nat.zero_add, Nat.reduceAdd] at hN0
   go_wp2_with fail
   clear hN0
   with_reducible refine Calls.mono (P1.out (.agg #[.int .i64 (na : Int), .int .i64 (nb : Int), .slice g1 d1 g1c]) (.slice g3 d3 g3c) _ (mt_of (hT.get (List.mem_cons_of_mem _ (List.mem_cons_of_mem _ (List.mem_cons_of_mem _ (List.mem_cons_of_mem _ (List.mem_cons_of_mem _ List.mem_cons_self)))))) hcp1.out hx1.out hx2.out) (hT.get (List.mem_cons_of_mem _ (List.mem_cons_of_mem _ (List.mem_cons_of_mem _ List.mem_cons_self))))) ?_
   rintro e x19 ⟨v0, rfl, q0, hb⟩
   replace hL0 := hL0.call hb
   replace hT := hT.call hb
   clear hb hweq
   clear hZ0
   obtain ⟨g7, d7, g7c, rfl, -⟩ := pt_form q0
   replace hT := hT.cons q0
   clear q0
   go_wp2_with fail
   with_reducible refine Calls.mono (D1.out (.slice g7 d7 g7c) (.slice g7 d7 g7c) _ (hT.get List.mem_cons_self) (hT.get List.mem_cons_self)) ?_
   rintro e x20 ⟨rfl, hb⟩
   replace hL0 := hL0.call hb
   replace hT := hT.call hb
   clear hb
   have hZ0 := cells_of _ 0 [] rfl (hL0.get _ _ (List.mem_cons_of_mem _ List.mem_cons_self))
   simp only [cellsF, and_true, Nat.zero_add, Nat.reduceAdd] at hZ0
   replace hT := (hT.new (.cells #[.int .u64 ((zl q2.num : Nat) : Int), .string (zh q2.num), .bool (zs q2.num), .int .u64 ((lo (fe q2) : Nat) : Int), .string (hs (fe q2))] 38))
   replace hL0 := (hL0.new rfl [.int .u64 ((zl q2.num : Nat) : Int), .string (zh q2.num), .bool (zs q2.num), .int .u64 ((lo (fe q2) : Nat) : Int), .string (hs (fe q2))] 38)
   generalize hweq : (x20.alloc (.cells #[.int .u64 ((zl q2.num : Nat) : Int), .string (zh q2.num), .bool (zs q2.num), .int .u64 ((lo (fe q2) : Nat) : Int), .string (hs (fe q2))] 38)) = x21 at hL0 hT
   have hN0 := cells_of _ 0 [] rfl (hL0.get _ _ (List.mem_cons_of_mem _ (List.mem_cons_of_mem _ List.mem_cons_self)))
   simp only [cellsF, and_true, Nat.zero_add, Nat.reduceAdd] at hN0
   go_wp2_with fail
   clear hN0
   with_reducible refine Calls.mono (Y2.out (.agg #[.int .i64 (nb : Int), .int .i64 (nb : Int), .slice g6 d6 g6c]) _ (mt_of (hT.get (List.mem_cons_of_mem _ List.mem_cons_self)) hcp4.out hgm1.out hgm2.out)) ?_
   rintro e x22 ⟨rfl, hb⟩
   replace hL0 := hL0.call hb
   replace hT := hT.call hb
   clear hb hweq
   clear hZ0
   have hN0 := cells_of _ 0 [] rfl (hL0.get _ _ List.mem_cons_self)
   simp only [cellsF, and_true, Nat.zero_add, Nat.reduceAdd] at hN0
   have hN1 := cells_of _ 0 [] rfl (hL0.get _ _ (List.mem_cons_of_mem _ List.mem_cons_self))
   simp only [cellsF, and_true, Nat.zero_add, Nat.reduceAdd] at hN1
   have hN2 := cells_of _ 0 [] rfl (hL0.get _ _ (List.mem_cons_of_mem _ (List.mem_cons_of_mem _ List.mem_cons_self)))
   simp only [cellsF, and_true, Nat.zero_add, Nat.reduceAdd] at hN2
   go_wp2_with fail
   clear hN0 hN1 hN2
   with_reducible refine Calls.mono (HSg.out _) ?_
   rintro e x23 ⟨rfl, hb⟩
   replace hL0 := hL0.call hb
   replace hT := hT.call hb
   clear hb
   go_wp2_with fail
   with_reducible refine Calls.mono (HSy.out _ (hKL.out.at (hL0.bl) kKL)) ?_
   rintro e x24 ⟨v0, rfl, q0, hb⟩
   replace hL0 := hL0.call hb
   replace hT := hT.call hb
   clear hb
   obtain ⟨g8, d8, g8c, rfl, hm5, hcp5⟩ := mt_form q0 hsm1.out hsm2.out
   replace hcp5 := Lib.hid hcp5
   replace hT := hT.cons hm5
   clear hm5
   clear q0
   replace hT := (hT.new (.cells #[.int .i64 (na : Int), .int .i64 (na : Int), .slice g8 d8 g8c] 81))
   replace hL0 := (hL0.new rfl [.int .i64 (na : Int), .int .i64 (na : Int), .slice g8 d8 g8c] 81)
   generalize hweq : (x24.alloc (.cells #[.int .i64 (na : Int), .int .i64 (na : Int), .slice g8 d8 g8c] 81)) = x25 at hL0 hT
   go_wp2_with fail
   with_reducible refine Calls.mono (HV3.out _ (hKW.out.at (hL0.bl) kKW)) ?_
   rintro e x26 ⟨v0, rfl, q0, hb⟩
   replace hL0 := hL0.call hb
   replace hT := hT.call hb
   clear hb hweq
   obtain ⟨g9, d9, g9c, rfl, -⟩ := pt_form q0
   replace hT := hT.cons q0
   clear q0
   have hN0 := cells_of _ 0 [] rfl (hL0.get _ _ List.mem_cons_self)
   simp only [cellsF, and_true, Nat.zero_add, Nat.reduceAdd] at hN0
   go_wp2_with fail
   clear hN0
   with_reducible refine Calls.mono (F4.out (.agg #[.int .i64 (na : Int), .int .i64 (na : Int), .slice g8 d8 g8c]) (.slice g2 d2 g2c) (.slice g9 d9 g9c) _ (mt_of (hT.get (List.mem_cons_of_mem _ List.mem_cons_self)) hcp5.out hsm1.out hsm2.out) (hT.get (List.mem_cons_of_mem _ (List.mem_cons_of_mem _ (List.mem_cons_of_mem _ (List.mem_cons_of_mem _ (List.mem_cons_of_mem _ (List.mem_cons_of_mem _ (List.mem_cons_of_mem _ List.mem_cons_self)))))))) (hT.get List.mem_cons_self)) ?_
   rintro e x27 ⟨rfl, hb⟩
   replace hL0 := hL0.call hb
   replace hT := hT.call hb
   clear hb
   replace hT := (hT.new (.cells #[.int .u64 ((zl q3.num : Nat) : Int), .string (zh q3.num), .bool (zs q3.num), .int .u64 ((lo (fe q3) : Nat) : Int), .string (hs (fe q3))] 38))
   replace hL0 := (hL0.new rfl [.int .u64 ((zl q3.num : Nat) : Int), .string (zh q3.num), .bool (zs q3.num), .int .u64 ((lo (fe q3) : Nat) : Int), .string (hs (fe q3))] 38)
   generalize hweq : (x27.alloc (.cells #[.int .u64 ((zl q3.num : Nat) : Int), .string (zh q3.num), .bool (zs q3.num), .int .u64 ((lo (fe q3) : Nat) : Int), .string (hs (fe q3))] 38)) = x28 at hL0 hT
   go_upto_region 19 with fail
   have hN0 := cells_of _ 0 [] rfl (hL0.get _ _ (List.mem_cons_of_mem _ List.mem_cons_self))
   simp only [cellsF, and_true, Nat.zero_add, Nat.reduceAdd] at hN0
   go_wp2_with fail
   clear hN0
   with_reducible refine Calls.mono (F5.out (.agg #[.int .i64 (na : Int), .int .i64 (na : Int), .slice g8 d8 g8c]) (.slice g9 d9 g9c) (.slice g2 d2 g2c) _ (mt_of (hT.get (List.mem_cons_of_mem _ List.mem_cons_self)) hcp5.out hsm1.out hsm2.out) (hT.get List.mem_cons_self) (hT.get (List.mem_cons_of_mem _ (List.mem_cons_of_mem _ (List.mem_cons_of_mem _ (List.mem_cons_of_mem _ (List.mem_cons_of_mem _ (List.mem_cons_of_mem _ (List.mem_cons_of_mem _ List.mem_cons_self))))))))) ?_
   rintro e x29 ⟨rfl, hb⟩
   replace hL0 := hL0.call hb
   replace hT := hT.call hb
   clear hb hweq
   have hZ0 := cells_of _ 0 [] rfl (hL0.get _ _ (List.mem_cons_of_mem _ List.mem_cons_self))
   simp only [cellsF, and_true, Nat.zero_add, Nat.reduceAdd] at hZ0
   replace hT := (hT.new (.cells #[.int .u64 ((zl q3.num : Nat) : Int), .string (zh q3.num), .bool (zs q3.num), .int .u64 ((lo (fe q3) : Nat) : Int), .string (hs (fe q3))] 38))
   replace hL0 := (hL0.new rfl [.int .u64 ((zl q3.num : Nat) : Int), .string (zh q3.num), .bool (zs q3.num), .int .u64 ((lo (fe q3) : Nat) : Int), .string (hs (fe q3))] 38)
   generalize hweq : (x29.alloc (.cells #[.int .u64 ((zl q3.num : Nat) : Int), .string (zh q3.num), .bool (zs q3.num), .int .u64 ((lo (fe q3) : Nat) : Int), .string (hs (fe q3))] 38)) = x30 at hL0 hT
   have hN0 := cells_of _ 0 [] rfl (hL0.get _ _ (List.mem_cons_of_mem _ (List.mem_cons_of_mem _ List.mem_cons_self)))
   simp only [cellsF, and_true, Nat.zero_add, Nat.reduceAdd] at hN0
   go_wp2_with fail
   clear hN0
   with_reducible refine Calls.mono (Y3.out (.agg #[.int .i64 (na : Int), .int .i64 (na : Int), .slice g8 d8 g8c]) _ (mt_of (hT.get (List.mem_cons_of_mem _ List.mem_cons_self)) hcp5.out hsm1.out hsm2.out)) ?_
   rintro e x31 ⟨rfl, hb⟩
   replace hL0 := hL0.call hb
   replace hT := hT.call hb
   clear hb hweq
   clear hZ0
   have hN0 := cells_of _ 0 [] rfl (hL0.get _ _ List.mem_cons_self)
   simp only [cellsF, and_true, Nat.zero_add, Nat.reduceAdd] at hN0
   have hN1 := cells_of _ 0 [] rfl (hL0.get _ _ (List.mem_cons_of_mem _ List.mem_cons_self))
   simp only [cellsF, and_true, Nat.zero_add, Nat.reduceAdd] at hN1
   go_wp2_with fail
   clear hN0 hN1
   with_reducible refine Calls.mono (HW.out _ (hKT.out.at hL0.bl kKT)) ?_
   rintro e x32 ⟨rfl, hb⟩
   replace hL0 := hL0.call hb
   replace hT := hT.call hb
   clear hb
   go_wp2_with fail
   exact bodyPost_ret (v := .bool true) (by simp [results, Tryz.results8, go_sem]) rfl ⟨rfl, hL0.bl⟩
end Go.Proofs.YthkodldppaccmaaGreatDoor
namespace Go.Proofs.YthkodldppaccmaaGreatDoor
open Go.RowKit
attribute [local irreducible] lo hs sm s64 c64 d64 b64 mh ml pd pc qd qc val hiB str cmpI srD lz nb zl zh zs fe qmade
theorem t7 {z : Int} (h : 0 ≤ z) : ∃ d : Nat, Int.tmod z 7 = (d : Int) ∧ d ≤ 6 := by
 rw [Int.tmod_eq_emod_of_nonneg h]
 exact ⟨(z % 7).toNat, by omega, by omega⟩
theorem sgn_nn {q : Rat} (h : 0 ≤ q) : ¬ sgnQ q < 0 := by
 unfold sgnQ
 have h1 : ¬ q < 0 := Rat.not_lt.2 h
 rw [if_neg h1]
 split <;> omega
theorem DotT {x : List Rat} {n k : Nat} (hx : GV x n k) (hn : n ≤ 12) (hk : k ≤ 700) (p q : Value) (w : World) (hp : PT w p x) (hq : PT w q x) :
  Calls Tryz.prog 26 #[p, q] w fun xe w' => xe = .returned (.tuple #[fracV (dotL n x x), .int .i64 0]) ∧ Below w.heap.size w w' :=
 mDotV x x n k hx.len hx.len (by omega) (mul9 hn (show k + k + 1 ≤ 1401 by omega) (by omega)) (by omega) hx.sz hx.sz p q w hp.rq hq.rq
theorem mmof_any (ql : List (Int × Int)) (zr zc : Int) (al : Option Addr) (nl cl sa sb : Nat) (ea : Int.tmod zr 7 = (sa : Int)) (eb : Int.tmod zc 7 = (sb : Int)) (ha : sa ≤ 6) (hb : sb ≤ 6) (hn : nl ≤ 1000) (w : World) (hv : QV w (.slice al nl cl) ql) :
  Calls Tryz.prog 57 #[.agg #[.int .u8 zr, .int .u8 zc, .slice al nl cl]] w fun xe w' => ∃ u, xe = .returned u ∧ MT w' u (someM ql sa sb) ∧ Below w.heap.size w w' :=
 mMOf_w zr zc al nl cl sa sb (someM ql sa sb) (fun w => QV w (.slice al nl cl) ql) (QV.keeps _ _) (fun w h => msome_w ql sa sb nl zr zc al cl (by omega) (by omega) hn w h) ea eb (by omega) (by omega) rfl rfl w hv
set_option maxHeartbeats 4000000 in
set_option maxRecDepth 10000 in
theorem mforms_any (l0 l1 l2 l3 : List (Int × Int)) (x0 y0 : Int) (a0 a1 a2 a3 : Option Addr) (n0 c0 n1 c1 n2 c2 n3 c3 : Nat) (b0 : 0 ≤ x0) (b1 : 0 ≤ y0) (w : World)
  (h0 : QV w (.slice a0 n0 c0) l0) (h1 : QV w (.slice a1 n1 c1) l1) (h2 : QV w (.slice a2 n2 c2) l2) (h3 : QV w (.slice a3 n3 c3) l3) (ht : Tab w) :
  Calls Tryz.prog 8 #[.agg #[.int .u8 x0, .int .u8 y0, .slice a0 n0 c0], .slice a1 n1 c1, .slice a2 n2 c2, .slice a3 n3 c3] w fun e w' => e = .returned (.bool true) ∧ Below w.heap.size w w' := by
 by_cases g1 : n0 ≤ 40
 case neg => exact mforms_l1 x0 y0 a0 a1 a2 a3 n0 c0 n1 c1 n2 c2 n3 c3 (fun v w h => few_any [n0] false ⟨(fun h => by cases h), fun h => absurd (h n0 (by simp)) g1⟩ (by simp) v w h) Tab Keeps.tab mworks_any w ht
 have HF := fun (v : Value) (w : World) (h : FWs w v [n0]) => few_any [n0] true ⟨fun _ l hl => by
  rw [List.mem_singleton.1 hl]; exact g1, fun _ => rfl⟩ (by simp) v w h
 by_cases g2 : 20 < n1
 ·exact mforms_l2 x0 y0 a0 a1 a2 a3 n0 c0 n1 c1 n2 c2 n3 c3 HF Tab Keeps.tab mworks_any (decide_eq_true (by omega)) (decide_eq_true g2) w ht
 by_cases g3 : 20 < n2
 ·exact mforms_l3 x0 y0 a0 a1 a2 a3 n0 c0 n1 c1 n2 c2 n3 c3 HF Tab Keeps.tab mworks_any (decide_eq_false (by omega)) (decide_eq_false g2) (decide_eq_true (by omega)) (decide_eq_true g3) w ht
 by_cases g4 : 40 < n3
 ·exact mforms_l4 x0 y0 a0 a1 a2 a3 n0 c0 n1 c1 n2 c2 n3 c3 HF Tab Keeps.tab mworks_any (decide_eq_false (by omega)) (decide_eq_false g2) (decide_eq_false (by omega)) (decide_eq_false g3) (decide_eq_true (by omega)) (decide_eq_true g4) w ht
 obtain ⟨na, ea, na6⟩ := t7 b0
 obtain ⟨nb, eb, nb6⟩ := t7 b1
 have gx := someM_gm (qv_rg h0) na nb
 have HSd := fun w => msides_w x0 y0 a0 n0 c0 na nb ea eb (by omega) (by omega) w
 have HMo := fun w hv => mmof_any l0 x0 y0 a0 n0 c0 na nb ea eb na6 nb6 (by omega) w hv
 have HV1 := fun w hv => mvec_w l1 na n1 (by omega) (qv_len h1) (by omega) (.slice a1 n1 c1) w hv
 have HV2 := fun w hv => mvec_w l2 nb n2 (by omega) (qv_len h2) (by omega) (.slice a2 n2 c2) w hv
 have HV3 := fun w hv => mvec_w l2 na n2 (by omega) (qv_len h2) (by omega) (.slice a2 n2 c2) w hv
 have HSy := fun w hv => msymm_w l3 na n3 c3 a3 (by omega) (by omega) w hv
 have gvx := vecM_gv (qv_rg h1) na
 have gvy := vecM_gv (qv_rg h2) nb
 have gvz := vecM_gv (qv_rg h2) na
 obtain ⟨gsm, ysm⟩ := symM_gm (qv_rg h3) na
 generalize someM l0 na nb = x at gx HMo
 generalize vecM l1 na = vx at gvx HV1
 generalize vecM l2 nb = vy at gvy HV2
 generalize vecM l2 na = vz at gvz HV3
 generalize symM l3 na = sm at gsm ysm HSy
 have gtx := gx.tur
 have ggm := (gtx.mul gx).mono (show na * (1 + 1 + 1) + 1 ≤ 19 by omega)
 have gva := (gx.app gvy).mono (show nb * (1 + 1 + 1) + 1 ≤ 19 by omega)
 have eF2 := form_tur na nb x vx vy
 have eF3 := form_gram na nb x vy
 have eF5 := form_sym gsm ysm vz vx
 have hsg := sgn_nn (dot_nonneg na (appV na nb x vy))
 have F1 := fun u v z w h g f => MFormG (N := 19) gx gvx gvy (by omega) (by omega) (show nb * 3 + 1 ≤ 19 by omega) (by omega) (by omega) (by omega) u v z w h g f
 have F2 := fun u v z w h g f => MFormG (N := 19) gtx gvy gvx (by omega) (by omega) (show na * 3 + 1 ≤ 19 by omega) (by omega) (by omega) (by omega) u v z w h g f
 have F3 := fun u v z w h g f => MFormG (N := 235) ggm gvy gvy (by omega) (by omega) (show nb * 39 + 1 ≤ 235 by omega) (by omega) (by omega) (by omega) u v z w h g f
 have F4 := fun u v z w h g f => MFormG (N := 19) gsm gvx gvz (by omega) (by omega) (show na * 3 + 1 ≤ 19 by omega) (by omega) (by omega) (by omega) u v z w h g f
 have F5 := fun u v z w h g f => MFormG (N := 19) gsm gvz gvx (by omega) (by omega) (show na * 3 + 1 ≤ 19 by omega) (by omega) (by omega) (by omega) u v z w h g f
 rw [eF2] at F2
 rw [eF3] at F3
 rw [eF5] at F5
 have Y2 := fun u w h => MSymG ggm (by omega) true ⟨fun _ => sym_gram na nb x, fun _ => rfl⟩ u w h
 have Y3 := fun u w h => MSymG gsm (by omega) true ⟨fun _ => ysm, fun _ => rfl⟩ u w h
 by_cases hnk : na = nb
 ·obtain ⟨bs, hbs⟩ : ∃ bs, bs = decide ((turM na nb x).l = x.l) := ⟨_, rfl⟩
  have gx2 : GM x na na 1 := by rw [← hnk] at gx; exact gx
  have gt2 : GM (turM na nb x) na na 1 := by rw [← hnk]; exact gx2.tur
  have Y1 := fun u w h => MSymG gx2 (by omega) bs (by
   rw [hbs, decide_eq_true_iff, ← mx_eq gt2 gx2, ← hnk]
   exact (sym_tur gx2).symm) u w h
  have E1 := fun u v w h g => MSameG gt2 gx2 (by omega) (by omega) u v w h g
  rw [← hbs] at E1
  exact mforms_sq x0 y0 a0 a1 a2 a3 n0 c0 n1 c1 n2 c2 n3 c3 na nb x (turM na nb x) (mulM nb na nb (turM na nb x) x) sm vx vy vz (appV na nb x vy) (formM na nb x vx vy) (dotL na (appV na nb x vy) (appV na nb x vy)) (formM na na sm vx vz) (sgnQ (dotL na (appV na nb x vy) (appV na nb x vy))) bs
   HF
   HSd
   (fun w => QV w (.slice a0 n0 c0) l0) (QV.keeps _ _) HMo
   (fun w => QV w (.slice a1 n1 c1) l1) (QV.keeps _ _) HV1
   (fun w => QV w (.slice a2 n2 c2) l2) (QV.keeps _ _) HV2
   F1
   (fun u w h => lturnG gx (by omega) (by omega) rfl u w h)
   F2
   Y1
   E1
   (fun u v w h g => lmulG gtx gx (by omega) (by omega) (by omega) (by omega) (by omega) rfl u v w h g)
   F3
   (fun u v w h g => MApplyG gx gvy (by omega) (by omega) (by omega) (by omega) u v w h g)
   (fun u v w h g => DotT gva (by omega) (by omega) u v w h g)
   Y2
   (fun w => signF _ w)
   (fun w => QV w (.slice a3 n3 c3) l3) (QV.keeps _ _) HSy
   HV3
   F4
   F5
   Y3
   Tab Keeps.tab mworks_any
   (decide_eq_false (by omega)) (decide_eq_false g2) (decide_eq_false (by omega)) (decide_eq_false g3) (decide_eq_false (by omega)) (decide_eq_false g4)
   (decide_eq_false hsg) hsg
   (ri gx) (ri gtx) (ri ggm) (ri gsm) (ci gx) (ci gtx) (ci ggm) (ci gsm)
   (by rw [hnk]; simp) (by rw [hnk]; simp)
   w h0 h1 h2 h3 ht
 ·exact mforms_ns x0 y0 a0 a1 a2 a3 n0 c0 n1 c1 n2 c2 n3 c3 na nb x (turM na nb x) (mulM nb na nb (turM na nb x) x) sm vx vy vz (appV na nb x vy) (formM na nb x vx vy) (dotL na (appV na nb x vy) (appV na nb x vy)) (formM na na sm vx vz) (sgnQ (dotL na (appV na nb x vy) (appV na nb x vy)))
   HF
   HSd
   (fun w => QV w (.slice a0 n0 c0) l0) (QV.keeps _ _) HMo
   (fun w => QV w (.slice a1 n1 c1) l1) (QV.keeps _ _) HV1
   (fun w => QV w (.slice a2 n2 c2) l2) (QV.keeps _ _) HV2
   F1
   (fun u w h => lturnG gx (by omega) (by omega) rfl u w h)
   F2
   (fun u w h => MSymN gx (by omega) (by omega) hnk u w h)
   (fun u v w h g => lmulG gtx gx (by omega) (by omega) (by omega) (by omega) (by omega) rfl u v w h g)
   F3
   (fun u v w h g => MApplyG gx gvy (by omega) (by omega) (by omega) (by omega) u v w h g)
   (fun u v w h g => DotT gva (by omega) (by omega) u v w h g)
   Y2
   (fun w => signF _ w)
   (fun w => QV w (.slice a3 n3 c3) l3) (QV.keeps _ _) HSy
   HV3
   F4
   F5
   Y3
   Tab Keeps.tab mworks_any
   (decide_eq_false (by omega)) (decide_eq_false g2) (decide_eq_false (by omega)) (decide_eq_false g3) (decide_eq_false (by omega)) (decide_eq_false g4)
   (decide_eq_false hsg) hsg
   (ri gx) (ri gtx) (ri ggm) (ri gsm) (ci gx) (ci gtx) (ci ggm) (ci gsm)
   (by simp; omega) (by simp; omega)
   w h0 h1 h2 h3 ht
end Go.Proofs.YthkodldppaccmaaGreatDoor
