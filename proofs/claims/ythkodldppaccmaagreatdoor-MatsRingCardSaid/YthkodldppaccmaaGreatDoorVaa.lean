/-
  The law answers true at every input, and leaves its arguments as they were: a part of the proof. CONDITIONS: the package-level tables start as the program's text lays them (the card ties them).
-/
import Derived.Test.YthkodldppaccmaaGreatDoorZae
import Derived.Test.YthkodldppaccmaaGreatDoorTie
import Derived.Test.YthkodldppaccmaaGreatDoorCards
set_option linter.unusedVariables false
set_option linter.unusedSimpArgs false
namespace Go.Proofs.YthkodldppaccmaaGreatDoor
open Go.RowKit
attribute [local irreducible] lo hs sm s64 c64 d64 b64 mh ml pd pc qd qc val hiB str cmpI srD lz zl zh zs dval
theorem qmade_parts (n : Int) (d : Nat) : (qmade n d).num.natAbs ≤ n.natAbs ∧ (qmade n d).den ≤ (if d < 1 then 1 else d) := by
 unfold qmade
 obtain ⟨h1, h2⟩ := canc (z := n) (d := if d < 1 then 1 else d) (by split <;> omega)
 rw [h1, h2, Int.natAbs_tdiv]
 exact ⟨Nat.div_le_self _ _, Nat.div_le_self _ _⟩
theorem qmade_sz (n : Int) (d : Nat) (h1 : -9223372036854775808 ≤ n) (h2 : n < 9223372036854775808) (h3 : d < 4294967296) : Sz (qmade n d) 1 := by
 obtain ⟨e1, e2⟩ := qmade_parts n d
 exact szc _ (by omega) (by split at e2 <;> omega)
end Go.Proofs.YthkodldppaccmaaGreatDoor
namespace Go.Proofs.YthkodldppaccmaaGreatDoor
open Go.RowKit
theorem tab_gv (l : List Rat) : tabV l.length (gv l) = l := by
 apply List.ext_getElem (tabV_len _ _)
 intro i h1 h2
 rw [tabV_get, gv_get h2]
theorem tab_gv' {l : List Rat} {n : Nat} (h : l.length = n) : tabV n (gv l) = l := by subst h; exact tab_gv l
theorem bs_add (n : Nat) (f g : Nat → Rat) : bsV n (fun i => f i + g i) = bsV n f + bsV n g := by
 induction n with
 | zero => show (0 : Rat) = 0 + 0; grind
 | succ n ih => show bsV n (fun i => f i + g i) + (f n + g n) = bsV n f + f n + (bsV n g + g n); rw [ih]; grind
theorem bs_mul (n : Nat) (c : Rat) (f : Nat → Rat) : bsV n (fun i => c * f i) = c * bsV n f := by
 induction n with
 | zero => show (0 : Rat) = c * 0; grind
 | succ n ih => show bsV n (fun i => c * f i) + c * f n = c * (bsV n f + f n); rw [ih]; grind
theorem bs_zero (n : Nat) : bsV n (fun _ => 0) = 0 := by
 induction n with
 | zero => rfl
 | succ n ih => show bsV n (fun _ => 0) + 0 = 0; rw [ih]; grind
end Go.Proofs.YthkodldppaccmaaGreatDoor
namespace Go.Proofs.YthkodldppaccmaaGreatDoor
open Go.RowKit
section
variable {P : Program} {ops : Array Oper} {C : World → Prop}
theorem wpAny_ta {n s : Nat} {l : List Oper} {T : Nat → Value → World → Prop} {w0 : World} {a0 : Act} {Q : Exit → Act → World → Prop} {A : Nat → Bool} (hT : ∀ i, Stays (T i)) (hsel : Region.noSelect l.toArray = true) (hn : n ≤ l.length)
  (hB : barB .any l.toArray n = true) (hN : nodupD (l.take n) = true) (hD : depB l.toArray n = true)
  (hops : ∀ j o, j < n → l[j]? = some o → ∀ v w, Below w0.heap.size w0 w → (∀ p ∈ predsOf .any l.toArray j, T p (v p) w) → TyAt P l.toArray o (putsV (l.take n) 0 v a0) w (T j))
  (hptr : ∀ j, A j = true → ∀ u w, T j u w → ∃ k, u = .pointer (some ⟨k, 0, none⟩) ∧ k < w.heap.size)
  (hnew : ∀ j o, l[j]? = some o → A j = true → o.guard = none ∧ ∃ e c t, o.op = .alloc e ∧ ∀ w, (Instr.alloc e true (.tuple #[])).run P w = .ok (.pointer (some ⟨w.heap.size, 0, none⟩)) (w.alloc (.cells c t)))
  (hend : ∀ v w, Below w0.heap.size w0 w → (∀ i, i < n → T i (v i) w) → (∀ i j, i < n → j < n → i ≠ j → A i = true → A j = true → v i ≠ v j) → wpAny P .any l.toArray Q s (canonL l.length n) (putsV (l.take n) 0 v a0) w) :
  ∀ (m : Nat) (listed : Array Bool) (v : Nat → Value) (w : World), left n listed = m → closedL .any l.toArray listed → sufL n l.toArray listed → Below w0.heap.size w0 w →
   (∀ i, i < n → listed.getD i false = true → T i (v i) w) → (∀ i j, i < n → j < n → i ≠ j → A i = true → A j = true → listed.getD i false = true → listed.getD j false = true → v i ≠ v j) → wpAny P .any l.toArray Q (s + m) listed (putsIf (l.take n) 0 (fun i => listed.getD i false) v a0) w := by
 intro m
 have hlen : (l.take n).length = n := by rw [List.length_take]; omega
 induction m with
 | zero =>
  intro listed v w hl hc hu hb ht hne
  have hd := left_zero hl
  rw [putsIf_all (l.take n) 0 a0 fun i _ h2 => doneN_iff.1 hd i (by omega)]
  have e := canon_of hu hd
  rw [show l.toArray.size = l.length by simp] at e
  rw [e]
  exact hend v w hb (fun i hi => ht i hi (doneN_iff.1 hd i hi)) fun i j hi hj hij ha hb' => hne i j hi hj hij ha hb' (doneN_iff.1 hd i hi) (doneN_iff.1 hd j hj)
 | succ m ih =>
  intro listed v w hl hc hu hb ht hne
  have hnd := left_some hl
  refine ⟨fun h0 => absurd h0 (ready_some hu.1 (by simpa using hn) hD hl), fun j hj => ?_⟩
  have hjn := bar hB hc hj hnd
  obtain ⟨hju, o, ho, -⟩ := mem_ready.1 hj
  have hpre := preds_of_ready hj
  have hol : l[j]? = some o := by simpa using ho
  have hjs : j < l.toArray.size := (Array.getElem?_eq_some_iff.1 ho).1
  have hty := hops j o hjn hol v w hb fun p hp => ht p (by have := depB_pred hD hjn hp; omega) (hpre p hp)
  have hag : ∀ t ∈ o.looksAt l.toArray, (putsIf (l.take n) 0 (fun i => listed.getD i false) v a0).tmps[t]? = (putsV (l.take n) 0 v a0).tmps[t]? := fun t ht' =>
   get_puts (l.take n) 0 a0 a0 rfl fun i o' ho' hd' => by
    have hin : i < n := by rw [← hlen]; exact (List.getElem?_eq_some_iff.1 ho').1
    have ho2 : l.toArray[i]? = some o' := by rw [List.getElem?_take, if_pos hin] at ho'; simpa using ho'
    rw [Nat.zero_add]
    exact hpre i (depB_looks hD hjn hin ho ho2 ht' hd')
  have step : ∀ u w', Below w.heap.size w w' → T j u w' → (A j = true → u = .pointer (some ⟨w.heap.size, 0, none⟩)) → wpAny P .any l.toArray Q (s + m) (listed.setIfInBounds j true) ((putsIf (l.take n) 0 (fun i => listed.getD i false) v a0).put o.dst u) w' := by
   intro u w' hw' hu' hun
   have e := put_at (v := v) (v' := fun i => if i = j then u else v i) (b := fun i => listed.getD i false) (b' := fun i => (listed.setIfInBounds j true).getD i false) (j := j) (u := u) (unl hju) (by simp [hu.1]; simpa using hjs) (by simp)
    (fun i hi => ⟨getD_set_ne false fun e => hi e.symm, by simp [hi]⟩) (l.take n) 0 a0 o hN (Nat.zero_le _) (by rw [Nat.sub_zero, List.getElem?_take, if_pos hjn]; exact hol)
   rw [e]
   refine ih _ _ w' (left_set (ops := l.toArray) hu.1 hjn hjs (unl hju) hl) (hc.set hj) ⟨by simpa using hu.1, fun k hk hks => by rw [getD_set_ne true (by omega)]; exact hu.2 k hk hks⟩ (hb.trans (hw'.mono hb.size)) (fun i hi hli => ?_) ?_
   ·by_cases e : i = j
    ·subst e; simpa using hu'
    ·rw [getD_set_ne false fun e' => e e'.symm] at hli
     simp only [if_neg e]
     exact hT i _ _ _ hw' (ht i hi hli)
   intro i k hi hk hik hAi hAk hli hlk
   by_cases e : i = j
   ·subst e
    have e2 : k ≠ i := fun e => hik e.symm
    rw [getD_set_ne false fun e' => e2 e'.symm] at hlk
    simp only [if_neg e2, if_pos]
    obtain ⟨b, hb1, hb2⟩ := hptr k hAk _ _ (ht k hk hlk)
    rw [hb1, hun hAi]
    intro he
    simp only [Value.pointer.injEq, Option.some.injEq, Addr.mk.injEq, and_true] at he
    omega
   ·rw [getD_set_ne false fun e' => e e'.symm] at hli
    by_cases e2 : k = j
    ·subst e2
     simp only [if_neg e, if_pos]
     obtain ⟨b, hb1, hb2⟩ := hptr i hAi _ _ (ht i hi hli)
     rw [hb1, hun hAk]
     intro he
     simp only [Value.pointer.injEq, Option.some.injEq, Addr.mk.injEq, and_true] at he
     omega
    ·rw [getD_set_ne false fun e' => e2 e'.symm] at hlk
     simp only [if_neg e, if_neg e2]
     exact hne i k hi hk hik hAi hAk hli hlk
  unfold wpOp
  simp only [ho]
  unfold TyAt at hty
  rw [← wanted_same hag] at hty
  by_cases hw : Region.wanted o (yielded l.toArray (putsIf (l.take n) 0 (fun i => listed.getD i false) v a0).tmps) = true
  ·simp only [hw, if_true] at hty ⊢
   refine .inl ?_
   unfold Oper.wp
   rw [exec_same (fun cs b => Region.noSelect_spec hsel j o cs b ho) hag]
   have hal : A j = true → ∀ u w', (execOp (putsV (l.take n) 0 v a0).eval o).run P w = .ok (.value u) w' → u = .pointer (some ⟨w.heap.size, 0, none⟩) := fun hA u w' hr => by
    obtain ⟨_, e, c, t, he, hal⟩ := hnew j o hol hA
    rw [alloc_run he hal] at hr
    simp only [Result.ok.injEq, Next.value.injEq] at hr
    exact hr.1.symm
   have hal2 : A j = true → ∀ w', (execOp (putsV (l.take n) 0 v a0).eval o).run P w ≠ .ok .skip w' := fun hA w' hr => by
    obtain ⟨_, e, c, t, he, hal⟩ := hnew j o hol hA
    rw [alloc_run he hal] at hr
    cases hr
   have hal3 : A j = true → ∀ f args w', (execOp (putsV (l.take n) 0 v a0).eval o).run P w ≠ .ok (.enter f args) w' := fun hA f args w' hr => by
    obtain ⟨_, e, c, t, he, hal⟩ := hnew j o hol hA
    rw [alloc_run he hal] at hr
    cases hr
   generalize (execOp (putsV (l.take n) 0 v a0).eval o).run P w = r at *
   cases r with
   | ok nx w' =>
    cases nx <;> simp only [tyUpon] at hty <;> simp only [Oper.upon]
    case value u => exact step u w' hty.1 hty.2 fun hA => hal hA u w' rfl
    case skip => exact step undef w' hty.1 hty.2 fun hA => absurd rfl (hal2 hA w')
    case enter f args =>
     obtain ⟨rfl, hcall⟩ := hty
     exact hcall.mono fun e w'' ⟨u, he, h1, h2⟩ => by subst he; exact step u w'' h2 h1 fun hA => absurd rfl (hal3 hA f args _)
   | halt x w' => simp only [tyUpon] at hty
  ·simp only [hw] at hty ⊢
   exact step undef w (Below.refl _ _) hty fun hA => by
    obtain ⟨hg, _⟩ := hnew j o hol hA
    exact absurd (by unfold Region.wanted; rw [hg]) hw
/-- **A region whose first n operations each give a value of a property; then the others, in their order.** -/
theorem region_ta (n : Nat) (T : Nat → Value → World → Prop) (A : Nat → Bool) {id : Nat} {Q : Exit → Act → World → Prop} {a : Act} {w : World} {l : List Oper} (hm : P.follows .mixedOrders = true) (hB : tyB n l = true) (hT : ∀ i, Stays (T i))
  (hops : ∀ j o, j < n → l[j]? = some o → ∀ v w1, Below w.drew.heap.size w.drew w1 → (∀ p ∈ predsOf .any l.toArray j, T p (v p) w1) → TyAt P l.toArray o (putsV (l.take n) 0 v a) w1 (T j))
  (hptr : ∀ j, A j = true → ∀ u w, T j u w → ∃ k, u = .pointer (some ⟨k, 0, none⟩) ∧ k < w.heap.size)
  (hnew : ∀ j o, l[j]? = some o → A j = true → o.guard = none ∧ ∃ e c t, o.op = .alloc e ∧ ∀ w, (Instr.alloc e true (.tuple #[])).run P w = .ok (.pointer (some ⟨w.heap.size, 0, none⟩)) (w.alloc (.cells c t)))
  (hend : ∀ v w1, Below w.drew.heap.size w.drew w1 → (∀ i, i < n → T i (v i) w1) → (∀ i j, i < n → j < n → i ≠ j → A i = true → A j = true → v i ≠ v j) → wpList P l.toArray Q (l.drop n) (putsV (l.take n) 0 v a) w1) : (Code.region id l.toArray true).wp P Q a w := by
 simp only [tyB, Bool.and_eq_true, decide_eq_true_eq] at hB
 obtain ⟨⟨⟨⟨⟨hs, hn⟩, hb⟩, hN⟩, hD⟩, hq⟩ := hB
 refine wp_region_any hm ?_
 have hrep : ∀ i, (Array.replicate l.length false).getD i false = false := fun i => by
  rcases Nat.lt_or_ge i l.length with h' | h' <;> simp [h']
 have h0 : closedL .any l.toArray (Array.replicate l.length false) := fun j o _ hl => by rw [hrep] at hl; cases hl
 have hleft : left n (Array.replicate l.length false) = n := by
  unfold left
  rw [List.countP_eq_length.2 fun i _ => by rw [hrep]; rfl, List.length_range]
 have h2 := wpAny_ta (A := A) (P := P) (s := l.length - n) (Q := Q) (a0 := a) hT hs hn hb hN hD hops hptr hnew (fun v w1 h1 h2 hdis => by
   have h3 := wpAny_of_seq (md := .any) (P := P) (Q' := Q) (l.drop n) n (canonL l.length n) (putsV (l.take n) 0 v a) w1 (fun j hj => by simp [List.getElem?_drop]) (by rw [List.length_drop]; exact hq) (hend v w1 h1 h2 hdis)
   rw [List.length_drop] at h3
   exact h3) n (Array.replicate l.length false) (fun _ => undef) w.drew hleft h0 ⟨by simp, fun j _ hj => by simp at hj; simp [hj]⟩ (Below.refl _ _) (fun i _ hl => by rw [hrep] at hl; cases hl) (fun i j _ _ _ _ _ hl => by rw [hrep] at hl; cases hl)
 rw [putsIf_none (l.take n) 0 a fun i _ _ => hrep i, Nat.sub_add_cancel hn] at h2
 simpa using h2
/-- region_ta, with its properties as a list; A: the operations that make boxes. -/
theorem region_tal (n : Nat) (L : List (Value → World → Prop)) (A : List Nat) {id : Nat} {Q : Exit → Act → World → Prop} {a : Act} {w : World} {l : List Oper} (hm : P.follows .mixedOrders = true) (hB : tyB n l = true) (hT : ∀ i, Stays (L.getD i (fun _ _ => True)))
  (hops : hopsR P l.toArray (fun i => L.getD i (fun _ _ => True)) w.drew (fun v => putsV (l.take n) 0 v a) (l.take n) 0)
  (hptr : ∀ j, A.contains j = true → ∀ u w, L.getD j (fun _ _ => True) u w → ∃ k, u = .pointer (some ⟨k, 0, none⟩) ∧ k < w.heap.size)
  (hnew : newR P l A)
  (hend : ∀ v w1, Below w.drew.heap.size w.drew w1 → (∀ i, i < n → L.getD i (fun _ _ => True) (v i) w1) → (∀ i j, i < n → j < n → i ≠ j → A.contains i = true → A.contains j = true → v i ≠ v j) → wpList P l.toArray Q (l.drop n) (putsV (l.take n) 0 v a) w1) : (Code.region id l.toArray true).wp P Q a w :=
 region_ta n (fun i => L.getD i (fun _ _ => True)) (fun i => A.contains i) hm hB hT (fun j o hj ho v w1 hb hp => by
  have := hops_of (l.take n) 0 hops j o (by rw [List.getElem?_take, if_pos hj]; exact ho) v w1 hb (by rw [Nat.zero_add]; exact hp)
  rwa [Nat.zero_add] at this) hptr (fun j o ho hA => newR_spec hnew j o ho hA) hend
end
end Go.Proofs.YthkodldppaccmaaGreatDoor
namespace Go.Proofs.YthkodldppaccmaaGreatDoor
open Go.RowKit Go.Proofs.YthkodldppaccmaaGreatDoor.Rx
theorem ptr_ne {v1 v2 : Value} {a b : Nat} (h1 : v1 = .pointer (some ⟨a, 0, none⟩)) (h2 : v2 = .pointer (some ⟨b, 0, none⟩)) (h : v1 ≠ v2) : a ≠ b := fun e => h (by rw [h1, h2, e])
end Go.Proofs.YthkodldppaccmaaGreatDoor
namespace Go.Proofs.YthkodldppaccmaaGreatDoor
open Go.RowKit
attribute [local irreducible] lo hs sm s64 c64 d64 b64 mh ml pd pc qd qc val hiB str cmpI srD lz nb zl zh zs fe rowV tabV gv bsV
set_option maxHeartbeats 4000000 in
set_option maxRecDepth 100000 in
theorem vequal_w (x y : List Rat) (n m c d : Nat) (ao bo : Option Addr) (hx : x.length = n) (hy : y.length = m) (hn : n ≤ 100000) (w : World) (h1 : 0 < n → ∃ g, ao = some ⟨g, 0, none⟩ ∧ FS w g x) (h2 : 0 < m → ∃ g, bo = some ⟨g, 0, none⟩ ∧ FS w g y) (b : Bool) (hb : b = decide (x = y)) :
  Calls Tryz.prog 112 #[.slice ao n c, .slice bo m d] w fun xe w' => xe = .returned (.bool b) ∧ Below w.heap.size w w' := by
 replace h1 := Lib.hid h1
 replace h2 := Lib.hid h2
 replace hb := Lib.hid hb
 replace hx := Lib.hid hx
 replace hy := Lib.hid hy
 by_cases hnm : n = m
 ·subst hnm
  go_enter Tryz.func112, Tryz.ntmps112
  go_wp2_with fail
  go_loopg [13] n (fun gk iv wr => ∃ (i : Nat) (zi : Int), i + gk = n ∧ iv = .int .i64 zi ∧ zi = (i : Int) ∧ (∀ j, j < i → gv x j = gv y j) ∧ Below w.heap.size w wr)
  case atStart => exact ⟨0, 0, Nat.zero_add n, by first | rfl | go_num, rfl, fun j h => absurd h (Nat.not_lt_zero _), Below.refl _ _⟩
  case round =>
   obtain ⟨i, zi, hik, rfl, hzi, hall, hB⟩ := hrel
   replace hall := Lib.hid hall
   rcases Nat.lt_or_ge i n with hin | hin
   ·subst hzi
    obtain ⟨g, rfl, f1⟩ := h1.out (by omega)
    obtain ⟨g2, rfl, f2⟩ := h2.out (by omega)
    have k1 : (i : Int) < (n : Int) := by omega
    have k0 : (0 : Int) ≤ (i : Int) := Int.natCast_nonneg _
    have kb : (i : Int) ≤ 100000 := by omega
    obtain ⟨p, hp⟩ : ∃ p, p = gv x i := ⟨_, rfl⟩
    obtain ⟨q, hq⟩ : ∃ q, q = gv y i := ⟨_, rfl⟩
    have hp9 := fsc (f1.below hB) i (by rw [hx.out]; exact hin)
    have hq9 := fsc (f2.below hB) i (by rw [hy.out]; exact hin)
    rw [← hp] at hp9
    rw [← hq] at hq9
    obtain ⟨t, ht⟩ : ∃ t, t = decide (p = q) := ⟨_, rfl⟩
    have hne := fun W => run_neqF p q t ht W
    replace ht := Lib.hid ht
    replace hp := Lib.hid hp
    replace hq := Lib.hid hq
    go_upto_region 6 with fail
    obtain ⟨α, iα, F, hF1, hF2⟩ := cls wr
    obtain ⟨a0, a1, a2, a3, a4⟩ := hp9
    obtain ⟨b0, b1, b2, b3, b4⟩ := hq9
    have p0 := fun yz => keepsC (hF1 yz) a0
    have r0 := fun yz => keepsC (hF1 yz) b0
    have p1 := fun yz => keepsC (hF1 yz) a1
    have r1 := fun yz => keepsC (hF1 yz) b1
    have p2 := fun yz => keepsC (hF1 yz) a2
    have r2 := fun yz => keepsC (hF1 yz) b2
    have p3 := fun yz => keepsC (hF1 yz) a3
    have r3 := fun yz => keepsC (hF1 yz) b3
    have p4 := fun yz => keepsC (hF1 yz) a4
    have r4 := fun yz => keepsC (hF1 yz) b4
    clear a0 a1 a2 a3 a4 b0 b1 b2 b3 b4
    cases t with
    | true =>
     refine region_cls (F := F) (by kernel_rfl) (lexB_of_fast (by kernel_rfl)) (cls_drew hF2) ?_
     repeat (go_big_quiet_step (first | fail))
     refine wpQuiet_nil ?_
     rintro wq ⟨xq, rfl⟩
     have hB2 := hB.trans ((hF1 xq).mono hB.size)
     clear p0 p1 p2 p3 p4 r0 r1 r2 r3 r4 hF2 hne
     generalize F xq = y2 at hB2 ⊢
     clear hF1 xq iα F α
     have hall2 := Lib.hid (show ∀ j, j < i + 1 → gv x j = gv y j from fun j h3 => by
      rcases Nat.lt_or_ge j i with h | h
      ·exact hall.out j h
      ·obtain rfl : j = i := by omega
       rw [← hp.out, ← hq.out]; exact of_decide_eq_true ht.out.symm)
     go_wp2_with fail
     go_roundg (gk - 1)
     case measure => omega
     case rel => exact ⟨i + 1, _, by omega, by first | rfl | go_num, by omega, hall2.out, hB2⟩
    | false =>
     have hbf : b = false := by
      rw [hb.out]
      refine decide_eq_false fun e => ?_
      have h1 := of_decide_eq_false ht.out.symm
      exact h1 (by rw [hp.out, hq.out, e])
     replace hbf := Lib.hid hbf
     refine region_cls (F := F) (by kernel_rfl) (lexB_of_fast (by kernel_rfl)) (cls_drew hF2) ?_
     repeat (go_big_quiet_step (first | fail))
     refine wpQuiet_nil ?_
     rintro wq ⟨xq, rfl⟩
     have hB2 := hB.trans ((hF1 xq).mono hB.size)
     clear p0 p1 p2 p3 p4 r0 r1 r2 r3 r4 hF2 hne
     generalize F xq = y2 at hB2 ⊢
     clear hF1 xq iα F α
     go_wp2_with fail
     go_ret
     exact ⟨by rw [hbf.out]; rfl, hB2⟩
   ·obtain rfl : i = n := by omega
    subst hzi
    have k1 : ¬ (i : Int) < (i : Int) := by omega
    have hbt : b = true := by
     rw [hb.out]
     refine decide_eq_true (List.ext_getElem (by rw [hx.out, hy.out]) fun j g1 g2 => ?_)
     rw [← gv_get g1, ← gv_get g2]
     exact hall.out j (by rw [hx.out] at g1; exact g1)
    replace hbt := Lib.hid hbt
    go_wp2_with fail
    go_ret
    exact ⟨by rw [hbt.out]; rfl, hB⟩
 ·have b1 : (((n : Nat) : Int) != ((m : Nat) : Int)) = true := by simp; omega
  have b2 : ¬ ((n : Nat) : Int) = ((m : Nat) : Int) := by omega
  have hbf : b = false := by
   rw [hb.out]
   exact decide_eq_false fun e => hnm (by rw [← hx.out, ← hy.out, e])
  replace hbf := Lib.hid hbf
  go_enter Tryz.func112, Tryz.ntmps112
  go_wp2_with fail
  go_ret
  exact ⟨by rw [hbf.out]; rfl, Below.refl _ _⟩
set_option maxHeartbeats 4000000 in
set_option maxRecDepth 100000 in
theorem vsameV (x y : List Rat) (hn : x.length ≤ 100000) (va vb : Value) (w : World) (hv : SlQ w va x) (hu : SlQ w vb y) :
  Calls Tryz.prog 32 #[va, vb] w fun xe w' => xe = .returned (.bool (decide (x = y))) ∧ Below w.heap.size w w' := by
 obtain ⟨ao, c, rfl, h1⟩ := slq_len hv
 obtain ⟨bo, d, rfl, h2⟩ := slq_len hu
 have HE := Lib.hid (vequal_w x y x.length y.length c d ao bo rfl rfl hn w h1 h2 _ rfl)
 clear h1 h2 hv hu
 generalize decide (x = y) = b at *
 generalize x.length = n at *
 generalize y.length = m at *
 go_enter Tryz.func32, Tryz.ntmps32
 go_wp2_with fail
 with_reducible refine Calls.mono HE.out ?_
 rintro e y1 ⟨rfl, hb⟩
 replace hb := Lib.hid hb
 go_wp2_with fail
 exact bodyPost_ret (v := .bool b) (by simp [results, Tryz.results32, go_sem]) rfl ⟨rfl, hb.out⟩
end Go.Proofs.YthkodldppaccmaaGreatDoor
namespace Go.Proofs.YthkodldppaccmaaGreatDoor
open Go.RowKit
attribute [local irreducible] lo hs sm s64 c64 d64 b64 mh ml pd pc qd qc val hiB str cmpI srD lz nb zl zh zs fe rowV tabV gv bsV
theorem ptn_form {w : World} {v : Value} {l : List Rat} {n : Nat} (h : PT w v l) (hl : l.length = n) : ∃ ao c, v = .slice ao n c := by
 obtain ⟨ao, c, e⟩ := slq_form' h
 exact ⟨ao, c, by rw [e, hl]⟩
end Go.Proofs.YthkodldppaccmaaGreatDoor
namespace Go.Proofs.YthkodldppaccmaaGreatDoor
open Go.RowKit
attribute [local irreducible] lo hs sm s64 c64 d64 b64 mh ml pd pc qd qc val hiB str cmpI srD lz nb zl zh zs fe qmade
section
variable {x y : List Rat} {n k m : Nat}
theorem sameG (hx : GV x n k) (hn : n ≤ 2048) (p q : Value) (w : World) (hp : SlQ w p x) (hq : SlQ w q y) :
  Calls Tryz.prog 32 #[p, q] w fun xe w' => xe = .returned (.bool (decide (x = y))) ∧ Below w.heap.size w w' := vsameV x y (by rw [hx.len]; omega) p q w hp hq
theorem sameT (hx : GV x n k) (hn : n ≤ 2048) (p q : Value) (w : World) (hp : SlQ w p x) (hq : SlQ w q x) :
  Calls Tryz.prog 32 #[p, q] w fun xe w' => xe = .returned (.bool true) ∧ Below w.heap.size w w' := by
 have := sameG (y := x) hx hn p q w hp hq
 rwa [decide_eq_true rfl] at this
end
/-- Plain fractions as Go holds them. -/
def QR (p : Int × Int) : Prop := (-9223372036854775808 ≤ p.1 ∧ p.1 < 9223372036854775808) ∧ 0 ≤ p.2 ∧ p.2 < 4294967296
theorem qm_sz {p : Int × Int} (h : QR p) : Sz (qm p) 1 := by
 obtain ⟨⟨h1, h2⟩, h3, h4⟩ := h
 exact qmade_sz p.1 p.2.toNat h1 h2 (by omega)
theorem qmof {p : Int × Int} (h : QR p) (w : World) : Calls Tryz.prog 15 #[.agg #[.int .i64 p.1, .int .u32 p.2]] w fun xe w' => xe = .returned (fracV (qm p)) ∧ Below w.heap.size w w' := by
 obtain ⟨⟨h1, h2⟩, h3, h4⟩ := h
 exact qof_any p.1 p.2 h1 h2 h3 h4 w
theorem qv_rg {w : World} {v : Value} {ql : List (Int × Int)} (h : QV w v ql) : ∀ p ∈ ql, QR p := by
 intro p hp
 obtain ⟨ao, c, h1, h2, h3, h4⟩ := h
 obtain ⟨a, e, h5⟩ := h4 (List.length_pos_of_mem hp)
 exact h5.rg p hp
end Go.Proofs.YthkodldppaccmaaGreatDoor
namespace Go.Proofs.YthkodldppaccmaaGreatDoor
open Go.RowKit
theorem tabM_ext {r c : Nat} {f g : Nat → Nat → Rat} (h : ∀ i k, i < r → k < c → f i k = g i k) : tabM r c f = tabM r c g := by
 unfold tabM
 rw [tab_ext fun p hp => h _ _ (ix_row hp).1 (ix_row hp).2]
theorem tab_ent {x : Mx} {n k K : Nat} (h : GM x n k K) : tabM n k (ent x) = x := by
 obtain ⟨r, c, l⟩ := x
 obtain ⟨rfl, rfl, hl, -⟩ := h
 unfold tabM
 congr 1
 show tabV (r * c) (fun p => gv l (p / c * c + p % c)) = l
 replace hl : l.length = r * c := hl
 refine Eq.trans (tab_ext fun p hp => ?_) (tab_gv' hl)
 rw [Nat.mul_comm, Nat.div_add_mod]
theorem mx_ext {x : Mx} {n k K : Nat} {f : Nat → Nat → Rat} (h : GM x n k K) (he : ∀ i j, i < n → j < k → ent x i j = f i j) : x = tabM n k f := by
 rw [← tab_ent h]; exact tabM_ext he
theorem ent_inj {x y : Mx} {n k K M : Nat} (hx : GM x n k K) (hy : GM y n k M) (h : ∀ i j, i < n → j < k → ent x i j = ent y i j) : x = y := by
 rw [mx_ext hx h, tab_ent hy]
def scaM (n k : Nat) (c : Rat) (x : Mx) : Mx := tabM n k fun i j => c * ent x i j
theorem GM.sca {x : Mx} {c : Rat} {n k K M : Nat} (hc : Sz c K) (hx : GM x n k M) : GM (scaM n k c x) n k (K + M) := GM.tab fun i j hi hj => hc.mul (hx.at i j hi hj)
theorem bs_swap (n m : Nat) (f : Nat → Nat → Rat) : bsV n (fun i => bsV m fun j => f i j) = bsV m fun j => bsV n fun i => f i j := by
 induction n with
 | zero => exact (bs_zero m).symm
 | succ n ih =>
  show bsV n (fun i => bsV m fun j => f i j) + bsV m (fun j => f n j) = bsV m fun j => bsV n (fun i => f i j) + f n j
  rw [ih, bs_add]
theorem bs_mul_r (n : Nat) (c : Rat) (f : Nat → Rat) : bsV n (fun i => f i * c) = bsV n f * c := by
 rw [Rat.mul_comm, ← bs_mul]
 exact bs_congr fun i _ => Rat.mul_comm _ _
theorem bs_one (n i : Nat) (hi : i < n) (f : Nat → Rat) : bsV n (fun t => (if i = t then 1 else 0) * f t) = f i := by
 induction n with
 | zero => omega
 | succ n ih =>
  show bsV n (fun t => (if i = t then 1 else 0) * f t) + (if i = n then 1 else 0) * f n = f i
  rcases Nat.lt_or_ge i n with h | h
  ·rw [ih h, if_neg (by omega)]; grind
  ·obtain rfl : i = n := by omega
   rw [if_pos rfl, bs_congr (g := fun _ => 0) fun t ht => by rw [if_neg (by omega)]; grind, bs_zero]; grind
-- the ring
theorem mul_assocM (n k p q : Nat) (x y z : Mx) : mulM n k q x (mulM k p q y z) = mulM n p q (mulM n k p x y) z := tabM_ext fun i j hi hj => by
 rw [bs_congr (g := fun t => bsV p fun s => ent x i t * (ent y t s * ent z s j)) fun t ht => by
  show ent x i t * ent (mulM k p q y z) t j = _
  rw [mulM, ent_tab ht hj, bs_mul]]
 rw [bs_swap]
 refine bs_congr fun s hs => ?_
 show _ = ent (mulM n k p x y) i s * ent z s j
 rw [mulM, ent_tab hi hs, ← bs_mul_r]
 exact bs_congr fun t ht => by grind
theorem mul_addM (n k p : Nat) (x y z : Mx) : sumM n p (mulM n k p x y) (mulM n k p x z) = mulM n k p x (sumM k p y z) := tabM_ext fun i j hi hj => by
 rw [mulM, mulM, ent_tab hi hj, ent_tab hi hj, ← bs_add]
 refine bs_congr fun t ht => ?_
 show _ = ent x i t * ent (sumM k p y z) t j
 rw [sumM, ent_tab ht hj]; grind
theorem add_mulM (n k p : Nat) (x y z : Mx) : sumM n p (mulM n k p x z) (mulM n k p y z) = mulM n k p (sumM n k x y) z := tabM_ext fun i j hi hj => by
 rw [mulM, mulM, ent_tab hi hj, ent_tab hi hj, ← bs_add]
 refine bs_congr fun t ht => ?_
 show _ = ent (sumM n k x y) i t * ent z t j
 rw [sumM, ent_tab hi ht]; grind
theorem mul_oneM {x : Mx} {n k K : Nat} (hx : GM x n k K) : mulM n k k x (oneM k) = x := by
 refine ent_inj (n := n) (k := k) (K := k * (K + 1 + 1) + 1) (hx.mul (GM.one k)) hx fun i j hi hj => ?_
 rw [mulM, ent_tab hi hj, ← bs_one k j hj (fun t => ent x i t)]
 refine bs_congr fun t ht => ?_
 rw [oneM, ent_tab ht hj]
 by_cases e : t = j
 ·rw [if_pos e, if_pos e.symm]; grind
 ·rw [if_neg e, if_neg fun h => e h.symm]; grind
theorem one_mulM {x : Mx} {n k K : Nat} (hx : GM x n k K) : mulM n n k (oneM n) x = x := by
 refine ent_inj (n := n) (k := k) (K := n * (1 + K + 1) + 1) ((GM.one n).mul hx) hx fun i j hi hj => ?_
 rw [mulM, ent_tab hi hj, ← bs_one n i hi (fun t => ent x t j)]
 exact bs_congr fun t ht => by rw [oneM, ent_tab hi ht]
theorem tur_mulM (n k p : Nat) (x y : Mx) : mulM p k n (turM k p y) (turM n k x) = turM n p (mulM n k p x y) := tabM_ext fun i j hi hj => by
 rw [mulM, ent_tab hj hi]
 exact bs_congr fun t ht => by rw [turM, turM, ent_tab hi ht, ent_tab ht hj]; grind
theorem tur_turM {x : Mx} {n k K : Nat} (hx : GM x n k K) : turM k n (turM n k x) = x := (mx_ext hx fun i j hi hj => by rw [turM, ent_tab hj hi]).symm
theorem sca_mulM (n k p : Nat) (c : Rat) (x y : Mx) : mulM n k p (scaM n k c x) y = scaM n p c (mulM n k p x y) := tabM_ext fun i j hi hj => by
 rw [mulM, ent_tab hi hj, ← bs_mul]
 exact bs_congr fun t ht => by rw [scaM, ent_tab hi ht]; grind
theorem app_mulM (n k p : Nat) (x y : Mx) (v : List Rat) : appV n k x (appV k p y v) = appV n p (mulM n k p x y) v := tab_ext fun i hi => by
 rw [bs_congr (g := fun t => bsV p fun s => ent x i t * (ent y t s * gv v s)) fun t ht => by
  show ent x i t * gv (appV k p y v) t = _
  rw [appV, gv_tab ht, bs_mul]]
 rw [bs_swap]
 refine bs_congr fun s hs => ?_
 show _ = ent (mulM n k p x y) i s * gv v s
 rw [mulM, ent_tab hi hs, ← bs_mul_r]
 exact bs_congr fun t ht => by grind
-- forms
end Go.Proofs.YthkodldppaccmaaGreatDoor
namespace Go.Proofs.YthkodldppaccmaaGreatDoor
open Go.RowKit
attribute [local irreducible] lo hs sm s64 c64 d64 b64 mh ml pd pc qd qc val hiB str cmpI srD lz nb zl zh zs fe rowV tabV gv bsV
abbrev PM (x : Mx) : Value → World → Prop := fun v w => MT w v x
theorem stays_pm (x : Mx) : Stays (PM x) := fun _ _ _ hb h => h.below hb
/-- A matrix with a code. -/
abbrev MEp (x : Mx) (e : Int) : Value → World → Prop := fun v w => ∃ u, v = .tuple #[u, .int .i64 e] ∧ MT w u x
theorem stays_me (x : Mx) (e : Int) : Stays (MEp x e) := fun _ _ _ hb ⟨u, h1, h2⟩ => ⟨u, h1, h2.below hb⟩
end Go.Proofs.YthkodldppaccmaaGreatDoor
namespace Go.Proofs.YthkodldppaccmaaGreatDoor
open Go.RowKit
attribute [local irreducible] lo hs sm s64 c64 d64 b64 mh ml pd pc qd qc val hiB str cmpI srD lz nb zl zh zs fe rowV tabV gv bsV tabM
set_option maxHeartbeats 4000000 in
set_option maxRecDepth 100000 in
theorem mscale1_w (i k r c n d b1 b2 : Nat) (ao : Option Addr) (t x q : Rat) (KC : World → Prop) (hKC : Keeps KC) (HA : ∀ w, KC w → Calls Tryz.prog 132 #[.agg #[.int .i64 (r : Int), .int .i64 (c : Int), .slice ao n d], .int .i64 (i : Int), .int .i64 (k : Int)] w fun xe w' => xe = .returned (fracV x) ∧ Below w.heap.size w w') (HC : ∀ w, Calls Tryz.prog 36 #[fracV t, fracV x] w fun xe w' => xe = .returned (fracV q) ∧ Below w.heap.size w w') (w : World) (kC : KC w) (c0 : w.cell? ⟨b1, 0, none⟩ = some (.int .u64 ((zl t.num : Nat) : Int))) (c1 : w.cell? ⟨b1, 1, none⟩ = some (.string (zh t.num))) (c2 : w.cell? ⟨b1, 2, none⟩ = some (.bool (zs t.num))) (c3 : w.cell? ⟨b1, 3, none⟩ = some (.int .u64 ((lo (fe t) : Nat) : Int))) (c4 : w.cell? ⟨b1, 4, none⟩ = some (.string (hs (fe t)))) (c5 : w.cell? ⟨b2, 0, none⟩ = some (.int .i64 (r : Int))) (c6 : w.cell? ⟨b2, 1, none⟩ = some (.int .i64 (c : Int))) (c7 : w.cell? ⟨b2, 2, none⟩ = some (.slice ao n d)) :
  Calls Tryz.prog 131 #[.int .i64 (i : Int), .int .i64 (k : Int), .pointer (some ⟨b1, 0, none⟩), .pointer (some ⟨b2, 0, none⟩)] w fun xe w' => xe = .returned (fracV q) ∧ Below w.heap.size w w' := by
 replace HA := Lib.hid HA
 replace HC := Lib.hid HC
 replace hKC := Lib.hid hKC
 have hL0 : GL w w [] := GL.start w
 have hb0 : Below w.heap.size w (w.alloc (.cells #[.int .u64 0, .string ⟨#[]⟩, .bool false, .int .u64 0, .string ⟨#[]⟩] 38)) := (Below.refl _ _).alloc (Nat.le_refl _) _
 replace c0 := keepsC hb0 c0
 replace c1 := keepsC hb0 c1
 replace c2 := keepsC hb0 c2
 replace c3 := keepsC hb0 c3
 replace c4 := keepsC hb0 c4
 replace c5 := keepsC hb0 c5
 replace c6 := keepsC hb0 c6
 replace c7 := keepsC hb0 c7
 replace kC := hKC.out _ _ hb0 kC
 replace hL0 := hL0.new rfl [.int .u64 0, .string ⟨#[]⟩, .bool false, .int .u64 0, .string ⟨#[]⟩] 38
 generalize hweq : w.alloc (.cells #[.int .u64 0, .string ⟨#[]⟩, .bool false, .int .u64 0, .string ⟨#[]⟩] 38) = x1 at hL0 c0 c1 c2 c3 c4 c5 c6 c7 kC
 clear hb0
 replace c0 := Lib.hid c0
 replace c1 := Lib.hid c1
 replace c2 := Lib.hid c2
 replace c3 := Lib.hid c3
 replace c4 := Lib.hid c4
 replace c5 := Lib.hid c5
 replace c6 := Lib.hid c6
 replace c7 := Lib.hid c7
 replace kC := Lib.hid kC
 go_enter Tryz.func131, Tryz.ntmps131
 go_upto_region 1 with fail
 clear hweq
 obtain ⟨α, iα, F, hF1, hF2⟩ := cls x1
 have hq0 : ∀ yz, (F yz).cell? ⟨b1, 0, none⟩ = some (.int .u64 ((zl t.num : Nat) : Int)) := fun yz => keepsC (hF1 yz) c0.out
 have hq1 : ∀ yz, (F yz).cell? ⟨b1, 1, none⟩ = some (.string (zh t.num)) := fun yz => keepsC (hF1 yz) c1.out
 have hq2 : ∀ yz, (F yz).cell? ⟨b1, 2, none⟩ = some (.bool (zs t.num)) := fun yz => keepsC (hF1 yz) c2.out
 have hq3 : ∀ yz, (F yz).cell? ⟨b1, 3, none⟩ = some (.int .u64 ((lo (fe t) : Nat) : Int)) := fun yz => keepsC (hF1 yz) c3.out
 have hq4 : ∀ yz, (F yz).cell? ⟨b1, 4, none⟩ = some (.string (hs (fe t))) := fun yz => keepsC (hF1 yz) c4.out
 have hq5 : ∀ yz, (F yz).cell? ⟨b2, 0, none⟩ = some (.int .i64 (r : Int)) := fun yz => keepsC (hF1 yz) c5.out
 have hq6 : ∀ yz, (F yz).cell? ⟨b2, 1, none⟩ = some (.int .i64 (c : Int)) := fun yz => keepsC (hF1 yz) c6.out
 have hq7 : ∀ yz, (F yz).cell? ⟨b2, 2, none⟩ = some (.slice ao n d) := fun yz => keepsC (hF1 yz) c7.out
 have kC1 := kC.out
 refine region_qs 6 (C := fun w' => ∃ x, w' = F x) (by kernel_rfl) (by kernel_rfl) (cls_drew hF2) ?_
 simp only [List.take_succ_cons, List.take_zero, List.drop_succ_cons, List.drop_zero, List.take_nil, List.drop_nil]
 repeat (go_big_quiet_step (first | fail | (go_at_call 132; with_reducible exact cls_callK hKC.out hF1 hF2 kC1 HA.out _) | (go_at_call 36; with_reducible exact cls_call hF1 hF2 HC.out _)))
 refine wpQuiet_nil ?_
 rintro wq ⟨xq, rfl⟩
 replace hL0 := hL0.call (hF1 xq)
 clear hq0 hq1 hq2 hq3 hq4 hq5 hq6 hq7 hF2 kC1
 generalize F xq = x2 at hL0 ⊢
 clear hF1 xq iα F α
 have hA := hL0.fc
 simp only [fcG, cellsF, neK, and_true, ne_eq, Nat.zero_add, Nat.reduceAdd] at hA
 have hPt := hL0.put 0 (w.heap.size) _ rfl [.int .u64 ((zl q.num : Nat) : Int), .string (zh q.num), .bool (zs q.num), .int .u64 ((lo (fe q) : Nat) : Int), .string (hs (fe q))] rfl
 simp only [setAll, List.set_cons_zero, List.set_cons_succ] at hPt
 generalize hput1 : (((((x2.setCell ⟨w.heap.size, 0, none⟩ (.int .u64 ((zl q.num : Nat) : Int))).setCell ⟨w.heap.size, 1, none⟩ (.string (zh q.num))).setCell ⟨w.heap.size, 2, none⟩ (.bool (zs q.num))).setCell ⟨w.heap.size, 3, none⟩ (.int .u64 ((lo (fe q) : Nat) : Int))).setCell ⟨w.heap.size, 4, none⟩ (.string (hs (fe q)))) = x9 at hPt
 have hB1 := hPt.fc
 simp only [fcG, cellsF, neK, and_true, ne_eq, Nat.zero_add, Nat.reduceAdd] at hB1
 go_wp2_with fail
 exact bodyPost_ret (v := fracV q) (by simp [results, Tryz.results131, go_sem, hB1]) rfl ⟨rfl, hPt.bl⟩
set_option maxHeartbeats 4000000 in
set_option maxRecDepth 100000 in
theorem mone1_w (i : Nat) (q : Rat) (HI : ∀ w, Calls Tryz.prog 34 #[.int .i64 1] w fun xe w' => xe = .returned (fracV q) ∧ Below w.heap.size w w') (w : World)  :
  Calls Tryz.prog 147 #[.int .i64 (i : Int)] w fun xe w' => xe = .returned (fracV q) ∧ Below w.heap.size w w' := by
 replace HI := Lib.hid HI
 have hL0 : GL w w [] := GL.start w
 have hb0 : Below w.heap.size w (w.alloc (.cells #[.int .u64 0, .string ⟨#[]⟩, .bool false, .int .u64 0, .string ⟨#[]⟩] 38)) := (Below.refl _ _).alloc (Nat.le_refl _) _
 replace hL0 := hL0.new rfl [.int .u64 0, .string ⟨#[]⟩, .bool false, .int .u64 0, .string ⟨#[]⟩] 38
 generalize hweq : w.alloc (.cells #[.int .u64 0, .string ⟨#[]⟩, .bool false, .int .u64 0, .string ⟨#[]⟩] 38) = x1 at hL0
 clear hb0
 go_enter Tryz.func147, Tryz.ntmps147
 go_wp2_with fail
 with_reducible refine Calls.mono (HI.out _) ?_
 rintro e x2 ⟨rfl, hb⟩
 replace hL0 := hL0.call hb
 clear hb hweq
 have hA := hL0.fc
 simp only [fcG, cellsF, neK, and_true, ne_eq, Nat.zero_add, Nat.reduceAdd] at hA
 have hPt := hL0.put 0 (w.heap.size) _ rfl [.int .u64 ((zl q.num : Nat) : Int), .string (zh q.num), .bool (zs q.num), .int .u64 ((lo (fe q) : Nat) : Int), .string (hs (fe q))] rfl
 simp only [setAll, List.set_cons_zero, List.set_cons_succ] at hPt
 generalize hput1 : (((((x2.setCell ⟨w.heap.size, 0, none⟩ (.int .u64 ((zl q.num : Nat) : Int))).setCell ⟨w.heap.size, 1, none⟩ (.string (zh q.num))).setCell ⟨w.heap.size, 2, none⟩ (.bool (zs q.num))).setCell ⟨w.heap.size, 3, none⟩ (.int .u64 ((lo (fe q) : Nat) : Int))).setCell ⟨w.heap.size, 4, none⟩ (.string (hs (fe q)))) = x9 at hPt
 have hB1 := hPt.fc
 simp only [fcG, cellsF, neK, and_true, ne_eq, Nat.zero_add, Nat.reduceAdd] at hB1
 go_wp2_with fail
 exact bodyPost_ret (v := fracV q) (by simp [results, Tryz.results147, go_sem, hB1]) rfl ⟨rfl, hPt.bl⟩
end Go.Proofs.YthkodldppaccmaaGreatDoor
namespace Go.Proofs.YthkodldppaccmaaGreatDoor
open Go.RowKit
attribute [local irreducible] lo hs sm s64 c64 d64 b64 mh ml pd pc qd qc val hiB str cmpI srD lz nb zl zh zs fe rowV tabV gv bsV tabM
theorem enmscale : ∀ (args : Array Value) (w : World), (callFunc 131 args).run Tryz.prog w = .ok (.enter 131 args) w := enters_of Tryz.func131 (by kernel_rfl) rfl
theorem mscale_at (t : Rat) (x : Mx) (K : Nat) (hx : OKM x) (hK : K ≤ 1000000) (st : Sz t K) (sx : ∀ q ∈ x.l, Sz q K) (b1 b2 : Nat) (u : Value) (i k : Nat) (hi : i < x.r) (hk : k < x.c) (w : World) (hw : Bq w b1 t ∧ BM w b2 u x) :
  Calls Tryz.prog 131 (#[.int .i64 (i : Int), .int .i64 (k : Int)] ++ #[.pointer (some ⟨b1, 0, none⟩), .pointer (some ⟨b2, 0, none⟩)]) w fun xe w' => xe = .returned (fracV (t * ent x i k)) ∧ Below w.heap.size w w' := by
 obtain ⟨⟨p0, p1, p2, p3, p4⟩, hb⟩ := hw
 obtain ⟨ao, d, rfl, -⟩ := hb.2.2.2.form
 have z1 : Sz (ent x i k) K := sx _ (gv_mem (by rw [hx.len]; exact ix_lt hi hk))
 exact mscale1_w i k x.r x.c x.l.length d b1 b2 ao t _ _ (fun w => CQ w _ x.l) (CQ.keeps _ _) (fun w h => matV x hx i k hi hk _ w h) (fun w => mulF _ _ K st z1 (by omega) w) w hb.2.2.2 p0 p1 p2 p3 p4 hb.1 hb.2.1 hb.2.2.1
end Go.Proofs.YthkodldppaccmaaGreatDoor
namespace Go.Proofs.YthkodldppaccmaaGreatDoor
open Go.RowKit
attribute [local irreducible] lo hs sm s64 c64 d64 b64 mh ml pd pc qd qc val hiB str cmpI srD lz nb zl zh zs fe rowV tabV gv bsV tabM
set_option maxHeartbeats 4000000 in
set_option maxRecDepth 100000 in
theorem mScaleV (t : Rat) (x : Mx) (K : Nat) (hx : OKM x) (n1 : x.r * x.c ≤ 100000) (hK : K ≤ 1000000) (st : Sz t K) (sx : ∀ q ∈ x.l, Sz q K) (u : Value) (w : World) (hu : CQ w u x.l) :
  Calls Tryz.prog 47 #[fracV t, .agg #[.int .i64 (x.r : Int), .int .i64 (x.c : Int), u]] w fun xe w' => ∃ v, xe = .returned (.tuple #[.agg #[.int .i64 (x.r : Int), .int .i64 (x.c : Int), v], .int .i64 0]) ∧ NV w.heap.size (tabM x.r x.c fun i j => t * ent x i j).l v w' ∧ Below w.heap.size w w' := by
 have HB : ∀ b1 b2 ux (w : World), (Bq w b1 t ∧ BM w b2 ux x) → Calls Tryz.prog 130 #[.int .i64 (x.r : Int), .int .i64 (x.c : Int), .func (.func 131) #[] #[.pointer (some ⟨b1, 0, none⟩), .pointer (some ⟨b2, 0, none⟩)]] w fun xe w' => ∃ v, xe = .returned (.agg #[.int .i64 (x.r : Int), .int .i64 (x.c : Int), v]) ∧ NV w.heap.size (tabM x.r x.c fun i j => t * ent x i j).l v w' ∧ Below w.heap.size w w' := fun b1 b2 ux w h =>
  mbuild_w 131 #[.pointer (some ⟨b1, 0, none⟩), .pointer (some ⟨b2, 0, none⟩)] enmscale x.r x.c (fun i j => t * ent x i j) (fun w => Bq w b1 t ∧ BM w b2 ux x) (Keeps.and (Bq.keeps _ _) (BM.keeps _ _ _)) (fun i k hi hk w h => mscale_at t x K hx hK st sx b1 b2 ux i k hi hk w h) hx.r hx.c n1 w h
 have HK := fun (n d : Nat) (ao : Option Addr) (hn : n = x.r * x.c) => mcheck_ok x.r x.c n d ao hx.r hx.c hn
 have hlen := hx.len
 clear sx st n1 hx hK
 generalize (tabM x.r x.c fun i j => t * ent x i j).l = tl at HB ⊢
 obtain ⟨ao, d, rfl, -⟩ := id hu.form
 replace HK := Lib.hid (HK x.l.length d ao hlen)
 clear hlen
 replace HB := Lib.hid HB
 have hL0 : GL w w [] := GL.start w
 replace hL0 := (((hL0.new rfl [.int .u64 ((zl t.num : Nat) : Int), .string (zh t.num), .bool (zs t.num), .int .u64 ((lo (fe t) : Nat) : Int), .string (hs (fe t))] 38).new (K := w.heap.size + 1) (szA _ _) [.int .i64 (x.r : Int), .int .i64 (x.c : Int), (.slice ao x.l.length d)] 81).new (K := w.heap.size + 1 + 1) (by simp only [World.size_alloc]) [.int .i64 0, .int .i64 0, .slice none 0 0] 81)
 generalize hweq : (((w.alloc (.cells #[.int .u64 ((zl t.num : Nat) : Int), .string (zh t.num), .bool (zs t.num), .int .u64 ((lo (fe t) : Nat) : Int), .string (hs (fe t))] 38)).alloc (.cells #[.int .i64 (x.r : Int), .int .i64 (x.c : Int), (.slice ao x.l.length d)] 81)).alloc (.cells #[.int .i64 0, .int .i64 0, .slice none 0 0] 81)) = x1 at hL0
 have hu1 := Lib.hid (hu.below hL0.bl)
 clear hu
 have hA := hL0.fc
 simp only [fcG, cellsF, neK, and_true, ne_eq, Nat.zero_add, Nat.reduceAdd] at hA
 go_enter Tryz.func47, Tryz.ntmps47
 go_wp2_with fail
 with_reducible refine Calls.mono (HK.out _) ?_
 rintro e y1 ⟨rfl, hb⟩
 replace hu1 := Lib.hid (hu1.out.below hb)
 replace hL0 := hL0.call hb
 clear hb hA hweq HK
 have hB1 := Bq.of (hL0.get _ _ (List.mem_cons_of_mem _ (List.mem_cons_of_mem _ List.mem_cons_self)))
 have hB2 := BM.of (hL0.get _ _ (List.mem_cons_of_mem _ List.mem_cons_self)) hu1.out
 replace HB := Lib.hid (HB.out _ _ _ _ ⟨hB1, hB2⟩)
 clear hB1 hB2 hu1
 have hx0 := Lib.hid hL0
 have hA := cells_of _ 0 [] rfl (hL0.get _ _ (List.mem_cons_of_mem _ List.mem_cons_self))
 simp only [cellsF, and_true, Nat.zero_add, Nat.reduceAdd] at hA
 have zA := (hL0.get _ _ (List.mem_cons_of_mem _ List.mem_cons_self)).frz
 go_wp2_with fail
 with_reducible refine Calls.mono (HB.out) ?_
 rintro e y4 ⟨u, rfl, hnv, hb⟩
 replace hL0 := hL0.call hb
 clear hb hA zA
 replace hx0 := hx0.out
 obtain ⟨gu, rfl, hge, hHd⟩ := hnv
 replace hL0 := GL.tnew (M := []) hL0 hx0 hHd hge (fun p hp => by cases hp)
 simp only [List.nil_append] at hL0
 have hge2 := Lib.hid (Nat.le_trans hx0.bl.size hge)
 clear hx0 hge hHd
 have hA := cells_of _ 0 [] rfl (hL0.get _ _ (List.mem_cons_of_mem _ List.mem_cons_self))
 simp only [cellsF, and_true, Nat.zero_add, Nat.reduceAdd] at hA
 have zf := (hL0.get _ _ (List.mem_cons_of_mem _ List.mem_cons_self)).frz
 have hPt := hL0.put 1 (w.heap.size + 1 + 1) _ rfl [.int .i64 (x.r : Int), .int .i64 (x.c : Int), .slice (some ⟨gu, 0, none⟩) tl.length tl.length] rfl
 simp only [setAll, List.set_cons_zero, List.set_cons_succ] at hPt
 generalize hput1 : (((y4.setCell ⟨w.heap.size + 1 + 1, 0, none⟩ (.int .i64 (x.r : Int))).setCell ⟨w.heap.size + 1 + 1, 1, none⟩ (.int .i64 (x.c : Int))).setCell ⟨w.heap.size + 1 + 1, 2, none⟩ (.slice (some ⟨gu, 0, none⟩) tl.length tl.length)) = y5 at hPt
 have hB1 := cells_of _ 0 [] rfl (hPt.get _ _ (List.mem_cons_of_mem _ List.mem_cons_self))
 simp only [cellsF, and_true, Nat.zero_add, Nat.reduceAdd] at hB1
 have hNV : NV w.heap.size tl (.slice (some ⟨gu, 0, none⟩) tl.length tl.length) y5 := ⟨gu, rfl, hge2.out, hPt.get _ _ List.mem_cons_self⟩
 replace hNV := Lib.hid hNV
 clear hL0 hge2
 go_wp2_with fail
 exact bodyPost_ret (v := .tuple #[.agg #[.int .i64 (x.r : Int), .int .i64 (x.c : Int), .slice (some ⟨gu, 0, none⟩) tl.length tl.length], .int .i64 0]) (by simp [results, Tryz.results47, go_sem, hB1]) rfl ⟨_, rfl, hNV.out, hPt.bl⟩
end Go.Proofs.YthkodldppaccmaaGreatDoor
namespace Go.Proofs.YthkodldppaccmaaGreatDoor
open Go.RowKit
attribute [local irreducible] lo hs sm s64 c64 d64 b64 mh ml pd pc qd qc val hiB str cmpI srD lz nb zl zh zs fe qmade
section
variable {x y : Mx} {n k p K M : Nat}
theorem MScaleG {c : Rat} (hc : Sz c K) (hx : GM x n k M) (hn : n ≤ 12) (hk : k ≤ 12) (hK : K ≤ 100000) (hM : M ≤ 100000) (u : Value) (w : World) (hu : MT w u x) :
  Calls Tryz.prog 47 #[fracV c, u] w fun e w' => ∃ pv, e = .returned (.tuple #[pv, .int .i64 0]) ∧ MT w' pv (scaM n k c x) ∧ Below w.heap.size w w' := by
 have ox := hx.ok (by omega) (by omega)
 have sx := (hx.mono (Nat.le_max_right K M)).sz
 obtain ⟨rfl, rfl, -, -⟩ := hx
 obtain ⟨u1, rfl, hu⟩ := hu
 refine (mScaleV c x (max K M) ox (by have := sqM (c := 0) hn hk; omega) (by omega) (hc.mono (Nat.le_max_left _ _)) sx u1 w hu).mono ?_
 rintro e w' ⟨t, rfl, h1, hb⟩
 exact ⟨_, rfl, ⟨t, rfl, h1.cq⟩, hb⟩
end
end Go.Proofs.YthkodldppaccmaaGreatDoor
namespace Go.Proofs.YthkodldppaccmaaGreatDoor
open Go.RowKit
attribute [local irreducible] lo hs sm s64 c64 d64 b64 mh ml pd pc qd qc val hiB str cmpI srD lz nb zl zh zs fe rowV tabV gv bsV
theorem new_mat (w : World) : (Instr.alloc 81 true (.tuple #[])).run Tryz.prog w = .ok (.pointer (some ⟨w.heap.size, 0, none⟩)) (w.alloc (.cells #[.int .i64 0, .int .i64 0, .slice none 0 0] 81)) := by
 simp [go_sem, Instr.alloc]
theorem fws_three {w : World} {g c n d n2 d2 n3 d3 : Nat} {x y x2 y2 x3 y3 : Value} {a a2 a3 : Option Addr} (h : Hd w g [x, y, .slice a n d, x2, y2, .slice a2 n2 d2, x3, y3, .slice a3 n3 d3]) : FWs w (.slice (some ⟨g, 0, none⟩) 3 c) [n, n2, n3] := by
 refine ⟨_, c, g, rfl, fun _ => rfl, fun i hi => ?_⟩
 rcases (by simp at hi; omega : i = 0 ∨ i = 1 ∨ i = 2) with rfl | rfl | rfl
 ·exact ⟨a, d, h.cell 2 (by simp)⟩
 ·exact ⟨a2, d2, h.cell 5 (by simp)⟩
 ·exact ⟨a3, d3, h.cell 8 (by simp)⟩
end Go.Proofs.YthkodldppaccmaaGreatDoor
namespace Go.Proofs.YthkodldppaccmaaGreatDoor
open Go.RowKit
attribute [local irreducible] lo hs sm s64 c64 d64 b64 mh ml pd pc qd qc val hiB str cmpI srD lz nb zl zh zs fe rowV tabV gv bsV tabM
theorem enmdiag : ∀ (args : Array Value) (w : World), (callFunc 202 args).run Tryz.prog w = .ok (.enter 202 args) w := enters_of Tryz.func202 (by kernel_rfl) rfl
theorem mcatch_idle (p q : Addr) (w : World) :
  CallsD Tryz.prog 151 #[.pointer (some p), .pointer (some q)] .returning w fun e u' w' => e = .returned (.tuple #[]) ∧ u' = .returning ∧ w' = w := by
 refine callsD_of_wpS Tryz.func151 rfl fun c₀ cs hu => ?_
 apply wpS_seq
 apply wpS_region
 simp [wpOpsS, go_sem, recoverD, hu, Tryz.ntmps151, Exit.thenS]
 refine wpS_cond (t := false) (by simp [Act.eval, Array.replicate]) ?_
 simp only [Bool.false_eq_true, if_false]
 refine wpS_of_wp (wp_skip ?_)
 cases c₀
 simp_all [bodyPostS, results, Tryz.results151]
set_option maxHeartbeats 4000000 in
set_option maxRecDepth 100000 in
theorem mMakeV (K : FuncId) (caps : Array Value) (r c : Nat) (tl : List Rat) (hr : r ≤ 2048) (hc : c ≤ 2048) (P : World → Prop) (hP : Keeps P)
  (HB : ∀ w, P w → Calls Tryz.prog 130 #[.int .i64 (r : Int), .int .i64 (c : Int), .func (.func K) #[] caps] w fun xe w' => ∃ v, xe = .returned (.agg #[.int .i64 (r : Int), .int .i64 (c : Int), v]) ∧ NV w.heap.size tl v w' ∧ Below w.heap.size w w') (w : World) (kP : P w) :
  Calls Tryz.prog 74 #[.int .i64 (r : Int), .int .i64 (c : Int), .func (.func K) #[] caps] w fun xe w' => ∃ v, xe = .returned (.tuple #[.agg #[.int .i64 (r : Int), .int .i64 (c : Int), v], .int .i64 0]) ∧ NV w.heap.size tl v w' ∧ Below w.heap.size w w' := by
 have HS := Lib.hid (msize_ok r c hr hc)
 replace HB := Lib.hid HB
 replace hP := Lib.hid hP
 have hmf : ∀ (fn : Fn) (first cap : Array Value) (w : World), (Instr.makeFunc fn first cap).run Tryz.prog w = .ok (.func fn first cap) w := fun _ _ _ _ => rfl
 have hnf : ∀ W, (binOp .eql 117 (.func (.func K) #[] caps) Value.nilFunc).run Tryz.prog W = .ok (.bool false) W := fun W => by first | rfl | simp [binOp, go_sem] | (simp [binOp, go_sem, Value.nilFunc]; done)
 clear hr hc
 have hL0 : GL w w [] := GL.start w
 replace hL0 := ((hL0.new rfl [.int .i64 0, .int .i64 0, .slice none 0 0] 81).new (K := w.heap.size + 1) (szA _ _) [.int .i64 0] 49)
 generalize hweq : ((w.alloc (.cells #[.int .i64 0, .int .i64 0, .slice none 0 0] 81)).alloc (.cells #[.int .i64 0] 49)) = x1 at hL0
 replace kP := Lib.hid (hP.out.at hL0.bl kP)
 go_enter_defers Tryz.func74, Tryz.ntmps74
 go_wp2_with fail
 with_reducible refine Calls.mono (HS.out _) ?_
 rintro e y1 ⟨rfl, hb⟩
 replace kP := Lib.hid (hP.out.at hb kP.out)
 replace hL0 := hL0.call hb
 clear hb hweq HS
 have hx0 := Lib.hid hL0
 go_wp2_with fail
 with_reducible refine Calls.mono (HB.out _ kP.out) ?_
 rintro e y2 ⟨u, rfl, hnv, hb⟩
 replace hL0 := hL0.call hb
 clear hb kP
 replace hx0 := hx0.out
 obtain ⟨gu, rfl, hge, hHd⟩ := hnv
 replace hL0 := GL.tnew (M := []) hL0 hx0 hHd hge (fun p hp => by cases hp)
 simp only [List.nil_append] at hL0
 have hge2 := Lib.hid (Nat.le_trans hx0.bl.size hge)
 clear hx0 hge hHd
 have hA := cells_of _ 0 [] rfl (hL0.get _ _ (List.mem_cons_of_mem _ (List.mem_cons_of_mem _ List.mem_cons_self)))
 simp only [cellsF, and_true, Nat.zero_add, Nat.reduceAdd] at hA
 have zf := (hL0.get _ _ (List.mem_cons_of_mem _ (List.mem_cons_of_mem _ List.mem_cons_self))).frz
 have hC := cells_of _ 0 [] rfl (hL0.get _ _ (List.mem_cons_of_mem _ List.mem_cons_self))
 simp only [cellsF, and_true, Nat.zero_add, Nat.reduceAdd] at hC
 have zC := (hL0.get _ _ (List.mem_cons_of_mem _ List.mem_cons_self)).frz
 have hPt := hL0.put 2 (w.heap.size) _ rfl [.int .i64 (r : Int), .int .i64 (c : Int), .slice (some ⟨gu, 0, none⟩) tl.length tl.length] rfl
 simp only [setAll, List.set_cons_zero, List.set_cons_succ] at hPt
 generalize hput1 : (((y2.setCell ⟨w.heap.size, 0, none⟩ (.int .i64 (r : Int))).setCell ⟨w.heap.size, 1, none⟩ (.int .i64 (c : Int))).setCell ⟨w.heap.size, 2, none⟩ (.slice (some ⟨gu, 0, none⟩) tl.length tl.length)) = y3 at hPt
 have hB1 := cells_of _ 0 [] rfl (hPt.get _ _ (List.mem_cons_of_mem _ (List.mem_cons_of_mem _ List.mem_cons_self)))
 simp only [cellsF, and_true, Nat.zero_add, Nat.reduceAdd] at hB1
 have zB := (hPt.get _ _ (List.mem_cons_of_mem _ (List.mem_cons_of_mem _ List.mem_cons_self))).frz
 have hD := cells_of _ 0 [] rfl (hPt.get _ _ (List.mem_cons_of_mem _ List.mem_cons_self))
 simp only [cellsF, and_true, Nat.zero_add, Nat.reduceAdd] at hD
 have zD := (hPt.get _ _ (List.mem_cons_of_mem _ List.mem_cons_self)).frz
 have hPu := hPt.put 1 (w.heap.size + 1) _ rfl [.int .i64 0] rfl
 simp only [setAll, List.set_cons_zero, List.set_cons_succ] at hPu
 generalize hput2 : y3.setCell ⟨w.heap.size + 1, 0, none⟩ (.int .i64 0) = y4 at hPu
 have hB2 := cells_of _ 0 [] rfl (hPu.get _ _ (List.mem_cons_of_mem _ (List.mem_cons_of_mem _ List.mem_cons_self)))
 simp only [cellsF, and_true, Nat.zero_add, Nat.reduceAdd] at hB2
 have hB3 := cells_of _ 0 [] rfl (hPu.get _ _ (List.mem_cons_of_mem _ List.mem_cons_self))
 simp only [cellsF, and_true, Nat.zero_add, Nat.reduceAdd] at hB3
 have hNV : NV w.heap.size tl (.slice (some ⟨gu, 0, none⟩) tl.length tl.length) y4 := ⟨gu, rfl, hge2.out, hPu.get _ _ List.mem_cons_self⟩
 replace hNV := Lib.hid hNV
 have hbl := Lib.hid hPu.bl
 clear hL0 hPt hPu hge2
 go_wp2_with fail
 refine leaves_cons (f := 151) (args := #[.pointer (some ⟨w.heap.size, 0, none⟩), .pointer (some ⟨w.heap.size + 1, 0, none⟩)]) (by simp) (by simp [go_sem]) ?_
 refine (mcatch_idle _ _ _).mono ?_
 rintro e u' w'' ⟨rfl, rfl, rfl⟩
 simp [Leaves, settle, results, Tryz.results74, go_sem, hB2, hB3]
 exact ⟨hNV.out, hbl.out⟩
set_option maxHeartbeats 4000000 in
set_option maxRecDepth 100000 in
theorem mdiag1_ne (i k b1 : Nat) (hne : i ≠ k) (w : World) : Calls Tryz.prog 202 #[.int .i64 (i : Int), .int .i64 (k : Int), .pointer (some ⟨b1, 0, none⟩)] w fun xe w' => xe = .returned (.agg #[.int .u64 0, .string ⟨#[]⟩, .bool false, .int .u64 0, .string ⟨#[]⟩]) ∧ Below w.heap.size w w' := by
 have h1 : ((i : Int) != (k : Int)) = true := by simp; omega
 have h2 : ((i : Int) == (k : Int)) = false := by simp; omega
 have h3 : (i == k) = false := by simp; omega
 have h4 : ¬ (i : Int) = (k : Int) := by omega
 clear hne
 have hL0 : GL w w [] := GL.start w
 replace hL0 := (hL0.new rfl [.int .u64 0, .string ⟨#[]⟩, .bool false, .int .u64 0, .string ⟨#[]⟩] 38)
 generalize hweq : (w.alloc (.cells #[.int .u64 0, .string ⟨#[]⟩, .bool false, .int .u64 0, .string ⟨#[]⟩] 38)) = x1 at hL0
 go_enter Tryz.func202, Tryz.ntmps202
 have hA := hL0.fc
 simp only [fcG, cellsF, neK, and_true, ne_eq, Nat.zero_add, Nat.reduceAdd] at hA
 have hPt := hL0.put 0 (w.heap.size) _ rfl [.int .u64 0, .string ⟨#[]⟩, .bool false, .int .u64 0, .string ⟨#[]⟩] rfl
 simp only [setAll, List.set_cons_zero, List.set_cons_succ] at hPt
 generalize hput1 : (((((x1.setCell ⟨w.heap.size, 0, none⟩ (.int .u64 0)).setCell ⟨w.heap.size, 1, none⟩ (.string ⟨#[]⟩)).setCell ⟨w.heap.size, 2, none⟩ (.bool false)).setCell ⟨w.heap.size, 3, none⟩ (.int .u64 0)).setCell ⟨w.heap.size, 4, none⟩ (.string ⟨#[]⟩)) = x9 at hPt
 have hB1 := hPt.fc
 simp only [fcG, cellsF, neK, and_true, ne_eq, Nat.zero_add, Nat.reduceAdd] at hB1
 go_wp2_with fail
 exact bodyPost_ret (v := .agg #[.int .u64 0, .string ⟨#[]⟩, .bool false, .int .u64 0, .string ⟨#[]⟩]) (by simp [results, Tryz.results202, go_sem, hB1]) rfl ⟨rfl, hPt.bl⟩
set_option maxHeartbeats 4000000 in
set_option maxRecDepth 100000 in
theorem mdiag1_eq (i b1 : Nat) (q : Rat) (HI : ∀ w, Calls Tryz.prog 147 #[.int .i64 (i : Int)] w fun xe w' => xe = .returned (fracV q) ∧ Below w.heap.size w w') (w : World) (c0 : w.cell? ⟨b1, 0, none⟩ = some (.func (.func 147) #[] #[])) :
  Calls Tryz.prog 202 #[.int .i64 (i : Int), .int .i64 (i : Int), .pointer (some ⟨b1, 0, none⟩)] w fun xe w' => xe = .returned (fracV q) ∧ Below w.heap.size w w' := by
 replace HI := Lib.hid HI
 have e1 : ((i : Int) != (i : Int)) = false := by simp
 have hL0 : GL w w [] := GL.start w
 have hb0 : Below w.heap.size w (w.alloc (.cells #[.int .u64 0, .string ⟨#[]⟩, .bool false, .int .u64 0, .string ⟨#[]⟩] 38)) := (Below.refl _ _).alloc (Nat.le_refl _) _
 replace c0 := keepsC hb0 c0
 replace hL0 := hL0.new rfl [.int .u64 0, .string ⟨#[]⟩, .bool false, .int .u64 0, .string ⟨#[]⟩] 38
 generalize hweq : w.alloc (.cells #[.int .u64 0, .string ⟨#[]⟩, .bool false, .int .u64 0, .string ⟨#[]⟩] 38) = x1 at hL0 c0
 clear hb0
 go_enter Tryz.func202, Tryz.ntmps202
 go_wp2_with fail
 with_reducible refine Calls.mono (HI.out _) ?_
 rintro e x2 ⟨rfl, hb⟩
 replace hL0 := hL0.call hb
 clear hb hweq c0
 have hA := hL0.fc
 simp only [fcG, cellsF, neK, and_true, ne_eq, Nat.zero_add, Nat.reduceAdd] at hA
 have hPt := hL0.put 0 (w.heap.size) _ rfl [.int .u64 ((zl q.num : Nat) : Int), .string (zh q.num), .bool (zs q.num), .int .u64 ((lo (fe q) : Nat) : Int), .string (hs (fe q))] rfl
 simp only [setAll, List.set_cons_zero, List.set_cons_succ] at hPt
 generalize hput1 : (((((x2.setCell ⟨w.heap.size, 0, none⟩ (.int .u64 ((zl q.num : Nat) : Int))).setCell ⟨w.heap.size, 1, none⟩ (.string (zh q.num))).setCell ⟨w.heap.size, 2, none⟩ (.bool (zs q.num))).setCell ⟨w.heap.size, 3, none⟩ (.int .u64 ((lo (fe q) : Nat) : Int))).setCell ⟨w.heap.size, 4, none⟩ (.string (hs (fe q)))) = x9 at hPt
 have hB1 := hPt.fc
 simp only [fcG, cellsF, neK, and_true, ne_eq, Nat.zero_add, Nat.reduceAdd] at hB1
 go_wp2_with fail
 exact bodyPost_ret (v := fracV q) (by simp [results, Tryz.results202, go_sem, hB1]) rfl ⟨rfl, hPt.bl⟩
theorem mdiag_at (b1 i k : Nat) (w : World) (hw : w.cell? ⟨b1, 0, none⟩ = some (.func (.func 147) #[] #[])) :
  Calls Tryz.prog 202 (#[.int .i64 (i : Int), .int .i64 (k : Int)] ++ #[.pointer (some ⟨b1, 0, none⟩)]) w fun xe w' => xe = .returned (fracV (if i = k then 1 else 0)) ∧ Below w.heap.size w w' := by
 by_cases h : i = k
 ·subst h
  rw [if_pos rfl]
  exact mdiag1_eq i b1 1 (fun w => mone1_w i 1 (fun w => by have := intF 1 (by decide) (by decide) w; rwa [show (((1 : Int)) : Rat) = 1 from rfl] at this) w) w hw
 ·rw [if_neg h, frV_q0]
  exact mdiag1_ne i k b1 h w
set_option maxHeartbeats 4000000 in
set_option maxRecDepth 100000 in
theorem mdiagonalV (n : Nat) (hn : n ≤ 100) (w : World) :
  Calls Tryz.prog 146 #[.int .i64 (n : Int), .func (.func 147) #[] #[]] w fun xe w' => ∃ v, xe = .returned (.tuple #[.agg #[.int .i64 (n : Int), .int .i64 (n : Int), v], .int .i64 0]) ∧ NV w.heap.size (oneM n).l v w' ∧ Below w.heap.size w w' := by
 have HB : ∀ b1 (w : World), w.cell? ⟨b1, 0, none⟩ = some (.func (.func 147) #[] #[]) → Calls Tryz.prog 130 #[.int .i64 (n : Int), .int .i64 (n : Int), .func (.func 202) #[] #[.pointer (some ⟨b1, 0, none⟩)]] w fun xe w' => ∃ v, xe = .returned (.agg #[.int .i64 (n : Int), .int .i64 (n : Int), v]) ∧ NV w.heap.size (oneM n).l v w' ∧ Below w.heap.size w w' := fun b1 w h =>
  mbuild_w 202 #[.pointer (some ⟨b1, 0, none⟩)] enmdiag n n (fun i k => if i = k then 1 else 0) (fun w => w.cell? ⟨b1, 0, none⟩ = some (.func (.func 147) #[] #[])) (keepsB _ _) (fun i k hi hk w h => mdiag_at b1 i k w h) (by omega) (by omega) (by have := Nat.mul_le_mul hn hn; omega) w h
 generalize (oneM n).l = tl at HB ⊢
 have hL0 : GL w w [] := GL.start w
 replace hL0 := ((hL0.new rfl [.func (.func 147) #[] #[]] 133).new (K := w.heap.size + 1) (szA _ _) [.int .i64 0, .int .i64 0, .slice none 0 0] 81)
 generalize hweq : ((w.alloc (.cells #[.func (.func 147) #[] #[]] 133)).alloc (.cells #[.int .i64 0, .int .i64 0, .slice none 0 0] 81)) = x1 at hL0
 have hc1 := (hL0.get _ _ (List.mem_cons_of_mem _ List.mem_cons_self)).cell 0 (by simp)
 simp only [List.getElem_cons_zero, List.getElem_cons_succ] at hc1
 have HC := Lib.hid (mMakeV 202 #[.pointer (some ⟨w.heap.size, 0, none⟩)] n n tl (by omega) (by omega) (fun w => w.cell? ⟨_, 0, none⟩ = some (.func (.func 147) #[] #[])) (keepsB _ _) (HB _) x1 hc1)
 clear HB hc1
 have hA := hL0.fc
 simp only [fcG, cellsF, neK, and_true, ne_eq, Nat.zero_add, Nat.reduceAdd] at hA
 go_enter Tryz.func146, Tryz.ntmps146
 have hx0 := Lib.hid hL0
 go_wp2_with fail
 with_reducible refine Calls.mono (HC.out) ?_
 rintro e y4 ⟨u, rfl, hnv, hb⟩
 replace hL0 := hL0.call hb
 clear hb hA hweq HC
 replace hx0 := hx0.out
 obtain ⟨gu, rfl, hge, hHd⟩ := hnv
 replace hL0 := GL.tnew (M := []) hL0 hx0 hHd hge (fun p hp => by cases hp)
 simp only [List.nil_append] at hL0
 have hge2 := Lib.hid (Nat.le_trans hx0.bl.size hge)
 clear hx0 hge hHd
 have hA := cells_of _ 0 [] rfl (hL0.get _ _ (List.mem_cons_of_mem _ List.mem_cons_self))
 simp only [cellsF, and_true, Nat.zero_add, Nat.reduceAdd] at hA
 have zf := (hL0.get _ _ (List.mem_cons_of_mem _ List.mem_cons_self)).frz
 have hPt := hL0.put 1 (w.heap.size + 1) _ rfl [.int .i64 (n : Int), .int .i64 (n : Int), .slice (some ⟨gu, 0, none⟩) tl.length tl.length] rfl
 simp only [setAll, List.set_cons_zero, List.set_cons_succ] at hPt
 generalize hput1 : (((y4.setCell ⟨w.heap.size + 1, 0, none⟩ (.int .i64 (n : Int))).setCell ⟨w.heap.size + 1, 1, none⟩ (.int .i64 (n : Int))).setCell ⟨w.heap.size + 1, 2, none⟩ (.slice (some ⟨gu, 0, none⟩) tl.length tl.length)) = y5 at hPt
 have hB1 := cells_of _ 0 [] rfl (hPt.get _ _ (List.mem_cons_of_mem _ List.mem_cons_self))
 simp only [cellsF, and_true, Nat.zero_add, Nat.reduceAdd] at hB1
 have hNV : NV w.heap.size tl (.slice (some ⟨gu, 0, none⟩) tl.length tl.length) y5 := ⟨gu, rfl, hge2.out, hPt.get _ _ List.mem_cons_self⟩
 replace hNV := Lib.hid hNV
 clear hL0 hge2
 go_wp2_with fail
 exact bodyPost_ret (v := .tuple #[.agg #[.int .i64 (n : Int), .int .i64 (n : Int), .slice (some ⟨gu, 0, none⟩) tl.length tl.length], .int .i64 0]) (by simp [results, Tryz.results146, go_sem, hB1]) rfl ⟨_, rfl, hNV.out, hPt.bl⟩
set_option maxHeartbeats 4000000 in
set_option maxRecDepth 100000 in
theorem mOneV (n : Nat) (hn : n ≤ 100) (w : World) :
  Calls Tryz.prog 66 #[.int .i64 (n : Int)] w fun xe w' => ∃ v, xe = .returned (.tuple #[.agg #[.int .i64 (n : Int), .int .i64 (n : Int), v], .int .i64 0]) ∧ NV w.heap.size (oneM n).l v w' ∧ Below w.heap.size w w' := by
 have HC := fun w => mdiagonalV n hn w
 generalize (oneM n).l = tl at HC ⊢
 replace HC := Lib.hid HC
 have hL0 : GL w w [] := GL.start w
 replace hL0 := (hL0.new rfl [.int .i64 0, .int .i64 0, .slice none 0 0] 81)
 generalize hweq : (w.alloc (.cells #[.int .i64 0, .int .i64 0, .slice none 0 0] 81)) = x1 at hL0
 go_enter Tryz.func66, Tryz.ntmps66
 have hx0 := Lib.hid hL0
 go_wp2_with fail
 with_reducible refine Calls.mono (HC.out _) ?_
 rintro e y4 ⟨u, rfl, hnv, hb⟩
 replace hL0 := hL0.call hb
 clear hb hweq HC
 replace hx0 := hx0.out
 obtain ⟨gu, rfl, hge, hHd⟩ := hnv
 replace hL0 := GL.tnew (M := []) hL0 hx0 hHd hge (fun p hp => by cases hp)
 simp only [List.nil_append] at hL0
 have hge2 := Lib.hid (Nat.le_trans hx0.bl.size hge)
 clear hx0 hge hHd
 have hA := cells_of _ 0 [] rfl (hL0.get _ _ (List.mem_cons_of_mem _ List.mem_cons_self))
 simp only [cellsF, and_true, Nat.zero_add, Nat.reduceAdd] at hA
 have zf := (hL0.get _ _ (List.mem_cons_of_mem _ List.mem_cons_self)).frz
 have hPt := hL0.put 1 (w.heap.size) _ rfl [.int .i64 (n : Int), .int .i64 (n : Int), .slice (some ⟨gu, 0, none⟩) tl.length tl.length] rfl
 simp only [setAll, List.set_cons_zero, List.set_cons_succ] at hPt
 generalize hput1 : (((y4.setCell ⟨w.heap.size, 0, none⟩ (.int .i64 (n : Int))).setCell ⟨w.heap.size, 1, none⟩ (.int .i64 (n : Int))).setCell ⟨w.heap.size, 2, none⟩ (.slice (some ⟨gu, 0, none⟩) tl.length tl.length)) = y5 at hPt
 have hB1 := cells_of _ 0 [] rfl (hPt.get _ _ (List.mem_cons_of_mem _ List.mem_cons_self))
 simp only [cellsF, and_true, Nat.zero_add, Nat.reduceAdd] at hB1
 have hNV : NV w.heap.size tl (.slice (some ⟨gu, 0, none⟩) tl.length tl.length) y5 := ⟨gu, rfl, hge2.out, hPt.get _ _ List.mem_cons_self⟩
 replace hNV := Lib.hid hNV
 clear hL0 hge2
 go_wp2_with fail
 exact bodyPost_ret (v := .tuple #[.agg #[.int .i64 (n : Int), .int .i64 (n : Int), .slice (some ⟨gu, 0, none⟩) tl.length tl.length], .int .i64 0]) (by simp [results, Tryz.results66, go_sem, hB1]) rfl ⟨_, rfl, hNV.out, hPt.bl⟩
theorem MOneG (n : Nat) (hn : n ≤ 12) (w : World) :
  Calls Tryz.prog 66 #[.int .i64 (n : Int)] w fun e w' => ∃ pv, e = .returned (.tuple #[pv, .int .i64 0]) ∧ MT w' pv (oneM n) ∧ Below w.heap.size w w' := by
 refine (mOneV n (by omega) w).mono ?_
 rintro e w' ⟨t, rfl, h1, hb⟩
 exact ⟨_, rfl, ⟨t, by rw [(GM.one n).r, (GM.one n).c], h1.cq⟩, hb⟩
end Go.Proofs.YthkodldppaccmaaGreatDoor
namespace Go.Proofs.YthkodldppaccmaaGreatDoor
open Go.RowKit
attribute [local irreducible] lo hs sm s64 c64 d64 b64 mh ml pd pc qd qc val hiB str cmpI srD lz nb zl zh zs fe rowV tabV gv bsV tabM
theorem qE_sz {ql : List (Int × Int)} (h : ∀ p ∈ ql, QR p) (i : Nat) : Sz (qE ql i) 1 := by
 unfold qE
 split
 ·rename_i hi
  rw [List.getD_eq_getElem?_getD, List.getElem?_eq_getElem hi]
  exact qm_sz (h _ (List.getElem_mem hi))
 ·exact szc 0 (by decide) (by decide)
theorem vecM_gv {ql : List (Int × Int)} (h : ∀ p ∈ ql, QR p) (n : Nat) : GV (vecM ql n) n 1 := GV.tab fun i _ => qE_sz h i
end Go.Proofs.YthkodldppaccmaaGreatDoor
namespace Go.Proofs.YthkodldppaccmaaGreatDoor
open Go.RowKit
attribute [local irreducible] lo hs sm s64 c64 d64 b64 mh ml pd pc qd qc val hiB str cmpI srD lz nb zl zh zs fe rowV tabV gv bsV tabM
theorem someM_gm {ql : List (Int × Int)} (h : ∀ p ∈ ql, QR p) (r c : Nat) : GM (someM ql r c) r c 1 := ⟨rfl, rfl, by unfold someM; exact tabV_len _ _, by unfold someM; exact tab_all fun i _ => qE_sz h i⟩
end Go.Proofs.YthkodldppaccmaaGreatDoor
namespace Go.Proofs.YthkodldppaccmaaGreatDoor
open Go.RowKit
attribute [local irreducible] lo hs sm s64 c64 d64 b64 mh ml pd pc qd qc val hiB str cmpI srD lz nb zl zh zs fe rowV tabV gv bsV turM mulM sumM scaM oneM appV formM tabM dotL sumL mulL
set_option maxHeartbeats 16000000 in
set_option maxRecDepth 100000 in
theorem mring_l1 (qn qd zr1 zc1 zr2 zc2 zr3 zc3 zn zk zp : Int) (la1 la2 la3 av : Option Addr) (lx1 ly1 lx2 ly2 lx3 ly3 nv cv : Nat)  (HFw : ∀ (p0 : Value) (w : World), FWs w p0 ([lx1, lx2, lx3]) → Calls Tryz.prog 40 #[p0] w fun e w' => e = .returned (.bool false) ∧ Below w.heap.size w w') (KT : World → Prop) (hKT : Keeps KT) (HW : ∀ w, KT w → Calls Tryz.prog 41 #[] w fun xe w' => xe = .returned (.bool true) ∧ Below w.heap.size w w') (w : World) (kKT : KT w) :
  Calls Tryz.prog 7 #[.agg #[.int .i64 qn, .int .u32 qd], .agg #[.int .u8 zr1, .int .u8 zc1, .slice la1 lx1 ly1], .agg #[.int .u8 zr2, .int .u8 zc2, .slice la2 lx2 ly2], .agg #[.int .u8 zr3, .int .u8 zc3, .slice la3 lx3 ly3], .slice av nv cv, .int .u8 zn, .int .u8 zk, .int .u8 zp] w fun e w' => e = .returned (.bool true) ∧ Below w.heap.size w w' := by
 replace HFw := Lib.hid HFw
 replace hKT := Lib.hid hKT
 replace HW := Lib.hid HW
 have hL0 : GL w w [] := GL.start w
 have hT : PTs w [] := PTs.nil w
 replace hT := ((((hT.new (.cells #[.int .i64 qn, .int .u32 qd] 24)).new (.cells #[.int .u8 zr1, .int .u8 zc1, .slice la1 lx1 ly1] 76)).new (.cells #[.int .u8 zr2, .int .u8 zc2, .slice la2 lx2 ly2] 76)).new (.cells #[.int .u8 zr3, .int .u8 zc3, .slice la3 lx3 ly3] 76))
 replace hL0 := ((((hL0.new rfl [.int .i64 qn, .int .u32 qd] 24).new (K := w.heap.size + 1) (szA _ _) [.int .u8 zr1, .int .u8 zc1, .slice la1 lx1 ly1] 76).new (K := w.heap.size + 1 + 1) (by simp only [World.size_alloc]) [.int .u8 zr2, .int .u8 zc2, .slice la2 lx2 ly2] 76).new (K := w.heap.size + 1 + 1 + 1) (by simp only [World.size_alloc]) [.int .u8 zr3, .int .u8 zc3, .slice la3 lx3 ly3] 76)
 generalize hweq : ((((w.alloc (.cells #[.int .i64 qn, .int .u32 qd] 24)).alloc (.cells #[.int .u8 zr1, .int .u8 zc1, .slice la1 lx1 ly1] 76)).alloc (.cells #[.int .u8 zr2, .int .u8 zc2, .slice la2 lx2 ly2] 76)).alloc (.cells #[.int .u8 zr3, .int .u8 zc3, .slice la3 lx3 ly3] 76)) = x1 at hL0 hT
 go_enter Tryz.func7, Tryz.ntmps7
 go_upto_region 1 with fail
 have hZ0 := cells_of _ 0 [] rfl (hL0.get _ _ List.mem_cons_self)
 simp only [cellsF, and_true, Nat.zero_add, Nat.reduceAdd] at hZ0
 have hZ1 := cells_of _ 0 [] rfl (hL0.get _ _ (List.mem_cons_of_mem _ List.mem_cons_self))
 simp only [cellsF, and_true, Nat.zero_add, Nat.reduceAdd] at hZ1
 have hZ2 := cells_of _ 0 [] rfl (hL0.get _ _ (List.mem_cons_of_mem _ (List.mem_cons_of_mem _ List.mem_cons_self)))
 simp only [cellsF, and_true, Nat.zero_add, Nat.reduceAdd] at hZ2
 replace hT := (hT.new (.cells #[.int .u8 zr1, .int .u8 zc1, .slice la1 lx1 ly1, .int .u8 zr2, .int .u8 zc2, .slice la2 lx2 ly2, .int .u8 zr3, .int .u8 zc3, .slice la3 lx3 ly3] 76))
 clear hweq
 replace hL0 := (hL0.new rfl [.int .u8 zr1, .int .u8 zc1, .slice la1 lx1 ly1, .int .u8 zr2, .int .u8 zc2, .slice la2 lx2 ly2, .int .u8 zr3, .int .u8 zc3, .slice la3 lx3 ly3] 76)
 generalize hweq : (x1.alloc (.cells #[.int .u8 zr1, .int .u8 zc1, .slice la1 lx1 ly1, .int .u8 zr2, .int .u8 zc2, .slice la2 lx2 ly2, .int .u8 zr3, .int .u8 zc3, .slice la3 lx3 ly3] 76)) = x2 at hL0 hT
 have hN0 := cells_of _ 0 [] rfl (hL0.get _ _ (List.mem_cons_of_mem _ List.mem_cons_self))
 simp only [cellsF, and_true, Nat.zero_add, Nat.reduceAdd] at hN0
 have hN1 := cells_of _ 0 [] rfl (hL0.get _ _ (List.mem_cons_of_mem _ (List.mem_cons_of_mem _ List.mem_cons_self)))
 simp only [cellsF, and_true, Nat.zero_add, Nat.reduceAdd] at hN1
 have hN2 := cells_of _ 0 [] rfl (hL0.get _ _ (List.mem_cons_of_mem _ (List.mem_cons_of_mem _ (List.mem_cons_of_mem _ List.mem_cons_self))))
 simp only [cellsF, and_true, Nat.zero_add, Nat.reduceAdd] at hN2
 have hbv1 : FWs x2 (.slice (some ⟨x1.heap.size, 0, none⟩) 3 3) [lx1, lx2, lx3] := fws_three (hL0.get _ _ List.mem_cons_self)
 replace hbv1 := Lib.hid hbv1
 go_wp2_with fail
 clear hN0 hN1 hN2
 with_reducible refine Calls.mono (HFw.out (.slice (some ⟨x1.heap.size, 0, none⟩) 3 3) _ hbv1.out) ?_
 rintro e x3 ⟨rfl, hb⟩
 replace hL0 := hL0.call hb
 replace hT := hT.call hb
 clear hb hweq
 clear hZ0 hZ1 hZ2
 go_wp2_with fail
 with_reducible refine Calls.mono (HW.out _ (hKT.out.at hL0.bl kKT)) ?_
 rintro e x4 ⟨rfl, hb⟩
 replace hL0 := hL0.call hb
 replace hT := hT.call hb
 clear hb
 go_wp2_with fail
 exact bodyPost_ret (v := .bool true) (by simp [results, Tryz.results7, go_sem]) rfl ⟨rfl, hL0.bl⟩
set_option maxHeartbeats 16000000 in
set_option maxRecDepth 100000 in
theorem mring_l2 (qn qd zr1 zc1 zr2 zc2 zr3 zc3 zn zk zp : Int) (la1 la2 la3 av : Option Addr) (lx1 ly1 lx2 ly2 lx3 ly3 nv cv : Nat)  (HFw : ∀ (p0 : Value) (w : World), FWs w p0 ([lx1, lx2, lx3]) → Calls Tryz.prog 40 #[p0] w fun e w' => e = .returned (.bool true) ∧ Below w.heap.size w w') (KT : World → Prop) (hKT : Keeps KT) (HW : ∀ w, KT w → Calls Tryz.prog 41 #[] w fun xe w' => xe = .returned (.bool true) ∧ Below w.heap.size w w') (l_nv : decide ((20 : Int) < ((nv : Nat) : Int)) = true) (k_nv : decide (20 < nv) = true) (w : World) (kKT : KT w) :
  Calls Tryz.prog 7 #[.agg #[.int .i64 qn, .int .u32 qd], .agg #[.int .u8 zr1, .int .u8 zc1, .slice la1 lx1 ly1], .agg #[.int .u8 zr2, .int .u8 zc2, .slice la2 lx2 ly2], .agg #[.int .u8 zr3, .int .u8 zc3, .slice la3 lx3 ly3], .slice av nv cv, .int .u8 zn, .int .u8 zk, .int .u8 zp] w fun e w' => e = .returned (.bool true) ∧ Below w.heap.size w w' := by
 replace HFw := Lib.hid HFw
 replace hKT := Lib.hid hKT
 replace HW := Lib.hid HW
 have hL0 : GL w w [] := GL.start w
 have hT : PTs w [] := PTs.nil w
 replace hT := ((((hT.new (.cells #[.int .i64 qn, .int .u32 qd] 24)).new (.cells #[.int .u8 zr1, .int .u8 zc1, .slice la1 lx1 ly1] 76)).new (.cells #[.int .u8 zr2, .int .u8 zc2, .slice la2 lx2 ly2] 76)).new (.cells #[.int .u8 zr3, .int .u8 zc3, .slice la3 lx3 ly3] 76))
 replace hL0 := ((((hL0.new rfl [.int .i64 qn, .int .u32 qd] 24).new (K := w.heap.size + 1) (szA _ _) [.int .u8 zr1, .int .u8 zc1, .slice la1 lx1 ly1] 76).new (K := w.heap.size + 1 + 1) (by simp only [World.size_alloc]) [.int .u8 zr2, .int .u8 zc2, .slice la2 lx2 ly2] 76).new (K := w.heap.size + 1 + 1 + 1) (by simp only [World.size_alloc]) [.int .u8 zr3, .int .u8 zc3, .slice la3 lx3 ly3] 76)
 generalize hweq : ((((w.alloc (.cells #[.int .i64 qn, .int .u32 qd] 24)).alloc (.cells #[.int .u8 zr1, .int .u8 zc1, .slice la1 lx1 ly1] 76)).alloc (.cells #[.int .u8 zr2, .int .u8 zc2, .slice la2 lx2 ly2] 76)).alloc (.cells #[.int .u8 zr3, .int .u8 zc3, .slice la3 lx3 ly3] 76)) = x1 at hL0 hT
 go_enter Tryz.func7, Tryz.ntmps7
 go_upto_region 1 with fail
 have hZ0 := cells_of _ 0 [] rfl (hL0.get _ _ List.mem_cons_self)
 simp only [cellsF, and_true, Nat.zero_add, Nat.reduceAdd] at hZ0
 have hZ1 := cells_of _ 0 [] rfl (hL0.get _ _ (List.mem_cons_of_mem _ List.mem_cons_self))
 simp only [cellsF, and_true, Nat.zero_add, Nat.reduceAdd] at hZ1
 have hZ2 := cells_of _ 0 [] rfl (hL0.get _ _ (List.mem_cons_of_mem _ (List.mem_cons_of_mem _ List.mem_cons_self)))
 simp only [cellsF, and_true, Nat.zero_add, Nat.reduceAdd] at hZ2
 replace hT := (hT.new (.cells #[.int .u8 zr1, .int .u8 zc1, .slice la1 lx1 ly1, .int .u8 zr2, .int .u8 zc2, .slice la2 lx2 ly2, .int .u8 zr3, .int .u8 zc3, .slice la3 lx3 ly3] 76))
 clear hweq
 replace hL0 := (hL0.new rfl [.int .u8 zr1, .int .u8 zc1, .slice la1 lx1 ly1, .int .u8 zr2, .int .u8 zc2, .slice la2 lx2 ly2, .int .u8 zr3, .int .u8 zc3, .slice la3 lx3 ly3] 76)
 generalize hweq : (x1.alloc (.cells #[.int .u8 zr1, .int .u8 zc1, .slice la1 lx1 ly1, .int .u8 zr2, .int .u8 zc2, .slice la2 lx2 ly2, .int .u8 zr3, .int .u8 zc3, .slice la3 lx3 ly3] 76)) = x2 at hL0 hT
 have hN0 := cells_of _ 0 [] rfl (hL0.get _ _ (List.mem_cons_of_mem _ List.mem_cons_self))
 simp only [cellsF, and_true, Nat.zero_add, Nat.reduceAdd] at hN0
 have hN1 := cells_of _ 0 [] rfl (hL0.get _ _ (List.mem_cons_of_mem _ (List.mem_cons_of_mem _ List.mem_cons_self)))
 simp only [cellsF, and_true, Nat.zero_add, Nat.reduceAdd] at hN1
 have hN2 := cells_of _ 0 [] rfl (hL0.get _ _ (List.mem_cons_of_mem _ (List.mem_cons_of_mem _ (List.mem_cons_of_mem _ List.mem_cons_self))))
 simp only [cellsF, and_true, Nat.zero_add, Nat.reduceAdd] at hN2
 have hbv1 : FWs x2 (.slice (some ⟨x1.heap.size, 0, none⟩) 3 3) [lx1, lx2, lx3] := fws_three (hL0.get _ _ List.mem_cons_self)
 replace hbv1 := Lib.hid hbv1
 go_wp2_with fail
 clear hN0 hN1 hN2
 with_reducible refine Calls.mono (HFw.out (.slice (some ⟨x1.heap.size, 0, none⟩) 3 3) _ hbv1.out) ?_
 rintro e x3 ⟨rfl, hb⟩
 replace hL0 := hL0.call hb
 replace hT := hT.call hb
 clear hb hweq
 clear hZ0 hZ1 hZ2
 go_wp2_with fail
 with_reducible refine Calls.mono (HW.out _ (hKT.out.at hL0.bl kKT)) ?_
 rintro e x4 ⟨rfl, hb⟩
 replace hL0 := hL0.call hb
 replace hT := hT.call hb
 clear hb
 go_wp2_with fail
 exact bodyPost_ret (v := .bool true) (by simp [results, Tryz.results7, go_sem]) rfl ⟨rfl, hL0.bl⟩
set_option maxHeartbeats 16000000 in
set_option maxRecDepth 100000 in
theorem mring_w (qn qd zr1 zc1 zr2 zc2 zr3 zc3 zn zk zp : Int) (la1 la2 la3 av : Option Addr) (lx1 ly1 lx2 ly2 lx3 ly3 nv cv : Nat) (da db dc dd : Nat) (x y z ot on xy xyz yz yo xyo xo txy ty tx xx xxy cx cxy : Mx) (vw yv avp : List Rat) (qc : Rat) (HFw : ∀ (p0 : Value) (w : World), FWs w p0 ([lx1, lx2, lx3]) → Calls Tryz.prog 40 #[p0] w fun e w' => e = .returned (.bool true) ∧ Below w.heap.size w w') (KA : World → Prop) (hKA : Keeps KA) (HSa : ∀ (w : World), KA w → Calls Tryz.prog 43 #[.agg #[.int .u8 zr1, .int .u8 zc1, .slice la1 lx1 ly1], .int .i64 (da : Int), .int .i64 (db : Int)] w fun e w' => ∃ pv, e = .returned pv ∧ MT w' pv x ∧ Below w.heap.size w w') (KB : World → Prop) (hKB : Keeps KB) (HSb : ∀ (w : World), KB w → Calls Tryz.prog 43 #[.agg #[.int .u8 zr2, .int .u8 zc2, .slice la2 lx2 ly2], .int .i64 (db : Int), .int .i64 (dc : Int)] w fun e w' => ∃ pv, e = .returned pv ∧ MT w' pv y ∧ Below w.heap.size w w') (KD : World → Prop) (hKD : Keeps KD) (HSc : ∀ (w : World), KD w → Calls Tryz.prog 43 #[.agg #[.int .u8 zr3, .int .u8 zc3, .slice la3 lx3 ly3], .int .i64 (dc : Int), .int .i64 (dd : Int)] w fun e w' => ∃ pv, e = .returned pv ∧ MT w' pv z ∧ Below w.heap.size w w') (HSd : ∀ (w : World), KD w → Calls Tryz.prog 43 #[.agg #[.int .u8 zr3, .int .u8 zc3, .slice la3 lx3 ly3], .int .i64 (db : Int), .int .i64 (dc : Int)] w fun e w' => ∃ pv, e = .returned pv ∧ MT w' pv ot ∧ Below w.heap.size w w') (HOn : ∀ (w : World), Calls Tryz.prog 66 #[.int .i64 (db : Int)] w fun e w' => ∃ pv, e = .returned (.tuple #[pv, .int .i64 0]) ∧ MT w' pv on ∧ Below w.heap.size w w') (M1 : ∀ (p0 p1 : Value) (w : World), MT w p0 x → MT w p1 y → Calls Tryz.prog 68 #[p0, p1] w fun e w' => ∃ pv, e = .returned pv ∧ MT w' pv xy ∧ Below w.heap.size w w') (M2 : ∀ (p0 p1 : Value) (w : World), MT w p0 xy → MT w p1 z → Calls Tryz.prog 68 #[p0, p1] w fun e w' => ∃ pv, e = .returned pv ∧ MT w' pv xyz ∧ Below w.heap.size w w') (M3 : ∀ (p0 p1 : Value) (w : World), MT w p0 y → MT w p1 z → Calls Tryz.prog 68 #[p0, p1] w fun e w' => ∃ pv, e = .returned pv ∧ MT w' pv yz ∧ Below w.heap.size w w') (M4 : ∀ (p0 p1 : Value) (w : World), MT w p0 x → MT w p1 yz → Calls Tryz.prog 68 #[p0, p1] w fun e w' => ∃ pv, e = .returned pv ∧ MT w' pv xyz ∧ Below w.heap.size w w') (S1 : ∀ (p0 p1 : Value) (w : World), MT w p0 xyz → MT w p1 xyz → Calls Tryz.prog 67 #[p0, p1] w fun e w' => e = .returned (.bool true) ∧ Below w.heap.size w w') (A1 : ∀ (p0 p1 : Value) (w : World), MT w p0 y → MT w p1 ot → Calls Tryz.prog 69 #[p0, p1] w fun e w' => ∃ pv, e = .returned pv ∧ MT w' pv yo ∧ Below w.heap.size w w') (M5 : ∀ (p0 p1 : Value) (w : World), MT w p0 x → MT w p1 yo → Calls Tryz.prog 68 #[p0, p1] w fun e w' => ∃ pv, e = .returned pv ∧ MT w' pv xyo ∧ Below w.heap.size w w') (M6 : ∀ (p0 p1 : Value) (w : World), MT w p0 x → MT w p1 ot → Calls Tryz.prog 68 #[p0, p1] w fun e w' => ∃ pv, e = .returned pv ∧ MT w' pv xo ∧ Below w.heap.size w w') (A2 : ∀ (p0 p1 : Value) (w : World), MT w p0 xy → MT w p1 xo → Calls Tryz.prog 69 #[p0, p1] w fun e w' => ∃ pv, e = .returned pv ∧ MT w' pv xyo ∧ Below w.heap.size w w') (S2 : ∀ (p0 p1 : Value) (w : World), MT w p0 xyo → MT w p1 xyo → Calls Tryz.prog 67 #[p0, p1] w fun e w' => e = .returned (.bool true) ∧ Below w.heap.size w w') (M7 : ∀ (p0 p1 : Value) (w : World), MT w p0 x → MT w p1 on → Calls Tryz.prog 68 #[p0, p1] w fun e w' => ∃ pv, e = .returned pv ∧ MT w' pv x ∧ Below w.heap.size w w') (S3 : ∀ (p0 p1 : Value) (w : World), MT w p0 x → MT w p1 x → Calls Tryz.prog 67 #[p0, p1] w fun e w' => e = .returned (.bool true) ∧ Below w.heap.size w w') (M8 : ∀ (p0 p1 : Value) (w : World), MT w p0 on → MT w p1 y → Calls Tryz.prog 68 #[p0, p1] w fun e w' => ∃ pv, e = .returned pv ∧ MT w' pv y ∧ Below w.heap.size w w') (S4 : ∀ (p0 p1 : Value) (w : World), MT w p0 y → MT w p1 y → Calls Tryz.prog 67 #[p0, p1] w fun e w' => e = .returned (.bool true) ∧ Below w.heap.size w w') (T1 : ∀ (p0 : Value) (w : World), MT w p0 xy → Calls Tryz.prog 70 #[p0] w fun e w' => ∃ pv, e = .returned pv ∧ MT w' pv txy ∧ Below w.heap.size w w') (T2 : ∀ (p0 : Value) (w : World), MT w p0 y → Calls Tryz.prog 70 #[p0] w fun e w' => ∃ pv, e = .returned pv ∧ MT w' pv ty ∧ Below w.heap.size w w') (T3 : ∀ (p0 : Value) (w : World), MT w p0 x → Calls Tryz.prog 70 #[p0] w fun e w' => ∃ pv, e = .returned pv ∧ MT w' pv tx ∧ Below w.heap.size w w') (M9 : ∀ (p0 p1 : Value) (w : World), MT w p0 ty → MT w p1 tx → Calls Tryz.prog 68 #[p0, p1] w fun e w' => ∃ pv, e = .returned pv ∧ MT w' pv txy ∧ Below w.heap.size w w') (S5 : ∀ (p0 p1 : Value) (w : World), MT w p0 txy → MT w p1 txy → Calls Tryz.prog 67 #[p0, p1] w fun e w' => e = .returned (.bool true) ∧ Below w.heap.size w w') (T4 : ∀ (p0 : Value) (w : World), MT w p0 tx → Calls Tryz.prog 70 #[p0] w fun e w' => ∃ pv, e = .returned pv ∧ MT w' pv x ∧ Below w.heap.size w w') (A3 : ∀ (p0 p1 : Value) (w : World), MT w p0 x → MT w p1 x → Calls Tryz.prog 69 #[p0, p1] w fun e w' => ∃ pv, e = .returned pv ∧ MT w' pv xx ∧ Below w.heap.size w w') (Ma : ∀ (p0 p1 : Value) (w : World), MT w p0 xx → MT w p1 y → Calls Tryz.prog 68 #[p0, p1] w fun e w' => ∃ pv, e = .returned pv ∧ MT w' pv xxy ∧ Below w.heap.size w w') (A4 : ∀ (p0 p1 : Value) (w : World), MT w p0 xy → MT w p1 xy → Calls Tryz.prog 69 #[p0, p1] w fun e w' => ∃ pv, e = .returned pv ∧ MT w' pv xxy ∧ Below w.heap.size w w') (S6 : ∀ (p0 p1 : Value) (w : World), MT w p0 xxy → MT w p1 xxy → Calls Tryz.prog 67 #[p0, p1] w fun e w' => e = .returned (.bool true) ∧ Below w.heap.size w w') (HQ1 : ∀ w, Calls Tryz.prog 15 #[.agg #[.int .i64 qn, .int .u32 qd]] w fun xe w' => xe = .returned (fracV qc) ∧ Below w.heap.size w w') (C1 : ∀ (p1 : Value) (w : World), MT w p1 x → Calls Tryz.prog 47 #[fracV qc, p1] w fun e w' => ∃ pv, e = .returned (.tuple #[pv, .int .i64 0]) ∧ MT w' pv cx ∧ Below w.heap.size w w') (C2 : ∀ (p1 : Value) (w : World), MT w p1 xy → Calls Tryz.prog 47 #[fracV qc, p1] w fun e w' => ∃ pv, e = .returned (.tuple #[pv, .int .i64 0]) ∧ MT w' pv cxy ∧ Below w.heap.size w w') (KW : World → Prop) (hKW : Keeps KW) (HVw : ∀ (w : World), KW w → Calls Tryz.prog 58 #[.slice av nv cv, .int .i64 (dc : Int)] w fun e w' => ∃ pv, e = .returned pv ∧ PT w' pv vw ∧ Below w.heap.size w w') (P1 : ∀ (p0 p1 : Value) (w : World), MT w p0 y → PT w p1 vw → Calls Tryz.prog 59 #[p0, p1] w fun e w' => ∃ pv, e = .returned (.tuple #[pv, .int .i64 0]) ∧ PT w' pv yv ∧ Below w.heap.size w w') (P2 : ∀ (p0 p1 : Value) (w : World), MT w p0 x → PT w p1 yv → Calls Tryz.prog 59 #[p0, p1] w fun e w' => ∃ pv, e = .returned (.tuple #[pv, .int .i64 0]) ∧ PT w' pv avp ∧ Below w.heap.size w w') (P3 : ∀ (p0 p1 : Value) (w : World), MT w p0 xy → PT w p1 vw → Calls Tryz.prog 59 #[p0, p1] w fun e w' => ∃ pv, e = .returned (.tuple #[pv, .int .i64 0]) ∧ PT w' pv avp ∧ Below w.heap.size w w') (Mb : ∀ (p0 p1 : Value) (w : World), MT w p0 cx → MT w p1 y → Calls Tryz.prog 68 #[p0, p1] w fun e w' => ∃ pv, e = .returned pv ∧ MT w' pv cxy ∧ Below w.heap.size w w') (S7 : ∀ (p0 p1 : Value) (w : World), MT w p0 cxy → MT w p1 cxy → Calls Tryz.prog 67 #[p0, p1] w fun e w' => e = .returned (.bool true) ∧ Below w.heap.size w w') (S8 : ∀ (p0 p1 : Value) (w : World), PT w p0 avp → PT w p1 avp → Calls Tryz.prog 32 #[p0, p1] w fun e w' => e = .returned (.bool true) ∧ Below w.heap.size w w') (KT : World → Prop) (hKT : Keeps KT) (HW : ∀ w, KT w → Calls Tryz.prog 41 #[] w fun xe w' => xe = .returned (.bool true) ∧ Below w.heap.size w w') (l_nv : decide ((20 : Int) < ((nv : Nat) : Int)) = false) (k_nv : decide (20 < nv) = false) (ezn : Int.tmod zn 5 = (da : Int)) (ezk : Int.tmod zk 5 = (db : Int)) (ezp : Int.tmod zp 5 = (dc : Int)) (ezc3 : Int.tmod zc3 5 = (dd : Int)) (hx1 : (x.r : Int) = (da : Int)) (hy1 : (y.r : Int) = (db : Int)) (hz1 : (z.r : Int) = (dc : Int)) (hot1 : (ot.r : Int) = (db : Int)) (hon1 : (on.r : Int) = (db : Int)) (hxy1 : (xy.r : Int) = (da : Int)) (hxyz1 : (xyz.r : Int) = (da : Int)) (hyz1 : (yz.r : Int) = (db : Int)) (hyo1 : (yo.r : Int) = (db : Int)) (hxyo1 : (xyo.r : Int) = (da : Int)) (hxo1 : (xo.r : Int) = (da : Int)) (htxy1 : (txy.r : Int) = (dc : Int)) (hty1 : (ty.r : Int) = (dc : Int)) (htx1 : (tx.r : Int) = (db : Int)) (hxx1 : (xx.r : Int) = (da : Int)) (hxxy1 : (xxy.r : Int) = (da : Int)) (hcx1 : (cx.r : Int) = (da : Int)) (hcxy1 : (cxy.r : Int) = (da : Int)) (hx2 : (x.c : Int) = (db : Int)) (hy2 : (y.c : Int) = (dc : Int)) (hz2 : (z.c : Int) = (dd : Int)) (hot2 : (ot.c : Int) = (dc : Int)) (hon2 : (on.c : Int) = (db : Int)) (hxy2 : (xy.c : Int) = (dc : Int)) (hxyz2 : (xyz.c : Int) = (dd : Int)) (hyz2 : (yz.c : Int) = (dd : Int)) (hyo2 : (yo.c : Int) = (dc : Int)) (hxyo2 : (xyo.c : Int) = (dc : Int)) (hxo2 : (xo.c : Int) = (dc : Int)) (htxy2 : (txy.c : Int) = (da : Int)) (hty2 : (ty.c : Int) = (db : Int)) (htx2 : (tx.c : Int) = (da : Int)) (hxx2 : (xx.c : Int) = (db : Int)) (hxxy2 : (xxy.c : Int) = (dc : Int)) (hcx2 : (cx.c : Int) = (db : Int)) (hcxy2 : (cxy.c : Int) = (dc : Int)) (lavp : avp.length = da) (lyv : yv.length = db) (da4 : (da : Int) ≤ 4) (db4 : (db : Int) ≤ 4) (dc4 : (dc : Int) ≤ 4) (dd4 : (dd : Int) ≤ 4) (w : World) (kKA : KA w) (kKB : KB w) (kKD : KD w) (kKW : KW w) (kKT : KT w) :
  Calls Tryz.prog 7 #[.agg #[.int .i64 qn, .int .u32 qd], .agg #[.int .u8 zr1, .int .u8 zc1, .slice la1 lx1 ly1], .agg #[.int .u8 zr2, .int .u8 zc2, .slice la2 lx2 ly2], .agg #[.int .u8 zr3, .int .u8 zc3, .slice la3 lx3 ly3], .slice av nv cv, .int .u8 zn, .int .u8 zk, .int .u8 zp] w fun e w' => e = .returned (.bool true) ∧ Below w.heap.size w w' := by
 replace HFw := Lib.hid HFw
 replace hKA := Lib.hid hKA
 replace HSa := Lib.hid HSa
 replace hKB := Lib.hid hKB
 replace HSb := Lib.hid HSb
 replace hKD := Lib.hid hKD
 replace HSc := Lib.hid HSc
 replace HSd := Lib.hid HSd
 replace HOn := Lib.hid HOn
 replace M1 := Lib.hid M1
 replace M2 := Lib.hid M2
 replace M3 := Lib.hid M3
 replace M4 := Lib.hid M4
 replace S1 := Lib.hid S1
 replace A1 := Lib.hid A1
 replace M5 := Lib.hid M5
 replace M6 := Lib.hid M6
 replace A2 := Lib.hid A2
 replace S2 := Lib.hid S2
 replace M7 := Lib.hid M7
 replace S3 := Lib.hid S3
 replace M8 := Lib.hid M8
 replace S4 := Lib.hid S4
 replace T1 := Lib.hid T1
 replace T2 := Lib.hid T2
 replace T3 := Lib.hid T3
 replace M9 := Lib.hid M9
 replace S5 := Lib.hid S5
 replace T4 := Lib.hid T4
 replace A3 := Lib.hid A3
 replace Ma := Lib.hid Ma
 replace A4 := Lib.hid A4
 replace S6 := Lib.hid S6
 replace HQ1 := Lib.hid HQ1
 replace C1 := Lib.hid C1
 replace C2 := Lib.hid C2
 replace hKW := Lib.hid hKW
 replace HVw := Lib.hid HVw
 replace P1 := Lib.hid P1
 replace P2 := Lib.hid P2
 replace P3 := Lib.hid P3
 replace Mb := Lib.hid Mb
 replace S7 := Lib.hid S7
 replace S8 := Lib.hid S8
 replace hKT := Lib.hid hKT
 replace HW := Lib.hid HW
 have hL0 : GL w w [] := GL.start w
 have hT : PTs w [] := PTs.nil w
 replace hx1 := Lib.hid hx1
 replace hx2 := Lib.hid hx2
 replace hy1 := Lib.hid hy1
 replace hy2 := Lib.hid hy2
 replace hz1 := Lib.hid hz1
 replace hz2 := Lib.hid hz2
 replace hot1 := Lib.hid hot1
 replace hot2 := Lib.hid hot2
 replace hon1 := Lib.hid hon1
 replace hon2 := Lib.hid hon2
 replace hxy1 := Lib.hid hxy1
 replace hxy2 := Lib.hid hxy2
 replace hxyz1 := Lib.hid hxyz1
 replace hxyz2 := Lib.hid hxyz2
 replace hyz1 := Lib.hid hyz1
 replace hyz2 := Lib.hid hyz2
 replace hyo1 := Lib.hid hyo1
 replace hyo2 := Lib.hid hyo2
 replace hxyo1 := Lib.hid hxyo1
 replace hxyo2 := Lib.hid hxyo2
 replace hxo1 := Lib.hid hxo1
 replace hxo2 := Lib.hid hxo2
 replace htxy1 := Lib.hid htxy1
 replace htxy2 := Lib.hid htxy2
 replace hty1 := Lib.hid hty1
 replace hty2 := Lib.hid hty2
 replace htx1 := Lib.hid htx1
 replace htx2 := Lib.hid htx2
 replace hxx1 := Lib.hid hxx1
 replace hxx2 := Lib.hid hxx2
 replace hxxy1 := Lib.hid hxxy1
 replace hxxy2 := Lib.hid hxxy2
 replace hcx1 := Lib.hid hcx1
 replace hcx2 := Lib.hid hcx2
 replace hcxy1 := Lib.hid hcxy1
 replace hcxy2 := Lib.hid hcxy2
 replace lavp := Lib.hid lavp
 replace lyv := Lib.hid lyv
 have da0 : (0 : Int) ≤ (da : Int) := Int.natCast_nonneg _
 have db0 : (0 : Int) ≤ (db : Int) := Int.natCast_nonneg _
 have dc0 : (0 : Int) ≤ (dc : Int) := Int.natCast_nonneg _
 have dd0 : (0 : Int) ≤ (dd : Int) := Int.natCast_nonneg _
 replace hT := ((((hT.new (.cells #[.int .i64 qn, .int .u32 qd] 24)).new (.cells #[.int .u8 zr1, .int .u8 zc1, .slice la1 lx1 ly1] 76)).new (.cells #[.int .u8 zr2, .int .u8 zc2, .slice la2 lx2 ly2] 76)).new (.cells #[.int .u8 zr3, .int .u8 zc3, .slice la3 lx3 ly3] 76))
 replace hL0 := ((((hL0.new rfl [.int .i64 qn, .int .u32 qd] 24).new (K := w.heap.size + 1) (szA _ _) [.int .u8 zr1, .int .u8 zc1, .slice la1 lx1 ly1] 76).new (K := w.heap.size + 1 + 1) (by simp only [World.size_alloc]) [.int .u8 zr2, .int .u8 zc2, .slice la2 lx2 ly2] 76).new (K := w.heap.size + 1 + 1 + 1) (by simp only [World.size_alloc]) [.int .u8 zr3, .int .u8 zc3, .slice la3 lx3 ly3] 76)
 generalize hweq : ((((w.alloc (.cells #[.int .i64 qn, .int .u32 qd] 24)).alloc (.cells #[.int .u8 zr1, .int .u8 zc1, .slice la1 lx1 ly1] 76)).alloc (.cells #[.int .u8 zr2, .int .u8 zc2, .slice la2 lx2 ly2] 76)).alloc (.cells #[.int .u8 zr3, .int .u8 zc3, .slice la3 lx3 ly3] 76)) = x1 at hL0 hT
 go_enter Tryz.func7, Tryz.ntmps7
 go_upto_region 1 with fail
 have hZ0 := cells_of _ 0 [] rfl (hL0.get _ _ List.mem_cons_self)
 simp only [cellsF, and_true, Nat.zero_add, Nat.reduceAdd] at hZ0
 have hZ1 := cells_of _ 0 [] rfl (hL0.get _ _ (List.mem_cons_of_mem _ List.mem_cons_self))
 simp only [cellsF, and_true, Nat.zero_add, Nat.reduceAdd] at hZ1
 have hZ2 := cells_of _ 0 [] rfl (hL0.get _ _ (List.mem_cons_of_mem _ (List.mem_cons_of_mem _ List.mem_cons_self)))
 simp only [cellsF, and_true, Nat.zero_add, Nat.reduceAdd] at hZ2
 replace hT := (hT.new (.cells #[.int .u8 zr1, .int .u8 zc1, .slice la1 lx1 ly1, .int .u8 zr2, .int .u8 zc2, .slice la2 lx2 ly2, .int .u8 zr3, .int .u8 zc3, .slice la3 lx3 ly3] 76))
 clear hweq
 replace hL0 := (hL0.new rfl [.int .u8 zr1, .int .u8 zc1, .slice la1 lx1 ly1, .int .u8 zr2, .int .u8 zc2, .slice la2 lx2 ly2, .int .u8 zr3, .int .u8 zc3, .slice la3 lx3 ly3] 76)
 generalize hweq : (x1.alloc (.cells #[.int .u8 zr1, .int .u8 zc1, .slice la1 lx1 ly1, .int .u8 zr2, .int .u8 zc2, .slice la2 lx2 ly2, .int .u8 zr3, .int .u8 zc3, .slice la3 lx3 ly3] 76)) = x2 at hL0 hT
 have hN0 := cells_of _ 0 [] rfl (hL0.get _ _ (List.mem_cons_of_mem _ List.mem_cons_self))
 simp only [cellsF, and_true, Nat.zero_add, Nat.reduceAdd] at hN0
 have hN1 := cells_of _ 0 [] rfl (hL0.get _ _ (List.mem_cons_of_mem _ (List.mem_cons_of_mem _ List.mem_cons_self)))
 simp only [cellsF, and_true, Nat.zero_add, Nat.reduceAdd] at hN1
 have hN2 := cells_of _ 0 [] rfl (hL0.get _ _ (List.mem_cons_of_mem _ (List.mem_cons_of_mem _ (List.mem_cons_of_mem _ List.mem_cons_self))))
 simp only [cellsF, and_true, Nat.zero_add, Nat.reduceAdd] at hN2
 have hbv1 : FWs x2 (.slice (some ⟨x1.heap.size, 0, none⟩) 3 3) [lx1, lx2, lx3] := fws_three (hL0.get _ _ List.mem_cons_self)
 replace hbv1 := Lib.hid hbv1
 go_wp2_with fail
 clear hN0 hN1 hN2
 with_reducible refine Calls.mono (HFw.out (.slice (some ⟨x1.heap.size, 0, none⟩) 3 3) _ hbv1.out) ?_
 rintro e x3 ⟨rfl, hb⟩
 replace hL0 := hL0.call hb
 replace hT := hT.call hb
 clear hb hweq
 clear hZ0 hZ1 hZ2
 go_upto_region 3 with fail
 obtain ⟨α, iα, F, hF1, hF2⟩ := cls x3
 have hq0 := cls_box hF1 hL0 _ _ (List.mem_cons_of_mem _ List.mem_cons_self)
 simp only [cellsC, and_true, Nat.zero_add, Nat.reduceAdd] at hq0
 refine region_qs 17 (C := fun w' => ∃ x, w' = F x) (by kernel_rfl) (by kernel_rfl) (cls_drew hF2) ?_
 simp only [List.take_succ_cons, List.take_zero, List.drop_succ_cons, List.drop_zero, List.take_nil, List.drop_nil]
 repeat (go_big_quiet_step (first | fail))
 refine wpQuiet_nil ?_
 rintro wq ⟨xq, rfl⟩
 replace hL0 := hL0.call (hF1 xq)
 replace hT := hT.call (hF1 xq)
 clear  hq0 hF2
 generalize F xq = x4 at hL0 hT ⊢
 clear hF1 xq iα F α
 go_upto_region 4 with fail
 refine region_tal 15 [EV (.agg #[.int .u8 zr1, .int .u8 zc1, .slice la1 lx1 ly1]), EV (.int .i64 (da : Int)), EV (.int .i64 (db : Int)), PM x, EV (.agg #[.int .u8 zr2, .int .u8 zc2, .slice la2 lx2 ly2]), EV (.int .i64 (db : Int)), EV (.int .i64 (dc : Int)), PM y, EV (.agg #[.int .u8 zr3, .int .u8 zc3, .slice la3 lx3 ly3]), EV (.int .i64 (dc : Int)), EV (.int .i64 (dd : Int)), PM z, NewB x4.heap.size [.int .i64 0, .int .i64 0, .slice none 0 0], NewB x4.heap.size [.int .i64 0, .int .i64 0, .slice none 0 0], NewB x4.heap.size [.int .i64 0, .int .i64 0, .slice none 0 0]] [12, 13, 14] (by kernel_rfl) (by kernel_rfl) ?_ ?_ ?_ ?_ ?_
 ·exact stays_cons (stays_eq _) (stays_cons (stays_eq _) (stays_cons (stays_eq _) (stays_cons (stays_pm _) (stays_cons (stays_eq _) (stays_cons (stays_eq _) (stays_cons (stays_eq _) (stays_cons (stays_pm _) (stays_cons (stays_eq _) (stays_cons (stays_eq _) (stays_cons (stays_eq _) (stays_cons (stays_pm _) (stays_cons (stays_new _ _) (stays_cons (stays_new _ _) (stays_cons (stays_new _ _) (stays_nil)))))))))))))))
 ·simp only [List.take_succ_cons, List.take_zero, hopsR, and_true]
  refine ⟨?_, ?_, ?_, ?_, ?_, ?_, ?_, ?_, ?_, ?_, ?_, ?_, ?_, ?_, ?_⟩ <;> intro fv w1 hb1 hp
  all_goals (simp only [putsV, Act.put, List.setIfInBounds_toArray, List.set_cons_succ, List.set_cons_zero, Nat.zero_add, Nat.reduceAdd])
  ·refine tyAt_none rfl ?_
   have hc := (hL0.call (below_drew hb1)).fc
   simp only [fcG, cellsF, neK, and_true, ne_eq, Nat.zero_add, Nat.reduceAdd] at hc
   simp [tyUpon, execOp, go_sem, Act.eval, hc, Below.refl]
  ·refine tyAt_none rfl ?_
   simp [tyUpon, execOp, go_sem, Act.eval, Below.refl]
  ·refine tyAt_none rfl ?_
   simp [tyUpon, execOp, go_sem, Act.eval, Below.refl]
  ·have h0 : EV _ (fv 0) w1 := hp 0 (LC (by kernel_rfl))
   have h1 : EV _ (fv 1) w1 := hp 1 (LC (by kernel_rfl))
   have h2 : EV _ (fv 2) w1 := hp 2 (LC (by kernel_rfl))
   refine tyAt_none rfl ?_
   refine ty_call (f := 43) (args := #[.agg #[.int .u8 zr1, .int .u8 zc1, .slice la1 lx1 ly1], .int .i64 (da : Int), .int .i64 (db : Int)]) (by simp [execOp, go_sem, Act.eval, h0, h1, h2]) ?_
   exact (HSa.out w1 (hKA.out.at ((hL0.call (below_drew hb1)).bl) kKA)).mono fun e w2 ⟨pv, h1, h2, h3⟩ => ⟨pv, h1, h2, h3⟩
  ·refine tyAt_none rfl ?_
   have hc := (hL0.call (below_drew hb1)).fc
   simp only [fcG, cellsF, neK, and_true, ne_eq, Nat.zero_add, Nat.reduceAdd] at hc
   simp [tyUpon, execOp, go_sem, Act.eval, hc, Below.refl]
  ·refine tyAt_none rfl ?_
   simp [tyUpon, execOp, go_sem, Act.eval, Below.refl]
  ·refine tyAt_none rfl ?_
   simp [tyUpon, execOp, go_sem, Act.eval, Below.refl]
  ·have h4 : EV _ (fv 4) w1 := hp 4 (LC (by kernel_rfl))
   have h5 : EV _ (fv 5) w1 := hp 5 (LC (by kernel_rfl))
   have h6 : EV _ (fv 6) w1 := hp 6 (LC (by kernel_rfl))
   refine tyAt_none rfl ?_
   refine ty_call (f := 43) (args := #[.agg #[.int .u8 zr2, .int .u8 zc2, .slice la2 lx2 ly2], .int .i64 (db : Int), .int .i64 (dc : Int)]) (by simp [execOp, go_sem, Act.eval, h4, h5, h6]) ?_
   exact (HSb.out w1 (hKB.out.at ((hL0.call (below_drew hb1)).bl) kKB)).mono fun e w2 ⟨pv, h1, h2, h3⟩ => ⟨pv, h1, h2, h3⟩
  ·refine tyAt_none rfl ?_
   have hc := (hL0.call (below_drew hb1)).fc
   simp only [fcG, cellsF, neK, and_true, ne_eq, Nat.zero_add, Nat.reduceAdd] at hc
   simp [tyUpon, execOp, go_sem, Act.eval, hc, Below.refl]
  ·refine tyAt_none rfl ?_
   simp [tyUpon, execOp, go_sem, Act.eval, Below.refl]
  ·refine tyAt_none rfl ?_
   simp [tyUpon, execOp, go_sem, Act.eval, Below.refl]
  ·have h8 : EV _ (fv 8) w1 := hp 8 (LC (by kernel_rfl))
   have h9 : EV _ (fv 9) w1 := hp 9 (LC (by kernel_rfl))
   have h10 : EV _ (fv 10) w1 := hp 10 (LC (by kernel_rfl))
   refine tyAt_none rfl ?_
   refine ty_call (f := 43) (args := #[.agg #[.int .u8 zr3, .int .u8 zc3, .slice la3 lx3 ly3], .int .i64 (dc : Int), .int .i64 (dd : Int)]) (by simp [execOp, go_sem, Act.eval, h8, h9, h10]) ?_
   exact (HSc.out w1 (hKD.out.at ((hL0.call (below_drew hb1)).bl) kKD)).mono fun e w2 ⟨pv, h1, h2, h3⟩ => ⟨pv, h1, h2, h3⟩
  ·exact tyAt_new rfl rfl new_mat (below_drew hb1).size
  ·exact tyAt_new rfl rfl new_mat (below_drew hb1).size
  ·exact tyAt_new rfl rfl new_mat (below_drew hb1).size
 ·intro j hj u w2 hT
  simp only [List.contains_iff_mem, List.mem_cons, List.not_mem_nil, or_false] at hj
  rcases hj with rfl | rfl | rfl <;> exact NewB.ptr hT
 ·exact ⟨⟨_, _, _, _, rfl, rfl, rfl, new_mat⟩, ⟨_, _, _, _, rfl, rfl, rfl, new_mat⟩, ⟨_, _, _, _, rfl, rfl, rfl, new_mat⟩, trivial⟩
 ·intro fv x5 hb1 hv hne
  have e0 : fv 0 = _ := hv 0 (by omega)
  have e1 : fv 1 = _ := hv 1 (by omega)
  have e2 : fv 2 = _ := hv 2 (by omega)
  have q3 : MT x5 (fv 3) x := hv 3 (by omega)
  obtain ⟨g1, d1, g1c, e3, hm1, hcp1⟩ := mt_form q3 hx1.out hx2.out
  replace hcp1 := Lib.hid hcp1
  rw [e3] at q3
  have e4 : fv 4 = _ := hv 4 (by omega)
  have e5 : fv 5 = _ := hv 5 (by omega)
  have e6 : fv 6 = _ := hv 6 (by omega)
  have q7 : MT x5 (fv 7) y := hv 7 (by omega)
  obtain ⟨g2, d2, g2c, e7, hm2, hcp2⟩ := mt_form q7 hy1.out hy2.out
  replace hcp2 := Lib.hid hcp2
  rw [e7] at q7
  have e8 : fv 8 = _ := hv 8 (by omega)
  have e9 : fv 9 = _ := hv 9 (by omega)
  have e10 : fv 10 = _ := hv 10 (by omega)
  have q11 : MT x5 (fv 11) z := hv 11 (by omega)
  obtain ⟨g3, d3, g3c, e11, hm3, hcp3⟩ := mt_form q11 hz1.out hz2.out
  replace hcp3 := Lib.hid hcp3
  rw [e11] at q11
  obtain ⟨kb12, e12, n12, m12⟩ : NewB x4.heap.size [.int .i64 0, .int .i64 0, .slice none 0 0] (fv 12) x5 := hv 12 (by omega)
  obtain ⟨kb13, e13, n13, m13⟩ : NewB x4.heap.size [.int .i64 0, .int .i64 0, .slice none 0 0] (fv 13) x5 := hv 13 (by omega)
  obtain ⟨kb14, e14, n14, m14⟩ : NewB x4.heap.size [.int .i64 0, .int .i64 0, .slice none 0 0] (fv 14) x5 := hv 14 (by omega)
  simp only [List.take_succ_cons, List.take_zero, putsV, Act.put, List.setIfInBounds_toArray, List.set_cons_succ, List.set_cons_zero, List.drop_succ_cons, List.drop_zero, Nat.zero_add, Nat.reduceAdd, e0, e1, e2, e3, e4, e5, e6, e7, e8, e9, e10, e11, e12, e13, e14]
  have hx0 := hL0
  replace hL0 := hL0.call (below_drew hb1)
  replace hT := hT.call (below_drew hb1)
  replace hL0 := GL.tnew (M := []) hL0 hx0 n12 m12 (fun p hp => by cases hp)
  replace hL0 := GL.tnew (M := [(kb12, [.int .i64 0, .int .i64 0, .slice none 0 0])]) hL0 hx0 n13 m13 (by intro p hp; simp only [List.mem_cons, List.not_mem_nil, or_false] at hp; rcases hp with rfl; exact ptr_ne e12 e13 (hne 12 13 (by omega) (by omega) (by omega) rfl rfl))
  replace hL0 := GL.tnew (M := [(kb13, [.int .i64 0, .int .i64 0, .slice none 0 0]), (kb12, [.int .i64 0, .int .i64 0, .slice none 0 0])]) hL0 hx0 n14 m14 (by intro p hp; simp only [List.mem_cons, List.not_mem_nil, or_false] at hp; rcases hp with rfl | rfl; exact ptr_ne e13 e14 (hne 13 14 (by omega) (by omega) (by omega) rfl rfl); exact ptr_ne e12 e14 (hne 12 14 (by omega) (by omega) (by omega) rfl rfl))
  simp only [List.cons_append, List.nil_append] at hL0
  replace hT := hT.cons hm1
  clear hm1
  replace hT := hT.cons hm2
  clear hm2
  replace hT := hT.cons hm3
  clear hm3
  clear e0 e1 e2 e3 e4 e5 e6 e7 e8 e9 e10 e11 e12 e13 e14 hb1 hv hne hx0 n12 m12 n13 m13 n14 m14 q3 q7 q11 fv
  have hT1 := hT.putM ((((Upd.refl kb12 x5).setCell 0 (.int .i64 (da : Int))).setCell 1 (.int .i64 (db : Int))).setCell 2 (.slice g1 d1 g1c)) (hL0.get _ _ (List.mem_cons_of_mem _ (List.mem_cons_of_mem _ List.mem_cons_self))) (by intro n; simp)
  have hA := hL0.fc
  simp only [fcG, cellsF, neK, and_true, ne_eq, Nat.zero_add, Nat.reduceAdd] at hA
  have hP := hL0.put 2 (kb12) _ rfl [.int .i64 (da : Int), .int .i64 (db : Int), .slice g1 d1 g1c] rfl
  simp only [setAll, List.set_cons_zero, List.set_cons_succ] at hP
  generalize hput1 : (((x5.setCell ⟨kb12, 0, none⟩ (.int .i64 (da : Int))).setCell ⟨kb12, 1, none⟩ (.int .i64 (db : Int))).setCell ⟨kb12, 2, none⟩ (.slice g1 d1 g1c)) = x6 at hP hT1
  have hB1 := hP.fc
  simp only [fcG, cellsF, neK, and_true, ne_eq, Nat.zero_add, Nat.reduceAdd] at hB1
  replace hL0 := hP
  replace hT := hT1
  clear hT1
  have hT1 := hT.putM ((((Upd.refl kb13 x6).setCell 0 (.int .i64 (db : Int))).setCell 1 (.int .i64 (dc : Int))).setCell 2 (.slice g2 d2 g2c)) (hL0.get _ _ (List.mem_cons_of_mem _ List.mem_cons_self)) (by intro n; simp)
  have hP := hL0.put 1 (kb13) _ rfl [.int .i64 (db : Int), .int .i64 (dc : Int), .slice g2 d2 g2c] rfl
  simp only [setAll, List.set_cons_zero, List.set_cons_succ] at hP
  generalize hput2 : (((x6.setCell ⟨kb13, 0, none⟩ (.int .i64 (db : Int))).setCell ⟨kb13, 1, none⟩ (.int .i64 (dc : Int))).setCell ⟨kb13, 2, none⟩ (.slice g2 d2 g2c)) = x7 at hP hT1
  have hB2 := hP.fc
  simp only [fcG, cellsF, neK, and_true, ne_eq, Nat.zero_add, Nat.reduceAdd] at hB2
  replace hL0 := hP
  replace hT := hT1
  clear hT1
  have hT1 := hT.putM ((((Upd.refl kb14 x7).setCell 0 (.int .i64 (dc : Int))).setCell 1 (.int .i64 (dd : Int))).setCell 2 (.slice g3 d3 g3c)) (hL0.get _ _ List.mem_cons_self) (by intro n; simp)
  have hP := hL0.put 0 (kb14) _ rfl [.int .i64 (dc : Int), .int .i64 (dd : Int), .slice g3 d3 g3c] rfl
  simp only [setAll, List.set_cons_zero, List.set_cons_succ] at hP
  generalize hput3 : (((x7.setCell ⟨kb14, 0, none⟩ (.int .i64 (dc : Int))).setCell ⟨kb14, 1, none⟩ (.int .i64 (dd : Int))).setCell ⟨kb14, 2, none⟩ (.slice g3 d3 g3c)) = x8 at hP hT1
  have hB3 := hP.fc
  simp only [fcG, cellsF, neK, and_true, ne_eq, Nat.zero_add, Nat.reduceAdd] at hB3
  replace hL0 := hP
  replace hT := hT1
  clear hT1
  go_wp2_with fail
  clear hA
  with_reducible refine Calls.mono (HSd.out _ (hKD.out.at (hL0.bl) kKD)) ?_
  rintro e x9 ⟨v0, rfl, q0, hb⟩
  replace hL0 := hL0.call hb
  replace hT := hT.call hb
  clear hb hput1 hB1 hput2 hB2 hput3 hB3
  obtain ⟨g4, d4, g4c, rfl, hm4, hcp4⟩ := mt_form q0 hot1.out hot2.out
  replace hcp4 := Lib.hid hcp4
  replace hT := hT.cons hm4
  clear hm4
  clear q0
  replace hT := (hT.new (.cells #[.int .i64 (db : Int), .int .i64 (dc : Int), .slice g4 d4 g4c] 81))
  replace hL0 := (hL0.new rfl [.int .i64 (db : Int), .int .i64 (dc : Int), .slice g4 d4 g4c] 81)
  generalize hweq : (x9.alloc (.cells #[.int .i64 (db : Int), .int .i64 (dc : Int), .slice g4 d4 g4c] 81)) = x10 at hL0 hT
  go_wp2_with fail
  with_reducible refine Calls.mono (HOn.out _) ?_
  rintro e x11 ⟨v0, rfl, q0, hb⟩
  replace hL0 := hL0.call hb
  replace hT := hT.call hb
  clear hb hweq
  obtain ⟨g5, d5, g5c, rfl, hm5, hcp5⟩ := mt_form q0 hon1.out hon2.out
  replace hcp5 := Lib.hid hcp5
  replace hT := hT.cons hm5
  clear hm5
  clear q0
  replace hT := (hT.new (.cells #[.int .i64 (db : Int), .int .i64 (db : Int), .slice g5 d5 g5c] 81))
  replace hL0 := (hL0.new rfl [.int .i64 (db : Int), .int .i64 (db : Int), .slice g5 d5 g5c] 81)
  generalize hweq : (x11.alloc (.cells #[.int .i64 (db : Int), .int .i64 (db : Int), .slice g5 d5 g5c] 81)) = x12 at hL0 hT
  go_upto_region 7 with fail
  clear hweq
  refine region_tl 48 [EV (.int .i64 0), EV (.bool false), EV (.bool false), EV (.agg #[.int .i64 (da : Int), .int .i64 (db : Int), .slice g1 d1 g1c]), EV (.agg #[.int .i64 (db : Int), .int .i64 (dc : Int), .slice g2 d2 g2c]), PM xy, EV (.agg #[.int .i64 (dc : Int), .int .i64 (dd : Int), .slice g3 d3 g3c]), PM xyz, EV (.agg #[.int .i64 (da : Int), .int .i64 (db : Int), .slice g1 d1 g1c]), EV (.agg #[.int .i64 (db : Int), .int .i64 (dc : Int), .slice g2 d2 g2c]), EV (.agg #[.int .i64 (dc : Int), .int .i64 (dd : Int), .slice g3 d3 g3c]), PM yz, PM xyz, EV (.bool true), EV (.bool false), EV (.bool false), EV (.bool false), EV (.agg #[.int .i64 (da : Int), .int .i64 (db : Int), .slice g1 d1 g1c]), EV (.agg #[.int .i64 (db : Int), .int .i64 (dc : Int), .slice g2 d2 g2c]), EV (.agg #[.int .i64 (db : Int), .int .i64 (dc : Int), .slice g4 d4 g4c]), PM yo, PM xyo, EV (.agg #[.int .i64 (da : Int), .int .i64 (db : Int), .slice g1 d1 g1c]), EV (.agg #[.int .i64 (db : Int), .int .i64 (dc : Int), .slice g2 d2 g2c]), PM xy, EV (.agg #[.int .i64 (da : Int), .int .i64 (db : Int), .slice g1 d1 g1c]), EV (.agg #[.int .i64 (db : Int), .int .i64 (dc : Int), .slice g4 d4 g4c]), PM xo, PM xyo, EV (.bool true), EV (.bool false), EV (.bool false), EV (.bool false), EV (.agg #[.int .i64 (da : Int), .int .i64 (db : Int), .slice g1 d1 g1c]), EV (.agg #[.int .i64 (db : Int), .int .i64 (db : Int), .slice g5 d5 g5c]), PM x, EV (.agg #[.int .i64 (da : Int), .int .i64 (db : Int), .slice g1 d1 g1c]), EV (.bool true), EV (.bool false), EV (.bool false), EV (.bool false), EV (.agg #[.int .i64 (db : Int), .int .i64 (db : Int), .slice g5 d5 g5c]), EV (.agg #[.int .i64 (db : Int), .int .i64 (dc : Int), .slice g2 d2 g2c]), PM y, EV (.agg #[.int .i64 (db : Int), .int .i64 (dc : Int), .slice g2 d2 g2c]), EV (.bool true), EV (.bool false), EV (.bool false)] (by kernel_rfl) (by kernel_rfl) ?_ ?_ ?_
  ·exact stays_cons (stays_eq _) (stays_cons (stays_eq _) (stays_cons (stays_eq _) (stays_cons (stays_eq _) (stays_cons (stays_eq _) (stays_cons (stays_pm _) (stays_cons (stays_eq _) (stays_cons (stays_pm _) (stays_cons (stays_eq _) (stays_cons (stays_eq _) (stays_cons (stays_eq _) (stays_cons (stays_pm _) (stays_cons (stays_pm _) (stays_cons (stays_eq _) (stays_cons (stays_eq _) (stays_cons (stays_eq _) (stays_cons (stays_eq _) (stays_cons (stays_eq _) (stays_cons (stays_eq _) (stays_cons (stays_eq _) (stays_cons (stays_pm _) (stays_cons (stays_pm _) (stays_cons (stays_eq _) (stays_cons (stays_eq _) (stays_cons (stays_pm _) (stays_cons (stays_eq _) (stays_cons (stays_eq _) (stays_cons (stays_pm _) (stays_cons (stays_pm _) (stays_cons (stays_eq _) (stays_cons (stays_eq _) (stays_cons (stays_eq _) (stays_cons (stays_eq _) (stays_cons (stays_eq _) (stays_cons (stays_eq _) (stays_cons (stays_pm _) (stays_cons (stays_eq _) (stays_cons (stays_eq _) (stays_cons (stays_eq _) (stays_cons (stays_eq _) (stays_cons (stays_eq _) (stays_cons (stays_eq _) (stays_cons (stays_eq _) (stays_cons (stays_pm _) (stays_cons (stays_eq _) (stays_cons (stays_eq _) (stays_cons (stays_eq _) (stays_cons (stays_eq _) (stays_nil))))))))))))))))))))))))))))))))))))))))))))))))
  ·simp only [List.take_succ_cons, List.take_zero, hopsR, and_true]
   refine ⟨?_, ?_, ?_, ?_, ?_, ?_, ?_, ?_, ?_, ?_, ?_, ?_, ?_, ?_, ?_, ?_, ?_, ?_, ?_, ?_, ?_, ?_, ?_, ?_, ?_, ?_, ?_, ?_, ?_, ?_, ?_, ?_, ?_, ?_, ?_, ?_, ?_, ?_, ?_, ?_, ?_, ?_, ?_, ?_, ?_, ?_, ?_, ?_⟩ <;> intro fv w1 hb1 hp
   all_goals (simp only [putsV, Act.put, List.setIfInBounds_toArray, List.set_cons_succ, List.set_cons_zero, Nat.zero_add, Nat.reduceAdd])
   ·refine tyAt_none rfl ?_
    simp [tyUpon, execOp, go_sem, Act.eval, Below.refl]
   ·have h0 : EV _ (fv 0) w1 := hp 0 (LC (by kernel_rfl))
    refine tyAt_none rfl ?_
    simp [tyUpon, execOp, go_sem, Act.eval, h0, Below.refl]
   ·have h1 : EV _ (fv 1) w1 := hp 1 (LC (by kernel_rfl))
    refine tyAt_none rfl ?_
    simp [tyUpon, execOp, go_sem, Act.eval, h1, Below.refl]
   ·have h2 : EV _ (fv 2) w1 := hp 2 (LC (by kernel_rfl))
    refine tyAt_yes (by simp [Region.wanted, yielded, h2]) ?_
    have hc := (hL0.call (below_drew hb1)).fc
    simp only [fcG, cellsF, neK, and_true, ne_eq, Nat.zero_add, Nat.reduceAdd] at hc
    simp [tyUpon, execOp, go_sem, Act.eval, hc, h2, Below.refl]
   ·have h2 : EV _ (fv 2) w1 := hp 2 (LC (by kernel_rfl))
    refine tyAt_yes (by simp [Region.wanted, yielded, h2]) ?_
    have hc := (hL0.call (below_drew hb1)).fc
    simp only [fcG, cellsF, neK, and_true, ne_eq, Nat.zero_add, Nat.reduceAdd] at hc
    simp [tyUpon, execOp, go_sem, Act.eval, hc, h2, Below.refl]
   ·have h3 : EV _ (fv 3) w1 := hp 3 (LC (by kernel_rfl))
    have h4 : EV _ (fv 4) w1 := hp 4 (LC (by kernel_rfl))
    have h2 : EV _ (fv 2) w1 := hp 2 (LC (by kernel_rfl))
    refine tyAt_yes (by simp [Region.wanted, yielded, h3, h4, h2]) ?_
    refine ty_call (f := 68) (args := #[.agg #[.int .i64 (da : Int), .int .i64 (db : Int), .slice g1 d1 g1c], .agg #[.int .i64 (db : Int), .int .i64 (dc : Int), .slice g2 d2 g2c]]) (by simp [execOp, go_sem, Act.eval, h3, h4, h2]) ?_
    exact (M1.out (.agg #[.int .i64 (da : Int), .int .i64 (db : Int), .slice g1 d1 g1c]) (.agg #[.int .i64 (db : Int), .int .i64 (dc : Int), .slice g2 d2 g2c]) w1 (mt_of (PT.below (hT.get (List.mem_cons_of_mem _ (List.mem_cons_of_mem _ (List.mem_cons_of_mem _ (List.mem_cons_of_mem _ List.mem_cons_self))))) (below_drew hb1)) hcp1.out hx1.out hx2.out) (mt_of (PT.below (hT.get (List.mem_cons_of_mem _ (List.mem_cons_of_mem _ (List.mem_cons_of_mem _ List.mem_cons_self)))) (below_drew hb1)) hcp2.out hy1.out hy2.out)).mono fun e w2 ⟨pv, h1, h2, h3⟩ => ⟨pv, h1, h2, h3⟩
   ·have h2 : EV _ (fv 2) w1 := hp 2 (LC (by kernel_rfl))
    refine tyAt_yes (by simp [Region.wanted, yielded, h2]) ?_
    have hc := (hL0.call (below_drew hb1)).fc
    simp only [fcG, cellsF, neK, and_true, ne_eq, Nat.zero_add, Nat.reduceAdd] at hc
    simp [tyUpon, execOp, go_sem, Act.eval, hc, h2, Below.refl]
   ·have h5 : (PM xy) (fv 5) w1 := hp 5 (LC (by kernel_rfl))
    have h6 : EV _ (fv 6) w1 := hp 6 (LC (by kernel_rfl))
    have h2 : EV _ (fv 2) w1 := hp 2 (LC (by kernel_rfl))
    refine tyAt_yes (by simp [Region.wanted, yielded, h6, h2]) ?_
    refine ty_call (f := 68) (args := #[fv 5, .agg #[.int .i64 (dc : Int), .int .i64 (dd : Int), .slice g3 d3 g3c]]) (by simp [execOp, go_sem, Act.eval, h6, h2]) ?_
    exact (M2.out (fv 5) (.agg #[.int .i64 (dc : Int), .int .i64 (dd : Int), .slice g3 d3 g3c]) w1 h5 (mt_of (PT.below (hT.get (List.mem_cons_of_mem _ (List.mem_cons_of_mem _ List.mem_cons_self))) (below_drew hb1)) hcp3.out hz1.out hz2.out)).mono fun e w2 ⟨pv, h1, h2, h3⟩ => ⟨pv, h1, h2, h3⟩
   ·have h2 : EV _ (fv 2) w1 := hp 2 (LC (by kernel_rfl))
    refine tyAt_yes (by simp [Region.wanted, yielded, h2]) ?_
    have hc := (hL0.call (below_drew hb1)).fc
    simp only [fcG, cellsF, neK, and_true, ne_eq, Nat.zero_add, Nat.reduceAdd] at hc
    simp [tyUpon, execOp, go_sem, Act.eval, hc, h2, Below.refl]
   ·have h2 : EV _ (fv 2) w1 := hp 2 (LC (by kernel_rfl))
    refine tyAt_yes (by simp [Region.wanted, yielded, h2]) ?_
    have hc := (hL0.call (below_drew hb1)).fc
    simp only [fcG, cellsF, neK, and_true, ne_eq, Nat.zero_add, Nat.reduceAdd] at hc
    simp [tyUpon, execOp, go_sem, Act.eval, hc, h2, Below.refl]
   ·have h2 : EV _ (fv 2) w1 := hp 2 (LC (by kernel_rfl))
    refine tyAt_yes (by simp [Region.wanted, yielded, h2]) ?_
    have hc := (hL0.call (below_drew hb1)).fc
    simp only [fcG, cellsF, neK, and_true, ne_eq, Nat.zero_add, Nat.reduceAdd] at hc
    simp [tyUpon, execOp, go_sem, Act.eval, hc, h2, Below.refl]
   ·have h9 : EV _ (fv 9) w1 := hp 9 (LC (by kernel_rfl))
    have h10 : EV _ (fv 10) w1 := hp 10 (LC (by kernel_rfl))
    have h2 : EV _ (fv 2) w1 := hp 2 (LC (by kernel_rfl))
    refine tyAt_yes (by simp [Region.wanted, yielded, h9, h10, h2]) ?_
    refine ty_call (f := 68) (args := #[.agg #[.int .i64 (db : Int), .int .i64 (dc : Int), .slice g2 d2 g2c], .agg #[.int .i64 (dc : Int), .int .i64 (dd : Int), .slice g3 d3 g3c]]) (by simp [execOp, go_sem, Act.eval, h9, h10, h2]) ?_
    exact (M3.out (.agg #[.int .i64 (db : Int), .int .i64 (dc : Int), .slice g2 d2 g2c]) (.agg #[.int .i64 (dc : Int), .int .i64 (dd : Int), .slice g3 d3 g3c]) w1 (mt_of (PT.below (hT.get (List.mem_cons_of_mem _ (List.mem_cons_of_mem _ (List.mem_cons_of_mem _ List.mem_cons_self)))) (below_drew hb1)) hcp2.out hy1.out hy2.out) (mt_of (PT.below (hT.get (List.mem_cons_of_mem _ (List.mem_cons_of_mem _ List.mem_cons_self))) (below_drew hb1)) hcp3.out hz1.out hz2.out)).mono fun e w2 ⟨pv, h1, h2, h3⟩ => ⟨pv, h1, h2, h3⟩
   ·have h8 : EV _ (fv 8) w1 := hp 8 (LC (by kernel_rfl))
    have h11 : (PM yz) (fv 11) w1 := hp 11 (LC (by kernel_rfl))
    have h2 : EV _ (fv 2) w1 := hp 2 (LC (by kernel_rfl))
    refine tyAt_yes (by simp [Region.wanted, yielded, h8, h2]) ?_
    refine ty_call (f := 68) (args := #[.agg #[.int .i64 (da : Int), .int .i64 (db : Int), .slice g1 d1 g1c], fv 11]) (by simp [execOp, go_sem, Act.eval, h8, h2]) ?_
    exact (M4.out (.agg #[.int .i64 (da : Int), .int .i64 (db : Int), .slice g1 d1 g1c]) (fv 11) w1 (mt_of (PT.below (hT.get (List.mem_cons_of_mem _ (List.mem_cons_of_mem _ (List.mem_cons_of_mem _ (List.mem_cons_of_mem _ List.mem_cons_self))))) (below_drew hb1)) hcp1.out hx1.out hx2.out) h11).mono fun e w2 ⟨pv, h1, h2, h3⟩ => ⟨pv, h1, h2, h3⟩
   ·have h7 : (PM xyz) (fv 7) w1 := hp 7 (LC (by kernel_rfl))
    have h12 : (PM xyz) (fv 12) w1 := hp 12 (LC (by kernel_rfl))
    have h2 : EV _ (fv 2) w1 := hp 2 (LC (by kernel_rfl))
    refine tyAt_yes (by simp [Region.wanted, yielded, h2]) ?_
    refine ty_call (f := 67) (args := #[fv 7, fv 12]) (by simp [execOp, go_sem, Act.eval, h2]) ?_
    exact (S1.out (fv 7) (fv 12) w1 h7 h12).mono fun e w2 ⟨h1, h2⟩ => ⟨_, h1, rfl, h2⟩
   ·have h13 : EV _ (fv 13) w1 := hp 13 (LC (by kernel_rfl))
    have h2 : EV _ (fv 2) w1 := hp 2 (LC (by kernel_rfl))
    refine tyAt_yes (by simp [Region.wanted, yielded, h13, h2]) ?_
    simp [tyUpon, execOp, go_sem, Act.eval, h13, h2, Below.refl]
   ·have h2 : EV _ (fv 2) w1 := hp 2 (LC (by kernel_rfl))
    have h14 : EV _ (fv 14) w1 := hp 14 (LC (by kernel_rfl))
    refine tyAt_none rfl ?_
    simp [tyUpon, execOp, go_sem, Act.eval, h2, h14, Below.refl]
   ·have h15 : EV _ (fv 15) w1 := hp 15 (LC (by kernel_rfl))
    refine tyAt_none rfl ?_
    simp [tyUpon, execOp, go_sem, Act.eval, h15, Below.refl]
   ·have h16 : EV _ (fv 16) w1 := hp 16 (LC (by kernel_rfl))
    refine tyAt_yes (by simp [Region.wanted, yielded, h16]) ?_
    have hc := (hL0.call (below_drew hb1)).fc
    simp only [fcG, cellsF, neK, and_true, ne_eq, Nat.zero_add, Nat.reduceAdd] at hc
    simp [tyUpon, execOp, go_sem, Act.eval, hc, h16, Below.refl]
   ·have h16 : EV _ (fv 16) w1 := hp 16 (LC (by kernel_rfl))
    refine tyAt_yes (by simp [Region.wanted, yielded, h16]) ?_
    have hc := (hL0.call (below_drew hb1)).fc
    simp only [fcG, cellsF, neK, and_true, ne_eq, Nat.zero_add, Nat.reduceAdd] at hc
    simp [tyUpon, execOp, go_sem, Act.eval, hc, h16, Below.refl]
   ·have h16 : EV _ (fv 16) w1 := hp 16 (LC (by kernel_rfl))
    refine tyAt_yes (by simp [Region.wanted, yielded, h16]) ?_
    have hc := (hL0.call (below_drew hb1)).fc
    simp only [fcG, cellsF, neK, and_true, ne_eq, Nat.zero_add, Nat.reduceAdd] at hc
    simp [tyUpon, execOp, go_sem, Act.eval, hc, h16, Below.refl]
   ·have h18 : EV _ (fv 18) w1 := hp 18 (LC (by kernel_rfl))
    have h19 : EV _ (fv 19) w1 := hp 19 (LC (by kernel_rfl))
    have h16 : EV _ (fv 16) w1 := hp 16 (LC (by kernel_rfl))
    refine tyAt_yes (by simp [Region.wanted, yielded, h18, h19, h16]) ?_
    refine ty_call (f := 69) (args := #[.agg #[.int .i64 (db : Int), .int .i64 (dc : Int), .slice g2 d2 g2c], .agg #[.int .i64 (db : Int), .int .i64 (dc : Int), .slice g4 d4 g4c]]) (by simp [execOp, go_sem, Act.eval, h18, h19, h16]) ?_
    exact (A1.out (.agg #[.int .i64 (db : Int), .int .i64 (dc : Int), .slice g2 d2 g2c]) (.agg #[.int .i64 (db : Int), .int .i64 (dc : Int), .slice g4 d4 g4c]) w1 (mt_of (PT.below (hT.get (List.mem_cons_of_mem _ (List.mem_cons_of_mem _ (List.mem_cons_of_mem _ List.mem_cons_self)))) (below_drew hb1)) hcp2.out hy1.out hy2.out) (mt_of (PT.below (hT.get (List.mem_cons_of_mem _ List.mem_cons_self)) (below_drew hb1)) hcp4.out hot1.out hot2.out)).mono fun e w2 ⟨pv, h1, h2, h3⟩ => ⟨pv, h1, h2, h3⟩
   ·have h17 : EV _ (fv 17) w1 := hp 17 (LC (by kernel_rfl))
    have h20 : (PM yo) (fv 20) w1 := hp 20 (LC (by kernel_rfl))
    have h16 : EV _ (fv 16) w1 := hp 16 (LC (by kernel_rfl))
    refine tyAt_yes (by simp [Region.wanted, yielded, h17, h16]) ?_
    refine ty_call (f := 68) (args := #[.agg #[.int .i64 (da : Int), .int .i64 (db : Int), .slice g1 d1 g1c], fv 20]) (by simp [execOp, go_sem, Act.eval, h17, h16]) ?_
    exact (M5.out (.agg #[.int .i64 (da : Int), .int .i64 (db : Int), .slice g1 d1 g1c]) (fv 20) w1 (mt_of (PT.below (hT.get (List.mem_cons_of_mem _ (List.mem_cons_of_mem _ (List.mem_cons_of_mem _ (List.mem_cons_of_mem _ List.mem_cons_self))))) (below_drew hb1)) hcp1.out hx1.out hx2.out) h20).mono fun e w2 ⟨pv, h1, h2, h3⟩ => ⟨pv, h1, h2, h3⟩
   ·have h16 : EV _ (fv 16) w1 := hp 16 (LC (by kernel_rfl))
    refine tyAt_yes (by simp [Region.wanted, yielded, h16]) ?_
    have hc := (hL0.call (below_drew hb1)).fc
    simp only [fcG, cellsF, neK, and_true, ne_eq, Nat.zero_add, Nat.reduceAdd] at hc
    simp [tyUpon, execOp, go_sem, Act.eval, hc, h16, Below.refl]
   ·have h16 : EV _ (fv 16) w1 := hp 16 (LC (by kernel_rfl))
    refine tyAt_yes (by simp [Region.wanted, yielded, h16]) ?_
    have hc := (hL0.call (below_drew hb1)).fc
    simp only [fcG, cellsF, neK, and_true, ne_eq, Nat.zero_add, Nat.reduceAdd] at hc
    simp [tyUpon, execOp, go_sem, Act.eval, hc, h16, Below.refl]
   ·have h22 : EV _ (fv 22) w1 := hp 22 (LC (by kernel_rfl))
    have h23 : EV _ (fv 23) w1 := hp 23 (LC (by kernel_rfl))
    have h16 : EV _ (fv 16) w1 := hp 16 (LC (by kernel_rfl))
    refine tyAt_yes (by simp [Region.wanted, yielded, h22, h23, h16]) ?_
    refine ty_call (f := 68) (args := #[.agg #[.int .i64 (da : Int), .int .i64 (db : Int), .slice g1 d1 g1c], .agg #[.int .i64 (db : Int), .int .i64 (dc : Int), .slice g2 d2 g2c]]) (by simp [execOp, go_sem, Act.eval, h22, h23, h16]) ?_
    exact (M1.out (.agg #[.int .i64 (da : Int), .int .i64 (db : Int), .slice g1 d1 g1c]) (.agg #[.int .i64 (db : Int), .int .i64 (dc : Int), .slice g2 d2 g2c]) w1 (mt_of (PT.below (hT.get (List.mem_cons_of_mem _ (List.mem_cons_of_mem _ (List.mem_cons_of_mem _ (List.mem_cons_of_mem _ List.mem_cons_self))))) (below_drew hb1)) hcp1.out hx1.out hx2.out) (mt_of (PT.below (hT.get (List.mem_cons_of_mem _ (List.mem_cons_of_mem _ (List.mem_cons_of_mem _ List.mem_cons_self)))) (below_drew hb1)) hcp2.out hy1.out hy2.out)).mono fun e w2 ⟨pv, h1, h2, h3⟩ => ⟨pv, h1, h2, h3⟩
   ·have h16 : EV _ (fv 16) w1 := hp 16 (LC (by kernel_rfl))
    refine tyAt_yes (by simp [Region.wanted, yielded, h16]) ?_
    have hc := (hL0.call (below_drew hb1)).fc
    simp only [fcG, cellsF, neK, and_true, ne_eq, Nat.zero_add, Nat.reduceAdd] at hc
    simp [tyUpon, execOp, go_sem, Act.eval, hc, h16, Below.refl]
   ·have h16 : EV _ (fv 16) w1 := hp 16 (LC (by kernel_rfl))
    refine tyAt_yes (by simp [Region.wanted, yielded, h16]) ?_
    have hc := (hL0.call (below_drew hb1)).fc
    simp only [fcG, cellsF, neK, and_true, ne_eq, Nat.zero_add, Nat.reduceAdd] at hc
    simp [tyUpon, execOp, go_sem, Act.eval, hc, h16, Below.refl]
   ·have h25 : EV _ (fv 25) w1 := hp 25 (LC (by kernel_rfl))
    have h26 : EV _ (fv 26) w1 := hp 26 (LC (by kernel_rfl))
    have h16 : EV _ (fv 16) w1 := hp 16 (LC (by kernel_rfl))
    refine tyAt_yes (by simp [Region.wanted, yielded, h25, h26, h16]) ?_
    refine ty_call (f := 68) (args := #[.agg #[.int .i64 (da : Int), .int .i64 (db : Int), .slice g1 d1 g1c], .agg #[.int .i64 (db : Int), .int .i64 (dc : Int), .slice g4 d4 g4c]]) (by simp [execOp, go_sem, Act.eval, h25, h26, h16]) ?_
    exact (M6.out (.agg #[.int .i64 (da : Int), .int .i64 (db : Int), .slice g1 d1 g1c]) (.agg #[.int .i64 (db : Int), .int .i64 (dc : Int), .slice g4 d4 g4c]) w1 (mt_of (PT.below (hT.get (List.mem_cons_of_mem _ (List.mem_cons_of_mem _ (List.mem_cons_of_mem _ (List.mem_cons_of_mem _ List.mem_cons_self))))) (below_drew hb1)) hcp1.out hx1.out hx2.out) (mt_of (PT.below (hT.get (List.mem_cons_of_mem _ List.mem_cons_self)) (below_drew hb1)) hcp4.out hot1.out hot2.out)).mono fun e w2 ⟨pv, h1, h2, h3⟩ => ⟨pv, h1, h2, h3⟩
   ·have h24 : (PM xy) (fv 24) w1 := hp 24 (LC (by kernel_rfl))
    have h27 : (PM xo) (fv 27) w1 := hp 27 (LC (by kernel_rfl))
    have h16 : EV _ (fv 16) w1 := hp 16 (LC (by kernel_rfl))
    refine tyAt_yes (by simp [Region.wanted, yielded, h16]) ?_
    refine ty_call (f := 69) (args := #[fv 24, fv 27]) (by simp [execOp, go_sem, Act.eval, h16]) ?_
    exact (A2.out (fv 24) (fv 27) w1 h24 h27).mono fun e w2 ⟨pv, h1, h2, h3⟩ => ⟨pv, h1, h2, h3⟩
   ·have h21 : (PM xyo) (fv 21) w1 := hp 21 (LC (by kernel_rfl))
    have h28 : (PM xyo) (fv 28) w1 := hp 28 (LC (by kernel_rfl))
    have h16 : EV _ (fv 16) w1 := hp 16 (LC (by kernel_rfl))
    refine tyAt_yes (by simp [Region.wanted, yielded, h16]) ?_
    refine ty_call (f := 67) (args := #[fv 21, fv 28]) (by simp [execOp, go_sem, Act.eval, h16]) ?_
    exact (S2.out (fv 21) (fv 28) w1 h21 h28).mono fun e w2 ⟨h1, h2⟩ => ⟨_, h1, rfl, h2⟩
   ·have h29 : EV _ (fv 29) w1 := hp 29 (LC (by kernel_rfl))
    have h16 : EV _ (fv 16) w1 := hp 16 (LC (by kernel_rfl))
    refine tyAt_yes (by simp [Region.wanted, yielded, h29, h16]) ?_
    simp [tyUpon, execOp, go_sem, Act.eval, h29, h16, Below.refl]
   ·have h16 : EV _ (fv 16) w1 := hp 16 (LC (by kernel_rfl))
    have h30 : EV _ (fv 30) w1 := hp 30 (LC (by kernel_rfl))
    refine tyAt_none rfl ?_
    simp [tyUpon, execOp, go_sem, Act.eval, h16, h30, Below.refl]
   ·have h31 : EV _ (fv 31) w1 := hp 31 (LC (by kernel_rfl))
    refine tyAt_none rfl ?_
    simp [tyUpon, execOp, go_sem, Act.eval, h31, Below.refl]
   ·have h32 : EV _ (fv 32) w1 := hp 32 (LC (by kernel_rfl))
    refine tyAt_yes (by simp [Region.wanted, yielded, h32]) ?_
    have hc := (hL0.call (below_drew hb1)).fc
    simp only [fcG, cellsF, neK, and_true, ne_eq, Nat.zero_add, Nat.reduceAdd] at hc
    simp [tyUpon, execOp, go_sem, Act.eval, hc, h32, Below.refl]
   ·have h32 : EV _ (fv 32) w1 := hp 32 (LC (by kernel_rfl))
    refine tyAt_yes (by simp [Region.wanted, yielded, h32]) ?_
    have hc := (hL0.call (below_drew hb1)).fc
    simp only [fcG, cellsF, neK, and_true, ne_eq, Nat.zero_add, Nat.reduceAdd] at hc
    simp [tyUpon, execOp, go_sem, Act.eval, hc, h32, Below.refl]
   ·have h33 : EV _ (fv 33) w1 := hp 33 (LC (by kernel_rfl))
    have h34 : EV _ (fv 34) w1 := hp 34 (LC (by kernel_rfl))
    have h32 : EV _ (fv 32) w1 := hp 32 (LC (by kernel_rfl))
    refine tyAt_yes (by simp [Region.wanted, yielded, h33, h34, h32]) ?_
    refine ty_call (f := 68) (args := #[.agg #[.int .i64 (da : Int), .int .i64 (db : Int), .slice g1 d1 g1c], .agg #[.int .i64 (db : Int), .int .i64 (db : Int), .slice g5 d5 g5c]]) (by simp [execOp, go_sem, Act.eval, h33, h34, h32]) ?_
    exact (M7.out (.agg #[.int .i64 (da : Int), .int .i64 (db : Int), .slice g1 d1 g1c]) (.agg #[.int .i64 (db : Int), .int .i64 (db : Int), .slice g5 d5 g5c]) w1 (mt_of (PT.below (hT.get (List.mem_cons_of_mem _ (List.mem_cons_of_mem _ (List.mem_cons_of_mem _ (List.mem_cons_of_mem _ List.mem_cons_self))))) (below_drew hb1)) hcp1.out hx1.out hx2.out) (mt_of (PT.below (hT.get List.mem_cons_self) (below_drew hb1)) hcp5.out hon1.out hon2.out)).mono fun e w2 ⟨pv, h1, h2, h3⟩ => ⟨pv, h1, h2, h3⟩
   ·have h32 : EV _ (fv 32) w1 := hp 32 (LC (by kernel_rfl))
    refine tyAt_yes (by simp [Region.wanted, yielded, h32]) ?_
    have hc := (hL0.call (below_drew hb1)).fc
    simp only [fcG, cellsF, neK, and_true, ne_eq, Nat.zero_add, Nat.reduceAdd] at hc
    simp [tyUpon, execOp, go_sem, Act.eval, hc, h32, Below.refl]
   ·have h35 : (PM x) (fv 35) w1 := hp 35 (LC (by kernel_rfl))
    have h36 : EV _ (fv 36) w1 := hp 36 (LC (by kernel_rfl))
    have h32 : EV _ (fv 32) w1 := hp 32 (LC (by kernel_rfl))
    refine tyAt_yes (by simp [Region.wanted, yielded, h36, h32]) ?_
    refine ty_call (f := 67) (args := #[fv 35, .agg #[.int .i64 (da : Int), .int .i64 (db : Int), .slice g1 d1 g1c]]) (by simp [execOp, go_sem, Act.eval, h36, h32]) ?_
    exact (S3.out (fv 35) (.agg #[.int .i64 (da : Int), .int .i64 (db : Int), .slice g1 d1 g1c]) w1 h35 (mt_of (PT.below (hT.get (List.mem_cons_of_mem _ (List.mem_cons_of_mem _ (List.mem_cons_of_mem _ (List.mem_cons_of_mem _ List.mem_cons_self))))) (below_drew hb1)) hcp1.out hx1.out hx2.out)).mono fun e w2 ⟨h1, h2⟩ => ⟨_, h1, rfl, h2⟩
   ·have h37 : EV _ (fv 37) w1 := hp 37 (LC (by kernel_rfl))
    have h32 : EV _ (fv 32) w1 := hp 32 (LC (by kernel_rfl))
    refine tyAt_yes (by simp [Region.wanted, yielded, h37, h32]) ?_
    simp [tyUpon, execOp, go_sem, Act.eval, h37, h32, Below.refl]
   ·have h32 : EV _ (fv 32) w1 := hp 32 (LC (by kernel_rfl))
    have h38 : EV _ (fv 38) w1 := hp 38 (LC (by kernel_rfl))
    refine tyAt_none rfl ?_
    simp [tyUpon, execOp, go_sem, Act.eval, h32, h38, Below.refl]
   ·have h39 : EV _ (fv 39) w1 := hp 39 (LC (by kernel_rfl))
    refine tyAt_none rfl ?_
    simp [tyUpon, execOp, go_sem, Act.eval, h39, Below.refl]
   ·have h40 : EV _ (fv 40) w1 := hp 40 (LC (by kernel_rfl))
    refine tyAt_yes (by simp [Region.wanted, yielded, h40]) ?_
    have hc := (hL0.call (below_drew hb1)).fc
    simp only [fcG, cellsF, neK, and_true, ne_eq, Nat.zero_add, Nat.reduceAdd] at hc
    simp [tyUpon, execOp, go_sem, Act.eval, hc, h40, Below.refl]
   ·have h40 : EV _ (fv 40) w1 := hp 40 (LC (by kernel_rfl))
    refine tyAt_yes (by simp [Region.wanted, yielded, h40]) ?_
    have hc := (hL0.call (below_drew hb1)).fc
    simp only [fcG, cellsF, neK, and_true, ne_eq, Nat.zero_add, Nat.reduceAdd] at hc
    simp [tyUpon, execOp, go_sem, Act.eval, hc, h40, Below.refl]
   ·have h41 : EV _ (fv 41) w1 := hp 41 (LC (by kernel_rfl))
    have h42 : EV _ (fv 42) w1 := hp 42 (LC (by kernel_rfl))
    have h40 : EV _ (fv 40) w1 := hp 40 (LC (by kernel_rfl))
    refine tyAt_yes (by simp [Region.wanted, yielded, h41, h42, h40]) ?_
    refine ty_call (f := 68) (args := #[.agg #[.int .i64 (db : Int), .int .i64 (db : Int), .slice g5 d5 g5c], .agg #[.int .i64 (db : Int), .int .i64 (dc : Int), .slice g2 d2 g2c]]) (by simp [execOp, go_sem, Act.eval, h41, h42, h40]) ?_
    exact (M8.out (.agg #[.int .i64 (db : Int), .int .i64 (db : Int), .slice g5 d5 g5c]) (.agg #[.int .i64 (db : Int), .int .i64 (dc : Int), .slice g2 d2 g2c]) w1 (mt_of (PT.below (hT.get List.mem_cons_self) (below_drew hb1)) hcp5.out hon1.out hon2.out) (mt_of (PT.below (hT.get (List.mem_cons_of_mem _ (List.mem_cons_of_mem _ (List.mem_cons_of_mem _ List.mem_cons_self)))) (below_drew hb1)) hcp2.out hy1.out hy2.out)).mono fun e w2 ⟨pv, h1, h2, h3⟩ => ⟨pv, h1, h2, h3⟩
   ·have h40 : EV _ (fv 40) w1 := hp 40 (LC (by kernel_rfl))
    refine tyAt_yes (by simp [Region.wanted, yielded, h40]) ?_
    have hc := (hL0.call (below_drew hb1)).fc
    simp only [fcG, cellsF, neK, and_true, ne_eq, Nat.zero_add, Nat.reduceAdd] at hc
    simp [tyUpon, execOp, go_sem, Act.eval, hc, h40, Below.refl]
   ·have h43 : (PM y) (fv 43) w1 := hp 43 (LC (by kernel_rfl))
    have h44 : EV _ (fv 44) w1 := hp 44 (LC (by kernel_rfl))
    have h40 : EV _ (fv 40) w1 := hp 40 (LC (by kernel_rfl))
    refine tyAt_yes (by simp [Region.wanted, yielded, h44, h40]) ?_
    refine ty_call (f := 67) (args := #[fv 43, .agg #[.int .i64 (db : Int), .int .i64 (dc : Int), .slice g2 d2 g2c]]) (by simp [execOp, go_sem, Act.eval, h44, h40]) ?_
    exact (S4.out (fv 43) (.agg #[.int .i64 (db : Int), .int .i64 (dc : Int), .slice g2 d2 g2c]) w1 h43 (mt_of (PT.below (hT.get (List.mem_cons_of_mem _ (List.mem_cons_of_mem _ (List.mem_cons_of_mem _ List.mem_cons_self)))) (below_drew hb1)) hcp2.out hy1.out hy2.out)).mono fun e w2 ⟨h1, h2⟩ => ⟨_, h1, rfl, h2⟩
   ·have h45 : EV _ (fv 45) w1 := hp 45 (LC (by kernel_rfl))
    have h40 : EV _ (fv 40) w1 := hp 40 (LC (by kernel_rfl))
    refine tyAt_yes (by simp [Region.wanted, yielded, h45, h40]) ?_
    simp [tyUpon, execOp, go_sem, Act.eval, h45, h40, Below.refl]
   ·have h40 : EV _ (fv 40) w1 := hp 40 (LC (by kernel_rfl))
    have h46 : EV _ (fv 46) w1 := hp 46 (LC (by kernel_rfl))
    refine tyAt_none rfl ?_
    simp [tyUpon, execOp, go_sem, Act.eval, h40, h46, Below.refl]
  ·intro fv x13 hb1 hv
   have e0 : fv 0 = _ := hv 0 (by omega)
   have e1 : fv 1 = _ := hv 1 (by omega)
   have e2 : fv 2 = _ := hv 2 (by omega)
   have e3 : fv 3 = _ := hv 3 (by omega)
   have e4 : fv 4 = _ := hv 4 (by omega)
   have q5 : MT x13 (fv 5) xy := hv 5 (by omega)
   obtain ⟨g6, d6, g6c, e5, hm6, hcp6⟩ := mt_form q5 hxy1.out hxy2.out
   replace hcp6 := Lib.hid hcp6
   rw [e5] at q5
   have e6 : fv 6 = _ := hv 6 (by omega)
   have q7 : MT x13 (fv 7) xyz := hv 7 (by omega)
   obtain ⟨g7, d7, g7c, e7, hm7, hcp7⟩ := mt_form q7 hxyz1.out hxyz2.out
   replace hcp7 := Lib.hid hcp7
   rw [e7] at q7
   have e8 : fv 8 = _ := hv 8 (by omega)
   have e9 : fv 9 = _ := hv 9 (by omega)
   have e10 : fv 10 = _ := hv 10 (by omega)
   have q11 : MT x13 (fv 11) yz := hv 11 (by omega)
   obtain ⟨g8, d8, g8c, e11, hm8, hcp8⟩ := mt_form q11 hyz1.out hyz2.out
   replace hcp8 := Lib.hid hcp8
   rw [e11] at q11
   have q12 : MT x13 (fv 12) xyz := hv 12 (by omega)
   obtain ⟨g9, d9, g9c, e12, hm9, hcp9⟩ := mt_form q12 hxyz1.out hxyz2.out
   replace hcp9 := Lib.hid hcp9
   rw [e12] at q12
   have e13 : fv 13 = _ := hv 13 (by omega)
   have e14 : fv 14 = _ := hv 14 (by omega)
   have e15 : fv 15 = _ := hv 15 (by omega)
   have e16 : fv 16 = _ := hv 16 (by omega)
   have e17 : fv 17 = _ := hv 17 (by omega)
   have e18 : fv 18 = _ := hv 18 (by omega)
   have e19 : fv 19 = _ := hv 19 (by omega)
   have q20 : MT x13 (fv 20) yo := hv 20 (by omega)
   obtain ⟨g10, d10, g10c, e20, hm10, hcp10⟩ := mt_form q20 hyo1.out hyo2.out
   replace hcp10 := Lib.hid hcp10
   rw [e20] at q20
   have q21 : MT x13 (fv 21) xyo := hv 21 (by omega)
   obtain ⟨g11, d11, g11c, e21, hm11, hcp11⟩ := mt_form q21 hxyo1.out hxyo2.out
   replace hcp11 := Lib.hid hcp11
   rw [e21] at q21
   have e22 : fv 22 = _ := hv 22 (by omega)
   have e23 : fv 23 = _ := hv 23 (by omega)
   have q24 : MT x13 (fv 24) xy := hv 24 (by omega)
   obtain ⟨g12, d12, g12c, e24, hm12, hcp12⟩ := mt_form q24 hxy1.out hxy2.out
   replace hcp12 := Lib.hid hcp12
   rw [e24] at q24
   have e25 : fv 25 = _ := hv 25 (by omega)
   have e26 : fv 26 = _ := hv 26 (by omega)
   have q27 : MT x13 (fv 27) xo := hv 27 (by omega)
   obtain ⟨g13, d13, g13c, e27, hm13, hcp13⟩ := mt_form q27 hxo1.out hxo2.out
   replace hcp13 := Lib.hid hcp13
   rw [e27] at q27
   have q28 : MT x13 (fv 28) xyo := hv 28 (by omega)
   obtain ⟨g14, d14, g14c, e28, hm14, hcp14⟩ := mt_form q28 hxyo1.out hxyo2.out
   replace hcp14 := Lib.hid hcp14
   rw [e28] at q28
   have e29 : fv 29 = _ := hv 29 (by omega)
   have e30 : fv 30 = _ := hv 30 (by omega)
   have e31 : fv 31 = _ := hv 31 (by omega)
   have e32 : fv 32 = _ := hv 32 (by omega)
   have e33 : fv 33 = _ := hv 33 (by omega)
   have e34 : fv 34 = _ := hv 34 (by omega)
   have q35 : MT x13 (fv 35) x := hv 35 (by omega)
   obtain ⟨g15, d15, g15c, e35, hm15, hcp15⟩ := mt_form q35 hx1.out hx2.out
   replace hcp15 := Lib.hid hcp15
   rw [e35] at q35
   have e36 : fv 36 = _ := hv 36 (by omega)
   have e37 : fv 37 = _ := hv 37 (by omega)
   have e38 : fv 38 = _ := hv 38 (by omega)
   have e39 : fv 39 = _ := hv 39 (by omega)
   have e40 : fv 40 = _ := hv 40 (by omega)
   have e41 : fv 41 = _ := hv 41 (by omega)
   have e42 : fv 42 = _ := hv 42 (by omega)
   have q43 : MT x13 (fv 43) y := hv 43 (by omega)
   obtain ⟨g16, d16, g16c, e43, hm16, hcp16⟩ := mt_form q43 hy1.out hy2.out
   replace hcp16 := Lib.hid hcp16
   rw [e43] at q43
   have e44 : fv 44 = _ := hv 44 (by omega)
   have e45 : fv 45 = _ := hv 45 (by omega)
   have e46 : fv 46 = _ := hv 46 (by omega)
   have e47 : fv 47 = _ := hv 47 (by omega)
   simp only [List.take_succ_cons, List.take_zero, putsV, Act.put, List.setIfInBounds_toArray, List.set_cons_succ, List.set_cons_zero, List.drop_succ_cons, List.drop_zero, Nat.zero_add, Nat.reduceAdd, e0, e1, e2, e3, e4, e5, e6, e7, e8, e9, e10, e11, e12, e13, e14, e15, e16, e17, e18, e19, e20, e21, e22, e23, e24, e25, e26, e27, e28, e29, e30, e31, e32, e33, e34, e35, e36, e37, e38, e39, e40, e41, e42, e43, e44, e45, e46, e47]
   replace hL0 := hL0.call (below_drew hb1)
   replace hT := hT.call (below_drew hb1)
   replace hT := hT.cons hm6
   clear hm6
   replace hT := hT.cons hm7
   clear hm7
   replace hT := hT.cons hm8
   clear hm8
   replace hT := hT.cons hm9
   clear hm9
   replace hT := hT.cons hm10
   clear hm10
   replace hT := hT.cons hm11
   clear hm11
   replace hT := hT.cons hm12
   clear hm12
   replace hT := hT.cons hm13
   clear hm13
   replace hT := hT.cons hm14
   clear hm14
   replace hT := hT.cons hm15
   clear hm15
   replace hT := hT.cons hm16
   clear hm16
   clear e0 e1 e2 e3 e4 e5 e6 e7 e8 e9 e10 e11 e12 e13 e14 e15 e16 e17 e18 e19 e20 e21 e22 e23 e24 e25 e26 e27 e28 e29 e30 e31 e32 e33 e34 e35 e36 e37 e38 e39 e40 e41 e42 e43 e44 e45 e46 e47 hb1 hv q5 q7 q11 q12 q20 q21 q24 q27 q28 q35 q43 fv
   go_upto_region 9 with fail
   refine region_tl 35 [EV (.agg #[.int .i64 (da : Int), .int .i64 (db : Int), .slice g1 d1 g1c]), EV (.agg #[.int .i64 (db : Int), .int .i64 (dc : Int), .slice g2 d2 g2c]), PM xy, PM txy, EV (.agg #[.int .i64 (db : Int), .int .i64 (dc : Int), .slice g2 d2 g2c]), PM ty, EV (.agg #[.int .i64 (da : Int), .int .i64 (db : Int), .slice g1 d1 g1c]), PM tx, PM txy, EV (.bool true), EV (.bool false), EV (.bool false), EV (.agg #[.int .i64 (da : Int), .int .i64 (db : Int), .slice g1 d1 g1c]), PM tx, PM x, EV (.agg #[.int .i64 (da : Int), .int .i64 (db : Int), .slice g1 d1 g1c]), EV (.bool true), EV (.bool false), EV (.bool false), EV (.bool false), EV (.agg #[.int .i64 (da : Int), .int .i64 (db : Int), .slice g1 d1 g1c]), EV (.agg #[.int .i64 (da : Int), .int .i64 (db : Int), .slice g1 d1 g1c]), PM xx, EV (.agg #[.int .i64 (db : Int), .int .i64 (dc : Int), .slice g2 d2 g2c]), PM xxy, EV (.agg #[.int .i64 (da : Int), .int .i64 (db : Int), .slice g1 d1 g1c]), EV (.agg #[.int .i64 (db : Int), .int .i64 (dc : Int), .slice g2 d2 g2c]), PM xy, EV (.agg #[.int .i64 (da : Int), .int .i64 (db : Int), .slice g1 d1 g1c]), EV (.agg #[.int .i64 (db : Int), .int .i64 (dc : Int), .slice g2 d2 g2c]), PM xy, PM xxy, EV (.bool true), EV (.bool false), EV (.bool false)] (by kernel_rfl) (by kernel_rfl) ?_ ?_ ?_
   ·exact stays_cons (stays_eq _) (stays_cons (stays_eq _) (stays_cons (stays_pm _) (stays_cons (stays_pm _) (stays_cons (stays_eq _) (stays_cons (stays_pm _) (stays_cons (stays_eq _) (stays_cons (stays_pm _) (stays_cons (stays_pm _) (stays_cons (stays_eq _) (stays_cons (stays_eq _) (stays_cons (stays_eq _) (stays_cons (stays_eq _) (stays_cons (stays_pm _) (stays_cons (stays_pm _) (stays_cons (stays_eq _) (stays_cons (stays_eq _) (stays_cons (stays_eq _) (stays_cons (stays_eq _) (stays_cons (stays_eq _) (stays_cons (stays_eq _) (stays_cons (stays_eq _) (stays_cons (stays_pm _) (stays_cons (stays_eq _) (stays_cons (stays_pm _) (stays_cons (stays_eq _) (stays_cons (stays_eq _) (stays_cons (stays_pm _) (stays_cons (stays_eq _) (stays_cons (stays_eq _) (stays_cons (stays_pm _) (stays_cons (stays_pm _) (stays_cons (stays_eq _) (stays_cons (stays_eq _) (stays_cons (stays_eq _) (stays_nil)))))))))))))))))))))))))))))))))))
   ·simp only [List.take_succ_cons, List.take_zero, hopsR, and_true]
    refine ⟨?_, ?_, ?_, ?_, ?_, ?_, ?_, ?_, ?_, ?_, ?_, ?_, ?_, ?_, ?_, ?_, ?_, ?_, ?_, ?_, ?_, ?_, ?_, ?_, ?_, ?_, ?_, ?_, ?_, ?_, ?_, ?_, ?_, ?_, ?_⟩ <;> intro fv w1 hb1 hp
    all_goals (simp only [putsV, Act.put, List.setIfInBounds_toArray, List.set_cons_succ, List.set_cons_zero, Nat.zero_add, Nat.reduceAdd])
    ·refine tyAt_none rfl ?_
     have hc := (hL0.call (below_drew hb1)).fc
     simp only [fcG, cellsF, neK, and_true, ne_eq, Nat.zero_add, Nat.reduceAdd] at hc
     simp [tyUpon, execOp, go_sem, Act.eval, hc, Below.refl]
    ·refine tyAt_none rfl ?_
     have hc := (hL0.call (below_drew hb1)).fc
     simp only [fcG, cellsF, neK, and_true, ne_eq, Nat.zero_add, Nat.reduceAdd] at hc
     simp [tyUpon, execOp, go_sem, Act.eval, hc, Below.refl]
    ·have h0 : EV _ (fv 0) w1 := hp 0 (LC (by kernel_rfl))
     have h1 : EV _ (fv 1) w1 := hp 1 (LC (by kernel_rfl))
     refine tyAt_none rfl ?_
     refine ty_call (f := 68) (args := #[.agg #[.int .i64 (da : Int), .int .i64 (db : Int), .slice g1 d1 g1c], .agg #[.int .i64 (db : Int), .int .i64 (dc : Int), .slice g2 d2 g2c]]) (by simp [execOp, go_sem, Act.eval, h0, h1]) ?_
     exact (M1.out (.agg #[.int .i64 (da : Int), .int .i64 (db : Int), .slice g1 d1 g1c]) (.agg #[.int .i64 (db : Int), .int .i64 (dc : Int), .slice g2 d2 g2c]) w1 (mt_of (PT.below (hT.get (List.mem_cons_of_mem _ (List.mem_cons_of_mem _ (List.mem_cons_of_mem _ (List.mem_cons_of_mem _ (List.mem_cons_of_mem _ (List.mem_cons_of_mem _ (List.mem_cons_of_mem _ (List.mem_cons_of_mem _ (List.mem_cons_of_mem _ (List.mem_cons_of_mem _ (List.mem_cons_of_mem _ (List.mem_cons_of_mem _ (List.mem_cons_of_mem _ (List.mem_cons_of_mem _ (List.mem_cons_of_mem _ List.mem_cons_self)))))))))))))))) (below_drew hb1)) hcp1.out hx1.out hx2.out) (mt_of (PT.below (hT.get (List.mem_cons_of_mem _ (List.mem_cons_of_mem _ (List.mem_cons_of_mem _ (List.mem_cons_of_mem _ (List.mem_cons_of_mem _ (List.mem_cons_of_mem _ (List.mem_cons_of_mem _ (List.mem_cons_of_mem _ (List.mem_cons_of_mem _ (List.mem_cons_of_mem _ (List.mem_cons_of_mem _ (List.mem_cons_of_mem _ (List.mem_cons_of_mem _ (List.mem_cons_of_mem _ List.mem_cons_self))))))))))))))) (below_drew hb1)) hcp2.out hy1.out hy2.out)).mono fun e w2 ⟨pv, h1, h2, h3⟩ => ⟨pv, h1, h2, h3⟩
    ·have h2 : (PM xy) (fv 2) w1 := hp 2 (LC (by kernel_rfl))
     refine tyAt_none rfl ?_
     refine ty_call (f := 70) (args := #[fv 2]) (by simp [execOp, go_sem, Act.eval]) ?_
     exact (T1.out (fv 2) w1 h2).mono fun e w2 ⟨pv, h1, h2, h3⟩ => ⟨pv, h1, h2, h3⟩
    ·refine tyAt_none rfl ?_
     have hc := (hL0.call (below_drew hb1)).fc
     simp only [fcG, cellsF, neK, and_true, ne_eq, Nat.zero_add, Nat.reduceAdd] at hc
     simp [tyUpon, execOp, go_sem, Act.eval, hc, Below.refl]
    ·have h4 : EV _ (fv 4) w1 := hp 4 (LC (by kernel_rfl))
     refine tyAt_none rfl ?_
     refine ty_call (f := 70) (args := #[.agg #[.int .i64 (db : Int), .int .i64 (dc : Int), .slice g2 d2 g2c]]) (by simp [execOp, go_sem, Act.eval, h4]) ?_
     exact (T2.out (.agg #[.int .i64 (db : Int), .int .i64 (dc : Int), .slice g2 d2 g2c]) w1 (mt_of (PT.below (hT.get (List.mem_cons_of_mem _ (List.mem_cons_of_mem _ (List.mem_cons_of_mem _ (List.mem_cons_of_mem _ (List.mem_cons_of_mem _ (List.mem_cons_of_mem _ (List.mem_cons_of_mem _ (List.mem_cons_of_mem _ (List.mem_cons_of_mem _ (List.mem_cons_of_mem _ (List.mem_cons_of_mem _ (List.mem_cons_of_mem _ (List.mem_cons_of_mem _ (List.mem_cons_of_mem _ List.mem_cons_self))))))))))))))) (below_drew hb1)) hcp2.out hy1.out hy2.out)).mono fun e w2 ⟨pv, h1, h2, h3⟩ => ⟨pv, h1, h2, h3⟩
    ·refine tyAt_none rfl ?_
     have hc := (hL0.call (below_drew hb1)).fc
     simp only [fcG, cellsF, neK, and_true, ne_eq, Nat.zero_add, Nat.reduceAdd] at hc
     simp [tyUpon, execOp, go_sem, Act.eval, hc, Below.refl]
    ·have h6 : EV _ (fv 6) w1 := hp 6 (LC (by kernel_rfl))
     refine tyAt_none rfl ?_
     refine ty_call (f := 70) (args := #[.agg #[.int .i64 (da : Int), .int .i64 (db : Int), .slice g1 d1 g1c]]) (by simp [execOp, go_sem, Act.eval, h6]) ?_
     exact (T3.out (.agg #[.int .i64 (da : Int), .int .i64 (db : Int), .slice g1 d1 g1c]) w1 (mt_of (PT.below (hT.get (List.mem_cons_of_mem _ (List.mem_cons_of_mem _ (List.mem_cons_of_mem _ (List.mem_cons_of_mem _ (List.mem_cons_of_mem _ (List.mem_cons_of_mem _ (List.mem_cons_of_mem _ (List.mem_cons_of_mem _ (List.mem_cons_of_mem _ (List.mem_cons_of_mem _ (List.mem_cons_of_mem _ (List.mem_cons_of_mem _ (List.mem_cons_of_mem _ (List.mem_cons_of_mem _ (List.mem_cons_of_mem _ List.mem_cons_self)))))))))))))))) (below_drew hb1)) hcp1.out hx1.out hx2.out)).mono fun e w2 ⟨pv, h1, h2, h3⟩ => ⟨pv, h1, h2, h3⟩
    ·have h5 : (PM ty) (fv 5) w1 := hp 5 (LC (by kernel_rfl))
     have h7 : (PM tx) (fv 7) w1 := hp 7 (LC (by kernel_rfl))
     refine tyAt_none rfl ?_
     refine ty_call (f := 68) (args := #[fv 5, fv 7]) (by simp [execOp, go_sem, Act.eval]) ?_
     exact (M9.out (fv 5) (fv 7) w1 h5 h7).mono fun e w2 ⟨pv, h1, h2, h3⟩ => ⟨pv, h1, h2, h3⟩
    ·have h3 : (PM txy) (fv 3) w1 := hp 3 (LC (by kernel_rfl))
     have h8 : (PM txy) (fv 8) w1 := hp 8 (LC (by kernel_rfl))
     refine tyAt_none rfl ?_
     refine ty_call (f := 67) (args := #[fv 3, fv 8]) (by simp [execOp, go_sem, Act.eval]) ?_
     exact (S5.out (fv 3) (fv 8) w1 h3 h8).mono fun e w2 ⟨h1, h2⟩ => ⟨_, h1, rfl, h2⟩
    ·have h9 : EV _ (fv 9) w1 := hp 9 (LC (by kernel_rfl))
     refine tyAt_none rfl ?_
     simp [tyUpon, execOp, go_sem, Act.eval, h9, Below.refl]
    ·have h10 : EV _ (fv 10) w1 := hp 10 (LC (by kernel_rfl))
     refine tyAt_none rfl ?_
     simp [tyUpon, execOp, go_sem, Act.eval, h10, Below.refl]
    ·have h11 : EV _ (fv 11) w1 := hp 11 (LC (by kernel_rfl))
     refine tyAt_yes (by simp [Region.wanted, yielded, h11]) ?_
     have hc := (hL0.call (below_drew hb1)).fc
     simp only [fcG, cellsF, neK, and_true, ne_eq, Nat.zero_add, Nat.reduceAdd] at hc
     simp [tyUpon, execOp, go_sem, Act.eval, hc, h11, Below.refl]
    ·have h12 : EV _ (fv 12) w1 := hp 12 (LC (by kernel_rfl))
     have h11 : EV _ (fv 11) w1 := hp 11 (LC (by kernel_rfl))
     refine tyAt_yes (by simp [Region.wanted, yielded, h12, h11]) ?_
     refine ty_call (f := 70) (args := #[.agg #[.int .i64 (da : Int), .int .i64 (db : Int), .slice g1 d1 g1c]]) (by simp [execOp, go_sem, Act.eval, h12, h11]) ?_
     exact (T3.out (.agg #[.int .i64 (da : Int), .int .i64 (db : Int), .slice g1 d1 g1c]) w1 (mt_of (PT.below (hT.get (List.mem_cons_of_mem _ (List.mem_cons_of_mem _ (List.mem_cons_of_mem _ (List.mem_cons_of_mem _ (List.mem_cons_of_mem _ (List.mem_cons_of_mem _ (List.mem_cons_of_mem _ (List.mem_cons_of_mem _ (List.mem_cons_of_mem _ (List.mem_cons_of_mem _ (List.mem_cons_of_mem _ (List.mem_cons_of_mem _ (List.mem_cons_of_mem _ (List.mem_cons_of_mem _ (List.mem_cons_of_mem _ List.mem_cons_self)))))))))))))))) (below_drew hb1)) hcp1.out hx1.out hx2.out)).mono fun e w2 ⟨pv, h1, h2, h3⟩ => ⟨pv, h1, h2, h3⟩
    ·have h13 : (PM tx) (fv 13) w1 := hp 13 (LC (by kernel_rfl))
     have h11 : EV _ (fv 11) w1 := hp 11 (LC (by kernel_rfl))
     refine tyAt_yes (by simp [Region.wanted, yielded, h11]) ?_
     refine ty_call (f := 70) (args := #[fv 13]) (by simp [execOp, go_sem, Act.eval, h11]) ?_
     exact (T4.out (fv 13) w1 h13).mono fun e w2 ⟨pv, h1, h2, h3⟩ => ⟨pv, h1, h2, h3⟩
    ·have h11 : EV _ (fv 11) w1 := hp 11 (LC (by kernel_rfl))
     refine tyAt_yes (by simp [Region.wanted, yielded, h11]) ?_
     have hc := (hL0.call (below_drew hb1)).fc
     simp only [fcG, cellsF, neK, and_true, ne_eq, Nat.zero_add, Nat.reduceAdd] at hc
     simp [tyUpon, execOp, go_sem, Act.eval, hc, h11, Below.refl]
    ·have h14 : (PM x) (fv 14) w1 := hp 14 (LC (by kernel_rfl))
     have h15 : EV _ (fv 15) w1 := hp 15 (LC (by kernel_rfl))
     have h11 : EV _ (fv 11) w1 := hp 11 (LC (by kernel_rfl))
     refine tyAt_yes (by simp [Region.wanted, yielded, h15, h11]) ?_
     refine ty_call (f := 67) (args := #[fv 14, .agg #[.int .i64 (da : Int), .int .i64 (db : Int), .slice g1 d1 g1c]]) (by simp [execOp, go_sem, Act.eval, h15, h11]) ?_
     exact (S3.out (fv 14) (.agg #[.int .i64 (da : Int), .int .i64 (db : Int), .slice g1 d1 g1c]) w1 h14 (mt_of (PT.below (hT.get (List.mem_cons_of_mem _ (List.mem_cons_of_mem _ (List.mem_cons_of_mem _ (List.mem_cons_of_mem _ (List.mem_cons_of_mem _ (List.mem_cons_of_mem _ (List.mem_cons_of_mem _ (List.mem_cons_of_mem _ (List.mem_cons_of_mem _ (List.mem_cons_of_mem _ (List.mem_cons_of_mem _ (List.mem_cons_of_mem _ (List.mem_cons_of_mem _ (List.mem_cons_of_mem _ (List.mem_cons_of_mem _ List.mem_cons_self)))))))))))))))) (below_drew hb1)) hcp1.out hx1.out hx2.out)).mono fun e w2 ⟨h1, h2⟩ => ⟨_, h1, rfl, h2⟩
    ·have h16 : EV _ (fv 16) w1 := hp 16 (LC (by kernel_rfl))
     have h11 : EV _ (fv 11) w1 := hp 11 (LC (by kernel_rfl))
     refine tyAt_yes (by simp [Region.wanted, yielded, h16, h11]) ?_
     simp [tyUpon, execOp, go_sem, Act.eval, h16, h11, Below.refl]
    ·have h11 : EV _ (fv 11) w1 := hp 11 (LC (by kernel_rfl))
     have h17 : EV _ (fv 17) w1 := hp 17 (LC (by kernel_rfl))
     refine tyAt_none rfl ?_
     simp [tyUpon, execOp, go_sem, Act.eval, h11, h17, Below.refl]
    ·have h18 : EV _ (fv 18) w1 := hp 18 (LC (by kernel_rfl))
     refine tyAt_none rfl ?_
     simp [tyUpon, execOp, go_sem, Act.eval, h18, Below.refl]
    ·have h19 : EV _ (fv 19) w1 := hp 19 (LC (by kernel_rfl))
     refine tyAt_yes (by simp [Region.wanted, yielded, h19]) ?_
     have hc := (hL0.call (below_drew hb1)).fc
     simp only [fcG, cellsF, neK, and_true, ne_eq, Nat.zero_add, Nat.reduceAdd] at hc
     simp [tyUpon, execOp, go_sem, Act.eval, hc, h19, Below.refl]
    ·have h19 : EV _ (fv 19) w1 := hp 19 (LC (by kernel_rfl))
     refine tyAt_yes (by simp [Region.wanted, yielded, h19]) ?_
     have hc := (hL0.call (below_drew hb1)).fc
     simp only [fcG, cellsF, neK, and_true, ne_eq, Nat.zero_add, Nat.reduceAdd] at hc
     simp [tyUpon, execOp, go_sem, Act.eval, hc, h19, Below.refl]
    ·have h20 : EV _ (fv 20) w1 := hp 20 (LC (by kernel_rfl))
     have h21 : EV _ (fv 21) w1 := hp 21 (LC (by kernel_rfl))
     have h19 : EV _ (fv 19) w1 := hp 19 (LC (by kernel_rfl))
     refine tyAt_yes (by simp [Region.wanted, yielded, h20, h21, h19]) ?_
     refine ty_call (f := 69) (args := #[.agg #[.int .i64 (da : Int), .int .i64 (db : Int), .slice g1 d1 g1c], .agg #[.int .i64 (da : Int), .int .i64 (db : Int), .slice g1 d1 g1c]]) (by simp [execOp, go_sem, Act.eval, h20, h21, h19]) ?_
     exact (A3.out (.agg #[.int .i64 (da : Int), .int .i64 (db : Int), .slice g1 d1 g1c]) (.agg #[.int .i64 (da : Int), .int .i64 (db : Int), .slice g1 d1 g1c]) w1 (mt_of (PT.below (hT.get (List.mem_cons_of_mem _ (List.mem_cons_of_mem _ (List.mem_cons_of_mem _ (List.mem_cons_of_mem _ (List.mem_cons_of_mem _ (List.mem_cons_of_mem _ (List.mem_cons_of_mem _ (List.mem_cons_of_mem _ (List.mem_cons_of_mem _ (List.mem_cons_of_mem _ (List.mem_cons_of_mem _ (List.mem_cons_of_mem _ (List.mem_cons_of_mem _ (List.mem_cons_of_mem _ (List.mem_cons_of_mem _ List.mem_cons_self)))))))))))))))) (below_drew hb1)) hcp1.out hx1.out hx2.out) (mt_of (PT.below (hT.get (List.mem_cons_of_mem _ (List.mem_cons_of_mem _ (List.mem_cons_of_mem _ (List.mem_cons_of_mem _ (List.mem_cons_of_mem _ (List.mem_cons_of_mem _ (List.mem_cons_of_mem _ (List.mem_cons_of_mem _ (List.mem_cons_of_mem _ (List.mem_cons_of_mem _ (List.mem_cons_of_mem _ (List.mem_cons_of_mem _ (List.mem_cons_of_mem _ (List.mem_cons_of_mem _ (List.mem_cons_of_mem _ List.mem_cons_self)))))))))))))))) (below_drew hb1)) hcp1.out hx1.out hx2.out)).mono fun e w2 ⟨pv, h1, h2, h3⟩ => ⟨pv, h1, h2, h3⟩
    ·have h19 : EV _ (fv 19) w1 := hp 19 (LC (by kernel_rfl))
     refine tyAt_yes (by simp [Region.wanted, yielded, h19]) ?_
     have hc := (hL0.call (below_drew hb1)).fc
     simp only [fcG, cellsF, neK, and_true, ne_eq, Nat.zero_add, Nat.reduceAdd] at hc
     simp [tyUpon, execOp, go_sem, Act.eval, hc, h19, Below.refl]
    ·have h22 : (PM xx) (fv 22) w1 := hp 22 (LC (by kernel_rfl))
     have h23 : EV _ (fv 23) w1 := hp 23 (LC (by kernel_rfl))
     have h19 : EV _ (fv 19) w1 := hp 19 (LC (by kernel_rfl))
     refine tyAt_yes (by simp [Region.wanted, yielded, h23, h19]) ?_
     refine ty_call (f := 68) (args := #[fv 22, .agg #[.int .i64 (db : Int), .int .i64 (dc : Int), .slice g2 d2 g2c]]) (by simp [execOp, go_sem, Act.eval, h23, h19]) ?_
     exact (Ma.out (fv 22) (.agg #[.int .i64 (db : Int), .int .i64 (dc : Int), .slice g2 d2 g2c]) w1 h22 (mt_of (PT.below (hT.get (List.mem_cons_of_mem _ (List.mem_cons_of_mem _ (List.mem_cons_of_mem _ (List.mem_cons_of_mem _ (List.mem_cons_of_mem _ (List.mem_cons_of_mem _ (List.mem_cons_of_mem _ (List.mem_cons_of_mem _ (List.mem_cons_of_mem _ (List.mem_cons_of_mem _ (List.mem_cons_of_mem _ (List.mem_cons_of_mem _ (List.mem_cons_of_mem _ (List.mem_cons_of_mem _ List.mem_cons_self))))))))))))))) (below_drew hb1)) hcp2.out hy1.out hy2.out)).mono fun e w2 ⟨pv, h1, h2, h3⟩ => ⟨pv, h1, h2, h3⟩
    ·have h19 : EV _ (fv 19) w1 := hp 19 (LC (by kernel_rfl))
     refine tyAt_yes (by simp [Region.wanted, yielded, h19]) ?_
     have hc := (hL0.call (below_drew hb1)).fc
     simp only [fcG, cellsF, neK, and_true, ne_eq, Nat.zero_add, Nat.reduceAdd] at hc
     simp [tyUpon, execOp, go_sem, Act.eval, hc, h19, Below.refl]
    ·have h19 : EV _ (fv 19) w1 := hp 19 (LC (by kernel_rfl))
     refine tyAt_yes (by simp [Region.wanted, yielded, h19]) ?_
     have hc := (hL0.call (below_drew hb1)).fc
     simp only [fcG, cellsF, neK, and_true, ne_eq, Nat.zero_add, Nat.reduceAdd] at hc
     simp [tyUpon, execOp, go_sem, Act.eval, hc, h19, Below.refl]
    ·have h25 : EV _ (fv 25) w1 := hp 25 (LC (by kernel_rfl))
     have h26 : EV _ (fv 26) w1 := hp 26 (LC (by kernel_rfl))
     have h19 : EV _ (fv 19) w1 := hp 19 (LC (by kernel_rfl))
     refine tyAt_yes (by simp [Region.wanted, yielded, h25, h26, h19]) ?_
     refine ty_call (f := 68) (args := #[.agg #[.int .i64 (da : Int), .int .i64 (db : Int), .slice g1 d1 g1c], .agg #[.int .i64 (db : Int), .int .i64 (dc : Int), .slice g2 d2 g2c]]) (by simp [execOp, go_sem, Act.eval, h25, h26, h19]) ?_
     exact (M1.out (.agg #[.int .i64 (da : Int), .int .i64 (db : Int), .slice g1 d1 g1c]) (.agg #[.int .i64 (db : Int), .int .i64 (dc : Int), .slice g2 d2 g2c]) w1 (mt_of (PT.below (hT.get (List.mem_cons_of_mem _ (List.mem_cons_of_mem _ (List.mem_cons_of_mem _ (List.mem_cons_of_mem _ (List.mem_cons_of_mem _ (List.mem_cons_of_mem _ (List.mem_cons_of_mem _ (List.mem_cons_of_mem _ (List.mem_cons_of_mem _ (List.mem_cons_of_mem _ (List.mem_cons_of_mem _ (List.mem_cons_of_mem _ (List.mem_cons_of_mem _ (List.mem_cons_of_mem _ (List.mem_cons_of_mem _ List.mem_cons_self)))))))))))))))) (below_drew hb1)) hcp1.out hx1.out hx2.out) (mt_of (PT.below (hT.get (List.mem_cons_of_mem _ (List.mem_cons_of_mem _ (List.mem_cons_of_mem _ (List.mem_cons_of_mem _ (List.mem_cons_of_mem _ (List.mem_cons_of_mem _ (List.mem_cons_of_mem _ (List.mem_cons_of_mem _ (List.mem_cons_of_mem _ (List.mem_cons_of_mem _ (List.mem_cons_of_mem _ (List.mem_cons_of_mem _ (List.mem_cons_of_mem _ (List.mem_cons_of_mem _ List.mem_cons_self))))))))))))))) (below_drew hb1)) hcp2.out hy1.out hy2.out)).mono fun e w2 ⟨pv, h1, h2, h3⟩ => ⟨pv, h1, h2, h3⟩
    ·have h19 : EV _ (fv 19) w1 := hp 19 (LC (by kernel_rfl))
     refine tyAt_yes (by simp [Region.wanted, yielded, h19]) ?_
     have hc := (hL0.call (below_drew hb1)).fc
     simp only [fcG, cellsF, neK, and_true, ne_eq, Nat.zero_add, Nat.reduceAdd] at hc
     simp [tyUpon, execOp, go_sem, Act.eval, hc, h19, Below.refl]
    ·have h19 : EV _ (fv 19) w1 := hp 19 (LC (by kernel_rfl))
     refine tyAt_yes (by simp [Region.wanted, yielded, h19]) ?_
     have hc := (hL0.call (below_drew hb1)).fc
     simp only [fcG, cellsF, neK, and_true, ne_eq, Nat.zero_add, Nat.reduceAdd] at hc
     simp [tyUpon, execOp, go_sem, Act.eval, hc, h19, Below.refl]
    ·have h28 : EV _ (fv 28) w1 := hp 28 (LC (by kernel_rfl))
     have h29 : EV _ (fv 29) w1 := hp 29 (LC (by kernel_rfl))
     have h19 : EV _ (fv 19) w1 := hp 19 (LC (by kernel_rfl))
     refine tyAt_yes (by simp [Region.wanted, yielded, h28, h29, h19]) ?_
     refine ty_call (f := 68) (args := #[.agg #[.int .i64 (da : Int), .int .i64 (db : Int), .slice g1 d1 g1c], .agg #[.int .i64 (db : Int), .int .i64 (dc : Int), .slice g2 d2 g2c]]) (by simp [execOp, go_sem, Act.eval, h28, h29, h19]) ?_
     exact (M1.out (.agg #[.int .i64 (da : Int), .int .i64 (db : Int), .slice g1 d1 g1c]) (.agg #[.int .i64 (db : Int), .int .i64 (dc : Int), .slice g2 d2 g2c]) w1 (mt_of (PT.below (hT.get (List.mem_cons_of_mem _ (List.mem_cons_of_mem _ (List.mem_cons_of_mem _ (List.mem_cons_of_mem _ (List.mem_cons_of_mem _ (List.mem_cons_of_mem _ (List.mem_cons_of_mem _ (List.mem_cons_of_mem _ (List.mem_cons_of_mem _ (List.mem_cons_of_mem _ (List.mem_cons_of_mem _ (List.mem_cons_of_mem _ (List.mem_cons_of_mem _ (List.mem_cons_of_mem _ (List.mem_cons_of_mem _ List.mem_cons_self)))))))))))))))) (below_drew hb1)) hcp1.out hx1.out hx2.out) (mt_of (PT.below (hT.get (List.mem_cons_of_mem _ (List.mem_cons_of_mem _ (List.mem_cons_of_mem _ (List.mem_cons_of_mem _ (List.mem_cons_of_mem _ (List.mem_cons_of_mem _ (List.mem_cons_of_mem _ (List.mem_cons_of_mem _ (List.mem_cons_of_mem _ (List.mem_cons_of_mem _ (List.mem_cons_of_mem _ (List.mem_cons_of_mem _ (List.mem_cons_of_mem _ (List.mem_cons_of_mem _ List.mem_cons_self))))))))))))))) (below_drew hb1)) hcp2.out hy1.out hy2.out)).mono fun e w2 ⟨pv, h1, h2, h3⟩ => ⟨pv, h1, h2, h3⟩
    ·have h27 : (PM xy) (fv 27) w1 := hp 27 (LC (by kernel_rfl))
     have h30 : (PM xy) (fv 30) w1 := hp 30 (LC (by kernel_rfl))
     have h19 : EV _ (fv 19) w1 := hp 19 (LC (by kernel_rfl))
     refine tyAt_yes (by simp [Region.wanted, yielded, h19]) ?_
     refine ty_call (f := 69) (args := #[fv 27, fv 30]) (by simp [execOp, go_sem, Act.eval, h19]) ?_
     exact (A4.out (fv 27) (fv 30) w1 h27 h30).mono fun e w2 ⟨pv, h1, h2, h3⟩ => ⟨pv, h1, h2, h3⟩
    ·have h24 : (PM xxy) (fv 24) w1 := hp 24 (LC (by kernel_rfl))
     have h31 : (PM xxy) (fv 31) w1 := hp 31 (LC (by kernel_rfl))
     have h19 : EV _ (fv 19) w1 := hp 19 (LC (by kernel_rfl))
     refine tyAt_yes (by simp [Region.wanted, yielded, h19]) ?_
     refine ty_call (f := 67) (args := #[fv 24, fv 31]) (by simp [execOp, go_sem, Act.eval, h19]) ?_
     exact (S6.out (fv 24) (fv 31) w1 h24 h31).mono fun e w2 ⟨h1, h2⟩ => ⟨_, h1, rfl, h2⟩
    ·have h32 : EV _ (fv 32) w1 := hp 32 (LC (by kernel_rfl))
     have h19 : EV _ (fv 19) w1 := hp 19 (LC (by kernel_rfl))
     refine tyAt_yes (by simp [Region.wanted, yielded, h32, h19]) ?_
     simp [tyUpon, execOp, go_sem, Act.eval, h32, h19, Below.refl]
    ·have h19 : EV _ (fv 19) w1 := hp 19 (LC (by kernel_rfl))
     have h33 : EV _ (fv 33) w1 := hp 33 (LC (by kernel_rfl))
     refine tyAt_none rfl ?_
     simp [tyUpon, execOp, go_sem, Act.eval, h19, h33, Below.refl]
   ·intro fv x14 hb1 hv
    have e0 : fv 0 = _ := hv 0 (by omega)
    have e1 : fv 1 = _ := hv 1 (by omega)
    have q2 : MT x14 (fv 2) xy := hv 2 (by omega)
    obtain ⟨g17, d17, g17c, e2, hm17, hcp17⟩ := mt_form q2 hxy1.out hxy2.out
    replace hcp17 := Lib.hid hcp17
    rw [e2] at q2
    have q3 : MT x14 (fv 3) txy := hv 3 (by omega)
    obtain ⟨g18, d18, g18c, e3, hm18, hcp18⟩ := mt_form q3 htxy1.out htxy2.out
    replace hcp18 := Lib.hid hcp18
    rw [e3] at q3
    have e4 : fv 4 = _ := hv 4 (by omega)
    have q5 : MT x14 (fv 5) ty := hv 5 (by omega)
    obtain ⟨g19, d19, g19c, e5, hm19, hcp19⟩ := mt_form q5 hty1.out hty2.out
    replace hcp19 := Lib.hid hcp19
    rw [e5] at q5
    have e6 : fv 6 = _ := hv 6 (by omega)
    have q7 : MT x14 (fv 7) tx := hv 7 (by omega)
    obtain ⟨g20, d20, g20c, e7, hm20, hcp20⟩ := mt_form q7 htx1.out htx2.out
    replace hcp20 := Lib.hid hcp20
    rw [e7] at q7
    have q8 : MT x14 (fv 8) txy := hv 8 (by omega)
    obtain ⟨g21, d21, g21c, e8, hm21, hcp21⟩ := mt_form q8 htxy1.out htxy2.out
    replace hcp21 := Lib.hid hcp21
    rw [e8] at q8
    have e9 : fv 9 = _ := hv 9 (by omega)
    have e10 : fv 10 = _ := hv 10 (by omega)
    have e11 : fv 11 = _ := hv 11 (by omega)
    have e12 : fv 12 = _ := hv 12 (by omega)
    have q13 : MT x14 (fv 13) tx := hv 13 (by omega)
    obtain ⟨g22, d22, g22c, e13, hm22, hcp22⟩ := mt_form q13 htx1.out htx2.out
    replace hcp22 := Lib.hid hcp22
    rw [e13] at q13
    have q14 : MT x14 (fv 14) x := hv 14 (by omega)
    obtain ⟨g23, d23, g23c, e14, hm23, hcp23⟩ := mt_form q14 hx1.out hx2.out
    replace hcp23 := Lib.hid hcp23
    rw [e14] at q14
    have e15 : fv 15 = _ := hv 15 (by omega)
    have e16 : fv 16 = _ := hv 16 (by omega)
    have e17 : fv 17 = _ := hv 17 (by omega)
    have e18 : fv 18 = _ := hv 18 (by omega)
    have e19 : fv 19 = _ := hv 19 (by omega)
    have e20 : fv 20 = _ := hv 20 (by omega)
    have e21 : fv 21 = _ := hv 21 (by omega)
    have q22 : MT x14 (fv 22) xx := hv 22 (by omega)
    obtain ⟨g24, d24, g24c, e22, hm24, hcp24⟩ := mt_form q22 hxx1.out hxx2.out
    replace hcp24 := Lib.hid hcp24
    rw [e22] at q22
    have e23 : fv 23 = _ := hv 23 (by omega)
    have q24 : MT x14 (fv 24) xxy := hv 24 (by omega)
    obtain ⟨g25, d25, g25c, e24, hm25, hcp25⟩ := mt_form q24 hxxy1.out hxxy2.out
    replace hcp25 := Lib.hid hcp25
    rw [e24] at q24
    have e25 : fv 25 = _ := hv 25 (by omega)
    have e26 : fv 26 = _ := hv 26 (by omega)
    have q27 : MT x14 (fv 27) xy := hv 27 (by omega)
    obtain ⟨g26, d26, g26c, e27, hm26, hcp26⟩ := mt_form q27 hxy1.out hxy2.out
    replace hcp26 := Lib.hid hcp26
    rw [e27] at q27
    have e28 : fv 28 = _ := hv 28 (by omega)
    have e29 : fv 29 = _ := hv 29 (by omega)
    have q30 : MT x14 (fv 30) xy := hv 30 (by omega)
    obtain ⟨g27, d27, g27c, e30, hm27, hcp27⟩ := mt_form q30 hxy1.out hxy2.out
    replace hcp27 := Lib.hid hcp27
    rw [e30] at q30
    have q31 : MT x14 (fv 31) xxy := hv 31 (by omega)
    obtain ⟨g28, d28, g28c, e31, hm28, hcp28⟩ := mt_form q31 hxxy1.out hxxy2.out
    replace hcp28 := Lib.hid hcp28
    rw [e31] at q31
    have e32 : fv 32 = _ := hv 32 (by omega)
    have e33 : fv 33 = _ := hv 33 (by omega)
    have e34 : fv 34 = _ := hv 34 (by omega)
    simp only [List.take_succ_cons, List.take_zero, putsV, Act.put, List.setIfInBounds_toArray, List.set_cons_succ, List.set_cons_zero, List.drop_succ_cons, List.drop_zero, Nat.zero_add, Nat.reduceAdd, e0, e1, e2, e3, e4, e5, e6, e7, e8, e9, e10, e11, e12, e13, e14, e15, e16, e17, e18, e19, e20, e21, e22, e23, e24, e25, e26, e27, e28, e29, e30, e31, e32, e33, e34]
    replace hL0 := hL0.call (below_drew hb1)
    replace hT := hT.call (below_drew hb1)
    replace hT := hT.cons hm17
    clear hm17
    replace hT := hT.cons hm18
    clear hm18
    replace hT := hT.cons hm19
    clear hm19
    replace hT := hT.cons hm20
    clear hm20
    replace hT := hT.cons hm21
    clear hm21
    replace hT := hT.cons hm22
    clear hm22
    replace hT := hT.cons hm23
    clear hm23
    replace hT := hT.cons hm24
    clear hm24
    replace hT := hT.cons hm25
    clear hm25
    replace hT := hT.cons hm26
    clear hm26
    replace hT := hT.cons hm27
    clear hm27
    replace hT := hT.cons hm28
    clear hm28
    clear e0 e1 e2 e3 e4 e5 e6 e7 e8 e9 e10 e11 e12 e13 e14 e15 e16 e17 e18 e19 e20 e21 e22 e23 e24 e25 e26 e27 e28 e29 e30 e31 e32 e33 e34 hb1 hv q2 q3 q5 q7 q8 q13 q14 q22 q24 q27 q30 q31 fv
    go_upto_region 11 with fail
    refine region_tbl 8 6 [EV (.agg #[.int .i64 qn, .int .u32 qd]), EV (.agg #[.int .u64 ((zl qc.num : Nat) : Int), .string (zh qc.num), .bool (zs qc.num), .int .u64 ((lo (fe qc) : Nat) : Int), .string (hs (fe qc))]), EV (.agg #[.int .i64 (da : Int), .int .i64 (db : Int), .slice g1 d1 g1c]), MEp cx 0, MEp cx 0, PM cx, EV (.int .i64 0), NewB x14.heap.size [.int .i64 0, .int .i64 0, .slice none 0 0]] [7] (by kernel_rfl) (by kernel_rfl) ?_ ?_ ?_ ?_ ?_ (by rfl) ?_
    ·exact stays_cons (stays_eq _) (stays_cons (stays_eq _) (stays_cons (stays_eq _) (stays_cons (stays_me _ _) (stays_cons (stays_me _ _) (stays_cons (stays_pm _) (stays_cons (stays_eq _) (stays_cons (stays_new _ _) (stays_nil))))))))
    ·simp only [List.take_succ_cons, List.take_zero, hopsR, and_true]
     refine ⟨?_, ?_, ?_, ?_, ?_, ?_, ?_, ?_⟩ <;> intro fv w1 hb1 hp
     all_goals (simp only [putsV, Act.put, List.setIfInBounds_toArray, List.set_cons_succ, List.set_cons_zero, Nat.zero_add, Nat.reduceAdd])
     ·refine tyAt_none rfl ?_
      have hc := (hL0.call (below_drew hb1)).fc
      simp only [fcG, cellsF, neK, and_true, ne_eq, Nat.zero_add, Nat.reduceAdd] at hc
      simp [tyUpon, execOp, go_sem, Act.eval, hc, Below.refl]
     ·have h0 : EV _ (fv 0) w1 := hp 0 (LC (by kernel_rfl))
      refine tyAt_none rfl ?_
      refine ty_call (f := 15) (args := #[.agg #[.int .i64 qn, .int .u32 qd]]) (by simp [execOp, go_sem, Act.eval, h0]) ?_
      exact (HQ1.out w1).mono fun e w2 ⟨h1, h2⟩ => ⟨_, h1, rfl, h2⟩
     ·refine tyAt_none rfl ?_
      have hc := (hL0.call (below_drew hb1)).fc
      simp only [fcG, cellsF, neK, and_true, ne_eq, Nat.zero_add, Nat.reduceAdd] at hc
      simp [tyUpon, execOp, go_sem, Act.eval, hc, Below.refl]
     ·have h1 : EV _ (fv 1) w1 := hp 1 (LC (by kernel_rfl))
      have h2 : EV _ (fv 2) w1 := hp 2 (LC (by kernel_rfl))
      refine tyAt_none rfl ?_
      refine ty_call (f := 47) (args := #[.agg #[.int .u64 ((zl qc.num : Nat) : Int), .string (zh qc.num), .bool (zs qc.num), .int .u64 ((lo (fe qc) : Nat) : Int), .string (hs (fe qc))], .agg #[.int .i64 (da : Int), .int .i64 (db : Int), .slice g1 d1 g1c]]) (by simp [execOp, go_sem, Act.eval, h1, h2]) ?_
      exact (C1.out (.agg #[.int .i64 (da : Int), .int .i64 (db : Int), .slice g1 d1 g1c]) w1 (mt_of (PT.below (hT.get (List.mem_cons_of_mem _ (List.mem_cons_of_mem _ (List.mem_cons_of_mem _ (List.mem_cons_of_mem _ (List.mem_cons_of_mem _ (List.mem_cons_of_mem _ (List.mem_cons_of_mem _ (List.mem_cons_of_mem _ (List.mem_cons_of_mem _ (List.mem_cons_of_mem _ (List.mem_cons_of_mem _ (List.mem_cons_of_mem _ (List.mem_cons_of_mem _ (List.mem_cons_of_mem _ (List.mem_cons_of_mem _ (List.mem_cons_of_mem _ (List.mem_cons_of_mem _ (List.mem_cons_of_mem _ (List.mem_cons_of_mem _ (List.mem_cons_of_mem _ (List.mem_cons_of_mem _ (List.mem_cons_of_mem _ (List.mem_cons_of_mem _ (List.mem_cons_of_mem _ (List.mem_cons_of_mem _ (List.mem_cons_of_mem _ (List.mem_cons_of_mem _ List.mem_cons_self)))))))))))))))))))))))))))) (below_drew hb1)) hcp1.out hx1.out hx2.out)).mono fun e w2 ⟨pv, h1, h2, h3⟩ => ⟨_, h1, ⟨pv, rfl, h2⟩, h3⟩
     ·have h3 : (MEp cx 0) (fv 3) w1 := hp 3 (LC (by kernel_rfl))
      refine tyAt_none rfl ?_
      simp [tyUpon, execOp, go_sem, Act.eval, Below.refl]
      exact h3
     ·have h4 : (MEp cx 0) (fv 4) w1 := hp 4 (LC (by kernel_rfl))
      refine tyAt_none rfl ?_
      obtain ⟨pa, pe, pz⟩ := h4
      simp [tyUpon, execOp, go_sem, Act.eval, pe, Below.refl]
      exact pz
     ·have h4 : (MEp cx 0) (fv 4) w1 := hp 4 (LC (by kernel_rfl))
      refine tyAt_none rfl ?_
      obtain ⟨pa, pe, pz⟩ := h4
      simp [tyUpon, execOp, go_sem, Act.eval, pe, Below.refl]
     ·exact tyAt_new rfl rfl new_mat (below_drew hb1).size
    ·intro j hj u w2 hT
     simp only [List.contains_iff_mem, List.mem_cons, List.not_mem_nil, or_false] at hj
     rcases hj with rfl <;> exact NewB.ptr hT
    ·exact ⟨⟨_, _, _, _, rfl, rfl, rfl, new_mat⟩, trivial⟩
    ·intro fv wl hb1 hv
     have e0 : fv 0 = .agg #[.int .i64 qn, .int .u32 qd] := hv 0 (by omega) (by omega)
     have e1 : fv 1 = .agg #[.int .u64 ((zl qc.num : Nat) : Int), .string (zh qc.num), .bool (zs qc.num), .int .u64 ((lo (fe qc) : Nat) : Int), .string (hs (fe qc))] := hv 1 (by omega) (by omega)
     have e2 : fv 2 = .agg #[.int .i64 (da : Int), .int .i64 (db : Int), .slice g1 d1 g1c] := hv 2 (by omega) (by omega)
     obtain ⟨pa3, e3, qa3⟩ := hv 3 (by omega) (by omega)
     obtain ⟨pa4, e4, qa4⟩ := hv 4 (by omega) (by omega)
     obtain ⟨lg5, ld5, lc5, e5, -, -⟩ := mt_form (show MT wl (fv 5) cx from hv 5 (by omega) (by omega)) hcx1.out hcx2.out
     obtain ⟨kb7, e7, n7, m7⟩ : NewB x14.heap.size [.int .i64 0, .int .i64 0, .slice none 0 0] (fv 7) wl := hv 7 (by omega) (by omega)
     have hx0 := hL0
     replace hL0 := hL0.call (below_drew hb1)
     replace hL0 := GL.tnew (M := []) hL0 hx0 n7 m7 (fun p hp => by cases hp)
     simp only [List.cons_append, List.nil_append] at hL0
     have hA := hL0.fc
     simp only [fcG, cellsF, neK, and_true, ne_eq, Nat.zero_add, Nat.reduceAdd] at hA
     have hP := hL0.put 0 (kb7) _ rfl [.int .i64 (da : Int), .int .i64 (db : Int), .slice lg5 ld5 lc5] rfl
     simp only [setAll, List.set_cons_zero, List.set_cons_succ] at hP
     have hB1 := hP.fc
     simp only [fcG, cellsF, neK, and_true, ne_eq, Nat.zero_add, Nat.reduceAdd] at hB1
     refine ⟨(((wl.setCell ⟨kb7, 0, none⟩ (.int .i64 (da : Int))).setCell ⟨kb7, 1, none⟩ (.int .i64 (db : Int))).setCell ⟨kb7, 2, none⟩ (.slice lg5 ld5 lc5)), .int .i64 0, fun o ho => ?_, fun o ho => ?_, ?_⟩
     ·obtain rfl := Option.some.inj ho
      simp [execOp, go_sem, Act.eval, putsV, Act.put, List.take_succ_cons, List.take_zero, List.setIfInBounds_toArray, List.set_cons_succ, List.set_cons_zero, Nat.zero_add, Nat.reduceAdd, hA, e0, e1, e2, e3, e4, e5, e7]
     ·obtain rfl := Option.some.inj ho
      simp [execOp, go_sem, Act.eval, putsV, Act.put, List.take_succ_cons, List.take_zero, List.setIfInBounds_toArray, List.set_cons_succ, List.set_cons_zero, Nat.zero_add, Nat.reduceAdd, hB1, e0, e1, e2, e3, e4, e5, e7]
     ·rfl
    ·intro fv x15 hb1 hv hne
     have e0 : fv 0 = _ := hv 0 (by omega)
     have e1 : fv 1 = _ := hv 1 (by omega)
     have e2 : fv 2 = _ := hv 2 (by omega)
     obtain ⟨pa3, e3, q3⟩ := hv 3 (by omega)
     obtain ⟨pa4, e4, q4⟩ := hv 4 (by omega)
     have q5 : MT x15 (fv 5) cx := hv 5 (by omega)
     obtain ⟨g29, d29, g29c, e5, hm29, hcp29⟩ := mt_form q5 hcx1.out hcx2.out
     replace hcp29 := Lib.hid hcp29
     rw [e5] at q5
     have e6 : fv 6 = _ := hv 6 (by omega)
     obtain ⟨kb7, e7, n7, m7⟩ : NewB x14.heap.size [.int .i64 0, .int .i64 0, .slice none 0 0] (fv 7) x15 := hv 7 (by omega)
     simp only [List.take_succ_cons, List.take_zero, putsV, Act.put, List.setIfInBounds_toArray, List.set_cons_succ, List.set_cons_zero, List.drop_succ_cons, List.drop_zero, Nat.zero_add, Nat.reduceAdd, e0, e1, e2, e3, e4, e5, e6, e7]
     have hx0 := hL0
     replace hL0 := hL0.call (below_drew hb1)
     replace hT := hT.call (below_drew hb1)
     replace hL0 := GL.tnew (M := []) hL0 hx0 n7 m7 (fun p hp => by cases hp)
     simp only [List.cons_append, List.nil_append] at hL0
     replace hT := hT.cons hm29
     clear hm29
     clear e0 e1 e2 e3 e4 e5 e6 e7 hb1 hv hne hx0 n7 m7 q3 q4 q5 fv
     have hT1 := hT.putM ((((Upd.refl kb7 x15).setCell 0 (.int .i64 (da : Int))).setCell 1 (.int .i64 (db : Int))).setCell 2 (.slice g29 d29 g29c)) (hL0.get _ _ List.mem_cons_self) (by intro n; simp)
     have hA := hL0.fc
     simp only [fcG, cellsF, neK, and_true, ne_eq, Nat.zero_add, Nat.reduceAdd] at hA
     have hP := hL0.put 0 (kb7) _ rfl [.int .i64 (da : Int), .int .i64 (db : Int), .slice g29 d29 g29c] rfl
     simp only [setAll, List.set_cons_zero, List.set_cons_succ] at hP
     generalize hput4 : (((x15.setCell ⟨kb7, 0, none⟩ (.int .i64 (da : Int))).setCell ⟨kb7, 1, none⟩ (.int .i64 (db : Int))).setCell ⟨kb7, 2, none⟩ (.slice g29 d29 g29c)) = x16 at hP hT1
     have hB4 := hP.fc
     simp only [fcG, cellsF, neK, and_true, ne_eq, Nat.zero_add, Nat.reduceAdd] at hB4
     replace hL0 := hP
     replace hT := hT1
     clear hT1
     go_upto_region 12 with fail
     clear hput4 hB4
     clear hA
     refine region_tbl 10 8 [EV (.agg #[.int .i64 qn, .int .u32 qd]), EV (.agg #[.int .u64 ((zl qc.num : Nat) : Int), .string (zh qc.num), .bool (zs qc.num), .int .u64 ((lo (fe qc) : Nat) : Int), .string (hs (fe qc))]), EV (.agg #[.int .i64 (da : Int), .int .i64 (db : Int), .slice g1 d1 g1c]), EV (.agg #[.int .i64 (db : Int), .int .i64 (dc : Int), .slice g2 d2 g2c]), PM xy, MEp cxy 0, MEp cxy 0, PM cxy, EV (.int .i64 0), NewB x16.heap.size [.int .i64 0, .int .i64 0, .slice none 0 0]] [9] (by kernel_rfl) (by kernel_rfl) ?_ ?_ ?_ ?_ ?_ (by rfl) ?_
     ·exact stays_cons (stays_eq _) (stays_cons (stays_eq _) (stays_cons (stays_eq _) (stays_cons (stays_eq _) (stays_cons (stays_pm _) (stays_cons (stays_me _ _) (stays_cons (stays_me _ _) (stays_cons (stays_pm _) (stays_cons (stays_eq _) (stays_cons (stays_new _ _) (stays_nil))))))))))
     ·simp only [List.take_succ_cons, List.take_zero, hopsR, and_true]
      refine ⟨?_, ?_, ?_, ?_, ?_, ?_, ?_, ?_, ?_, ?_⟩ <;> intro fv w1 hb1 hp
      all_goals (simp only [putsV, Act.put, List.setIfInBounds_toArray, List.set_cons_succ, List.set_cons_zero, Nat.zero_add, Nat.reduceAdd])
      ·refine tyAt_none rfl ?_
       have hc := (hL0.call (below_drew hb1)).fc
       simp only [fcG, cellsF, neK, and_true, ne_eq, Nat.zero_add, Nat.reduceAdd] at hc
       simp [tyUpon, execOp, go_sem, Act.eval, hc, Below.refl]
      ·have h0 : EV _ (fv 0) w1 := hp 0 (LC (by kernel_rfl))
       refine tyAt_none rfl ?_
       refine ty_call (f := 15) (args := #[.agg #[.int .i64 qn, .int .u32 qd]]) (by simp [execOp, go_sem, Act.eval, h0]) ?_
       exact (HQ1.out w1).mono fun e w2 ⟨h1, h2⟩ => ⟨_, h1, rfl, h2⟩
      ·refine tyAt_none rfl ?_
       have hc := (hL0.call (below_drew hb1)).fc
       simp only [fcG, cellsF, neK, and_true, ne_eq, Nat.zero_add, Nat.reduceAdd] at hc
       simp [tyUpon, execOp, go_sem, Act.eval, hc, Below.refl]
      ·refine tyAt_none rfl ?_
       have hc := (hL0.call (below_drew hb1)).fc
       simp only [fcG, cellsF, neK, and_true, ne_eq, Nat.zero_add, Nat.reduceAdd] at hc
       simp [tyUpon, execOp, go_sem, Act.eval, hc, Below.refl]
      ·have h2 : EV _ (fv 2) w1 := hp 2 (LC (by kernel_rfl))
       have h3 : EV _ (fv 3) w1 := hp 3 (LC (by kernel_rfl))
       refine tyAt_none rfl ?_
       refine ty_call (f := 68) (args := #[.agg #[.int .i64 (da : Int), .int .i64 (db : Int), .slice g1 d1 g1c], .agg #[.int .i64 (db : Int), .int .i64 (dc : Int), .slice g2 d2 g2c]]) (by simp [execOp, go_sem, Act.eval, h2, h3]) ?_
       exact (M1.out (.agg #[.int .i64 (da : Int), .int .i64 (db : Int), .slice g1 d1 g1c]) (.agg #[.int .i64 (db : Int), .int .i64 (dc : Int), .slice g2 d2 g2c]) w1 (mt_of (PT.below (hT.get (List.mem_cons_of_mem _ (List.mem_cons_of_mem _ (List.mem_cons_of_mem _ (List.mem_cons_of_mem _ (List.mem_cons_of_mem _ (List.mem_cons_of_mem _ (List.mem_cons_of_mem _ (List.mem_cons_of_mem _ (List.mem_cons_of_mem _ (List.mem_cons_of_mem _ (List.mem_cons_of_mem _ (List.mem_cons_of_mem _ (List.mem_cons_of_mem _ (List.mem_cons_of_mem _ (List.mem_cons_of_mem _ (List.mem_cons_of_mem _ (List.mem_cons_of_mem _ (List.mem_cons_of_mem _ (List.mem_cons_of_mem _ (List.mem_cons_of_mem _ (List.mem_cons_of_mem _ (List.mem_cons_of_mem _ (List.mem_cons_of_mem _ (List.mem_cons_of_mem _ (List.mem_cons_of_mem _ (List.mem_cons_of_mem _ (List.mem_cons_of_mem _ (List.mem_cons_of_mem _ List.mem_cons_self))))))))))))))))))))))))))))) (below_drew hb1)) hcp1.out hx1.out hx2.out) (mt_of (PT.below (hT.get (List.mem_cons_of_mem _ (List.mem_cons_of_mem _ (List.mem_cons_of_mem _ (List.mem_cons_of_mem _ (List.mem_cons_of_mem _ (List.mem_cons_of_mem _ (List.mem_cons_of_mem _ (List.mem_cons_of_mem _ (List.mem_cons_of_mem _ (List.mem_cons_of_mem _ (List.mem_cons_of_mem _ (List.mem_cons_of_mem _ (List.mem_cons_of_mem _ (List.mem_cons_of_mem _ (List.mem_cons_of_mem _ (List.mem_cons_of_mem _ (List.mem_cons_of_mem _ (List.mem_cons_of_mem _ (List.mem_cons_of_mem _ (List.mem_cons_of_mem _ (List.mem_cons_of_mem _ (List.mem_cons_of_mem _ (List.mem_cons_of_mem _ (List.mem_cons_of_mem _ (List.mem_cons_of_mem _ (List.mem_cons_of_mem _ (List.mem_cons_of_mem _ List.mem_cons_self)))))))))))))))))))))))))))) (below_drew hb1)) hcp2.out hy1.out hy2.out)).mono fun e w2 ⟨pv, h1, h2, h3⟩ => ⟨pv, h1, h2, h3⟩
      ·have h1 : EV _ (fv 1) w1 := hp 1 (LC (by kernel_rfl))
       have h4 : (PM xy) (fv 4) w1 := hp 4 (LC (by kernel_rfl))
       refine tyAt_none rfl ?_
       refine ty_call (f := 47) (args := #[.agg #[.int .u64 ((zl qc.num : Nat) : Int), .string (zh qc.num), .bool (zs qc.num), .int .u64 ((lo (fe qc) : Nat) : Int), .string (hs (fe qc))], fv 4]) (by simp [execOp, go_sem, Act.eval, h1]) ?_
       exact (C2.out (fv 4) w1 h4).mono fun e w2 ⟨pv, h1, h2, h3⟩ => ⟨_, h1, ⟨pv, rfl, h2⟩, h3⟩
      ·have h5 : (MEp cxy 0) (fv 5) w1 := hp 5 (LC (by kernel_rfl))
       refine tyAt_none rfl ?_
       simp [tyUpon, execOp, go_sem, Act.eval, Below.refl]
       exact h5
      ·have h6 : (MEp cxy 0) (fv 6) w1 := hp 6 (LC (by kernel_rfl))
       refine tyAt_none rfl ?_
       obtain ⟨pa, pe, pz⟩ := h6
       simp [tyUpon, execOp, go_sem, Act.eval, pe, Below.refl]
       exact pz
      ·have h6 : (MEp cxy 0) (fv 6) w1 := hp 6 (LC (by kernel_rfl))
       refine tyAt_none rfl ?_
       obtain ⟨pa, pe, pz⟩ := h6
       simp [tyUpon, execOp, go_sem, Act.eval, pe, Below.refl]
      ·exact tyAt_new rfl rfl new_mat (below_drew hb1).size
     ·intro j hj u w2 hT
      simp only [List.contains_iff_mem, List.mem_cons, List.not_mem_nil, or_false] at hj
      rcases hj with rfl <;> exact NewB.ptr hT
     ·exact ⟨⟨_, _, _, _, rfl, rfl, rfl, new_mat⟩, trivial⟩
     ·intro fv wl hb1 hv
      have e0 : fv 0 = .agg #[.int .i64 qn, .int .u32 qd] := hv 0 (by omega) (by omega)
      have e1 : fv 1 = .agg #[.int .u64 ((zl qc.num : Nat) : Int), .string (zh qc.num), .bool (zs qc.num), .int .u64 ((lo (fe qc) : Nat) : Int), .string (hs (fe qc))] := hv 1 (by omega) (by omega)
      have e2 : fv 2 = .agg #[.int .i64 (da : Int), .int .i64 (db : Int), .slice g1 d1 g1c] := hv 2 (by omega) (by omega)
      have e3 : fv 3 = .agg #[.int .i64 (db : Int), .int .i64 (dc : Int), .slice g2 d2 g2c] := hv 3 (by omega) (by omega)
      obtain ⟨lg4, ld4, lc4, e4, -, -⟩ := mt_form (show MT wl (fv 4) xy from hv 4 (by omega) (by omega)) hxy1.out hxy2.out
      obtain ⟨pa5, e5, qa5⟩ := hv 5 (by omega) (by omega)
      obtain ⟨pa6, e6, qa6⟩ := hv 6 (by omega) (by omega)
      obtain ⟨lg7, ld7, lc7, e7, -, -⟩ := mt_form (show MT wl (fv 7) cxy from hv 7 (by omega) (by omega)) hcxy1.out hcxy2.out
      obtain ⟨kb9, e9, n9, m9⟩ : NewB x16.heap.size [.int .i64 0, .int .i64 0, .slice none 0 0] (fv 9) wl := hv 9 (by omega) (by omega)
      have hx0 := hL0
      replace hL0 := hL0.call (below_drew hb1)
      replace hL0 := GL.tnew (M := []) hL0 hx0 n9 m9 (fun p hp => by cases hp)
      simp only [List.cons_append, List.nil_append] at hL0
      have hA := hL0.fc
      simp only [fcG, cellsF, neK, and_true, ne_eq, Nat.zero_add, Nat.reduceAdd] at hA
      have hP := hL0.put 0 (kb9) _ rfl [.int .i64 (da : Int), .int .i64 (dc : Int), .slice lg7 ld7 lc7] rfl
      simp only [setAll, List.set_cons_zero, List.set_cons_succ] at hP
      have hB1 := hP.fc
      simp only [fcG, cellsF, neK, and_true, ne_eq, Nat.zero_add, Nat.reduceAdd] at hB1
      refine ⟨(((wl.setCell ⟨kb9, 0, none⟩ (.int .i64 (da : Int))).setCell ⟨kb9, 1, none⟩ (.int .i64 (dc : Int))).setCell ⟨kb9, 2, none⟩ (.slice lg7 ld7 lc7)), .int .i64 0, fun o ho => ?_, fun o ho => ?_, ?_⟩
      ·obtain rfl := Option.some.inj ho
       simp [execOp, go_sem, Act.eval, putsV, Act.put, List.take_succ_cons, List.take_zero, List.setIfInBounds_toArray, List.set_cons_succ, List.set_cons_zero, Nat.zero_add, Nat.reduceAdd, hA, e0, e1, e2, e3, e4, e5, e6, e7, e9]
      ·obtain rfl := Option.some.inj ho
       simp [execOp, go_sem, Act.eval, putsV, Act.put, List.take_succ_cons, List.take_zero, List.setIfInBounds_toArray, List.set_cons_succ, List.set_cons_zero, Nat.zero_add, Nat.reduceAdd, hB1, e0, e1, e2, e3, e4, e5, e6, e7, e9]
      ·rfl
     ·intro fv x17 hb1 hv hne
      have e0 : fv 0 = _ := hv 0 (by omega)
      have e1 : fv 1 = _ := hv 1 (by omega)
      have e2 : fv 2 = _ := hv 2 (by omega)
      have e3 : fv 3 = _ := hv 3 (by omega)
      have q4 : MT x17 (fv 4) xy := hv 4 (by omega)
      obtain ⟨g30, d30, g30c, e4, hm30, hcp30⟩ := mt_form q4 hxy1.out hxy2.out
      replace hcp30 := Lib.hid hcp30
      rw [e4] at q4
      obtain ⟨pa5, e5, q5⟩ := hv 5 (by omega)
      obtain ⟨pa6, e6, q6⟩ := hv 6 (by omega)
      have q7 : MT x17 (fv 7) cxy := hv 7 (by omega)
      obtain ⟨g31, d31, g31c, e7, hm31, hcp31⟩ := mt_form q7 hcxy1.out hcxy2.out
      replace hcp31 := Lib.hid hcp31
      rw [e7] at q7
      have e8 : fv 8 = _ := hv 8 (by omega)
      obtain ⟨kb9, e9, n9, m9⟩ : NewB x16.heap.size [.int .i64 0, .int .i64 0, .slice none 0 0] (fv 9) x17 := hv 9 (by omega)
      simp only [List.take_succ_cons, List.take_zero, putsV, Act.put, List.setIfInBounds_toArray, List.set_cons_succ, List.set_cons_zero, List.drop_succ_cons, List.drop_zero, Nat.zero_add, Nat.reduceAdd, e0, e1, e2, e3, e4, e5, e6, e7, e8, e9]
      have hx0 := hL0
      replace hL0 := hL0.call (below_drew hb1)
      replace hT := hT.call (below_drew hb1)
      replace hL0 := GL.tnew (M := []) hL0 hx0 n9 m9 (fun p hp => by cases hp)
      simp only [List.cons_append, List.nil_append] at hL0
      replace hT := hT.cons hm30
      clear hm30
      replace hT := hT.cons hm31
      clear hm31
      clear e0 e1 e2 e3 e4 e5 e6 e7 e8 e9 hb1 hv hne hx0 n9 m9 q4 q5 q6 q7 fv
      have hT1 := hT.putM ((((Upd.refl kb9 x17).setCell 0 (.int .i64 (da : Int))).setCell 1 (.int .i64 (dc : Int))).setCell 2 (.slice g31 d31 g31c)) (hL0.get _ _ List.mem_cons_self) (by intro n; simp)
      have hA := hL0.fc
      simp only [fcG, cellsF, neK, and_true, ne_eq, Nat.zero_add, Nat.reduceAdd] at hA
      have hP := hL0.put 0 (kb9) _ rfl [.int .i64 (da : Int), .int .i64 (dc : Int), .slice g31 d31 g31c] rfl
      simp only [setAll, List.set_cons_zero, List.set_cons_succ] at hP
      generalize hput5 : (((x17.setCell ⟨kb9, 0, none⟩ (.int .i64 (da : Int))).setCell ⟨kb9, 1, none⟩ (.int .i64 (dc : Int))).setCell ⟨kb9, 2, none⟩ (.slice g31 d31 g31c)) = x18 at hP hT1
      have hB5 := hP.fc
      simp only [fcG, cellsF, neK, and_true, ne_eq, Nat.zero_add, Nat.reduceAdd] at hB5
      replace hL0 := hP
      replace hT := hT1
      clear hT1
      go_wp2_with fail
      clear hA
      with_reducible refine Calls.mono (HVw.out _ (hKW.out.at (hL0.bl) kKW)) ?_
      rintro e x19 ⟨v0, rfl, q0, hb⟩
      replace hL0 := hL0.call hb
      replace hT := hT.call hb
      clear hb hput5 hB5
      obtain ⟨g32, d32, g32c, rfl, -⟩ := pt_form q0
      replace hT := hT.cons q0
      clear q0
      have hN0 := cells_of _ 0 [] rfl (hL0.get _ _ (List.mem_cons_of_mem _ (List.mem_cons_of_mem _ (List.mem_cons_of_mem _ (List.mem_cons_of_mem _ (List.mem_cons_of_mem _ List.mem_cons_self))))))
      simp only [cellsF, and_true, Nat.zero_add, Nat.reduceAdd] at hN0
      go_wp2_with fail
      clear hN0
      with_reducible refine Calls.mono (P1.out (.agg #[.int .i64 (db : Int), .int .i64 (dc : Int), .slice g2 d2 g2c]) (.slice g32 d32 g32c) _ (mt_of (hT.get (List.mem_cons_of_mem _ (List.mem_cons_of_mem _ (List.mem_cons_of_mem _ (List.mem_cons_of_mem _ (List.mem_cons_of_mem _ (List.mem_cons_of_mem _ (List.mem_cons_of_mem _ (List.mem_cons_of_mem _ (List.mem_cons_of_mem _ (List.mem_cons_of_mem _ (List.mem_cons_of_mem _ (List.mem_cons_of_mem _ (List.mem_cons_of_mem _ (List.mem_cons_of_mem _ (List.mem_cons_of_mem _ (List.mem_cons_of_mem _ (List.mem_cons_of_mem _ (List.mem_cons_of_mem _ (List.mem_cons_of_mem _ (List.mem_cons_of_mem _ (List.mem_cons_of_mem _ (List.mem_cons_of_mem _ (List.mem_cons_of_mem _ (List.mem_cons_of_mem _ (List.mem_cons_of_mem _ (List.mem_cons_of_mem _ (List.mem_cons_of_mem _ (List.mem_cons_of_mem _ (List.mem_cons_of_mem _ (List.mem_cons_of_mem _ List.mem_cons_self))))))))))))))))))))))))))))))) hcp2.out hy1.out hy2.out) (hT.get List.mem_cons_self)) ?_
      rintro e x20 ⟨v0, rfl, q0, hb⟩
      replace hL0 := hL0.call hb
      replace hT := hT.call hb
      clear hb
      obtain ⟨g33, g33c, rfl⟩ := ptn_form q0 lyv.out
      replace hT := hT.cons q0
      clear q0
      have hN0 := cells_of _ 0 [] rfl (hL0.get _ _ (List.mem_cons_of_mem _ (List.mem_cons_of_mem _ (List.mem_cons_of_mem _ (List.mem_cons_of_mem _ (List.mem_cons_of_mem _ (List.mem_cons_of_mem _ List.mem_cons_self)))))))
      simp only [cellsF, and_true, Nat.zero_add, Nat.reduceAdd] at hN0
      go_wp2_with fail
      clear hN0
      with_reducible refine Calls.mono (P2.out (.agg #[.int .i64 (da : Int), .int .i64 (db : Int), .slice g1 d1 g1c]) (.slice g33 db g33c) _ (mt_of (hT.get (List.mem_cons_of_mem _ (List.mem_cons_of_mem _ (List.mem_cons_of_mem _ (List.mem_cons_of_mem _ (List.mem_cons_of_mem _ (List.mem_cons_of_mem _ (List.mem_cons_of_mem _ (List.mem_cons_of_mem _ (List.mem_cons_of_mem _ (List.mem_cons_of_mem _ (List.mem_cons_of_mem _ (List.mem_cons_of_mem _ (List.mem_cons_of_mem _ (List.mem_cons_of_mem _ (List.mem_cons_of_mem _ (List.mem_cons_of_mem _ (List.mem_cons_of_mem _ (List.mem_cons_of_mem _ (List.mem_cons_of_mem _ (List.mem_cons_of_mem _ (List.mem_cons_of_mem _ (List.mem_cons_of_mem _ (List.mem_cons_of_mem _ (List.mem_cons_of_mem _ (List.mem_cons_of_mem _ (List.mem_cons_of_mem _ (List.mem_cons_of_mem _ (List.mem_cons_of_mem _ (List.mem_cons_of_mem _ (List.mem_cons_of_mem _ (List.mem_cons_of_mem _ (List.mem_cons_of_mem _ List.mem_cons_self))))))))))))))))))))))))))))))))) hcp1.out hx1.out hx2.out) (hT.get List.mem_cons_self)) ?_
      rintro e x21 ⟨v0, rfl, q0, hb⟩
      replace hL0 := hL0.call hb
      replace hT := hT.call hb
      clear hb
      obtain ⟨g34, g34c, rfl⟩ := ptn_form q0 lavp.out
      replace hT := hT.cons q0
      clear q0
      have hN0 := cells_of _ 0 [] rfl (hL0.get _ _ (List.mem_cons_of_mem _ (List.mem_cons_of_mem _ (List.mem_cons_of_mem _ (List.mem_cons_of_mem _ (List.mem_cons_of_mem _ List.mem_cons_self))))))
      simp only [cellsF, and_true, Nat.zero_add, Nat.reduceAdd] at hN0
      have hN1 := cells_of _ 0 [] rfl (hL0.get _ _ (List.mem_cons_of_mem _ (List.mem_cons_of_mem _ (List.mem_cons_of_mem _ (List.mem_cons_of_mem _ (List.mem_cons_of_mem _ (List.mem_cons_of_mem _ List.mem_cons_self)))))))
      simp only [cellsF, and_true, Nat.zero_add, Nat.reduceAdd] at hN1
      go_wp2_with fail
      clear hN0 hN1
      with_reducible refine Calls.mono (M1.out (.agg #[.int .i64 (da : Int), .int .i64 (db : Int), .slice g1 d1 g1c]) (.agg #[.int .i64 (db : Int), .int .i64 (dc : Int), .slice g2 d2 g2c]) _ (mt_of (hT.get (List.mem_cons_of_mem _ (List.mem_cons_of_mem _ (List.mem_cons_of_mem _ (List.mem_cons_of_mem _ (List.mem_cons_of_mem _ (List.mem_cons_of_mem _ (List.mem_cons_of_mem _ (List.mem_cons_of_mem _ (List.mem_cons_of_mem _ (List.mem_cons_of_mem _ (List.mem_cons_of_mem _ (List.mem_cons_of_mem _ (List.mem_cons_of_mem _ (List.mem_cons_of_mem _ (List.mem_cons_of_mem _ (List.mem_cons_of_mem _ (List.mem_cons_of_mem _ (List.mem_cons_of_mem _ (List.mem_cons_of_mem _ (List.mem_cons_of_mem _ (List.mem_cons_of_mem _ (List.mem_cons_of_mem _ (List.mem_cons_of_mem _ (List.mem_cons_of_mem _ (List.mem_cons_of_mem _ (List.mem_cons_of_mem _ (List.mem_cons_of_mem _ (List.mem_cons_of_mem _ (List.mem_cons_of_mem _ (List.mem_cons_of_mem _ (List.mem_cons_of_mem _ (List.mem_cons_of_mem _ (List.mem_cons_of_mem _ List.mem_cons_self)))))))))))))))))))))))))))))))))) hcp1.out hx1.out hx2.out) (mt_of (hT.get (List.mem_cons_of_mem _ (List.mem_cons_of_mem _ (List.mem_cons_of_mem _ (List.mem_cons_of_mem _ (List.mem_cons_of_mem _ (List.mem_cons_of_mem _ (List.mem_cons_of_mem _ (List.mem_cons_of_mem _ (List.mem_cons_of_mem _ (List.mem_cons_of_mem _ (List.mem_cons_of_mem _ (List.mem_cons_of_mem _ (List.mem_cons_of_mem _ (List.mem_cons_of_mem _ (List.mem_cons_of_mem _ (List.mem_cons_of_mem _ (List.mem_cons_of_mem _ (List.mem_cons_of_mem _ (List.mem_cons_of_mem _ (List.mem_cons_of_mem _ (List.mem_cons_of_mem _ (List.mem_cons_of_mem _ (List.mem_cons_of_mem _ (List.mem_cons_of_mem _ (List.mem_cons_of_mem _ (List.mem_cons_of_mem _ (List.mem_cons_of_mem _ (List.mem_cons_of_mem _ (List.mem_cons_of_mem _ (List.mem_cons_of_mem _ (List.mem_cons_of_mem _ (List.mem_cons_of_mem _ List.mem_cons_self))))))))))))))))))))))))))))))))) hcp2.out hy1.out hy2.out)) ?_
      rintro e x22 ⟨v0, rfl, q0, hb⟩
      replace hL0 := hL0.call hb
      replace hT := hT.call hb
      clear hb
      obtain ⟨g35, d35, g35c, rfl, hm32, hcp32⟩ := mt_form q0 hxy1.out hxy2.out
      replace hcp32 := Lib.hid hcp32
      replace hT := hT.cons hm32
      clear hm32
      clear q0
      go_wp2_with fail
      with_reducible refine Calls.mono (P3.out (.agg #[.int .i64 (da : Int), .int .i64 (dc : Int), .slice g35 d35 g35c]) (.slice g32 d32 g32c) _ (mt_of (hT.get List.mem_cons_self) hcp32.out hxy1.out hxy2.out) (hT.get (List.mem_cons_of_mem _ (List.mem_cons_of_mem _ (List.mem_cons_of_mem _ List.mem_cons_self))))) ?_
      rintro e x23 ⟨v0, rfl, q0, hb⟩
      replace hL0 := hL0.call hb
      replace hT := hT.call hb
      clear hb
      obtain ⟨g36, g36c, rfl⟩ := ptn_form q0 lavp.out
      replace hT := hT.cons q0
      clear q0
      go_upto_region 17 with fail
      refine region_tl 40 [EV (.int .i64 0), EV (.bool true), EV (.bool true), EV (.int .i64 0), EV (.bool true), EV (.bool true), EV (.bool true), EV (.agg #[.int .i64 (da : Int), .int .i64 (db : Int), .slice g29 d29 g29c]), EV (.agg #[.int .i64 (db : Int), .int .i64 (dc : Int), .slice g2 d2 g2c]), PM cxy, EV (.agg #[.int .i64 (da : Int), .int .i64 (dc : Int), .slice g31 d31 g31c]), EV (.bool true), EV (.bool true), EV (.bool true), EV (.int .i64 0), EV (.bool true), EV (.bool true), EV (.bool true), EV (.int .i64 0), EV (.bool true), EV (.bool true), EV (.bool true), EV (.int .i64 0), EV (.bool true), EV (.bool true), EV (.bool true), EV (.slice g36 da g36c), EV (.int .i64 (da : Int)), EV (.int .i64 (da : Int)), EV (.bool true), EV (.bool true), EV (.bool true), EV (.slice g34 da g34c), EV (.slice g36 da g36c), EV (.bool true), EV (.bool true), EV (.bool true), EV (.bool true), EV (.bool true), EV (.bool true)] (by kernel_rfl) (by kernel_rfl) ?_ ?_ ?_
      ·exact stays_cons (stays_eq _) (stays_cons (stays_eq _) (stays_cons (stays_eq _) (stays_cons (stays_eq _) (stays_cons (stays_eq _) (stays_cons (stays_eq _) (stays_cons (stays_eq _) (stays_cons (stays_eq _) (stays_cons (stays_eq _) (stays_cons (stays_pm _) (stays_cons (stays_eq _) (stays_cons (stays_eq _) (stays_cons (stays_eq _) (stays_cons (stays_eq _) (stays_cons (stays_eq _) (stays_cons (stays_eq _) (stays_cons (stays_eq _) (stays_cons (stays_eq _) (stays_cons (stays_eq _) (stays_cons (stays_eq _) (stays_cons (stays_eq _) (stays_cons (stays_eq _) (stays_cons (stays_eq _) (stays_cons (stays_eq _) (stays_cons (stays_eq _) (stays_cons (stays_eq _) (stays_cons (stays_eq _) (stays_cons (stays_eq _) (stays_cons (stays_eq _) (stays_cons (stays_eq _) (stays_cons (stays_eq _) (stays_cons (stays_eq _) (stays_cons (stays_eq _) (stays_cons (stays_eq _) (stays_cons (stays_eq _) (stays_cons (stays_eq _) (stays_cons (stays_eq _) (stays_cons (stays_eq _) (stays_cons (stays_eq _) (stays_cons (stays_eq _) (stays_nil))))))))))))))))))))))))))))))))))))))))
      ·simp only [List.take_succ_cons, List.take_zero, hopsR, and_true]
       refine ⟨?_, ?_, ?_, ?_, ?_, ?_, ?_, ?_, ?_, ?_, ?_, ?_, ?_, ?_, ?_, ?_, ?_, ?_, ?_, ?_, ?_, ?_, ?_, ?_, ?_, ?_, ?_, ?_, ?_, ?_, ?_, ?_, ?_, ?_, ?_, ?_, ?_, ?_, ?_, ?_⟩ <;> intro fv w1 hb1 hp
       all_goals (simp only [putsV, Act.put, List.setIfInBounds_toArray, List.set_cons_succ, List.set_cons_zero, Nat.zero_add, Nat.reduceAdd])
       ·refine tyAt_none rfl ?_
        simp [tyUpon, execOp, go_sem, Act.eval, Below.refl]
       ·have h0 : EV _ (fv 0) w1 := hp 0 (LC (by kernel_rfl))
        refine tyAt_none rfl ?_
        simp [tyUpon, execOp, go_sem, Act.eval, h0, Below.refl]
       ·have h1 : EV _ (fv 1) w1 := hp 1 (LC (by kernel_rfl))
        refine tyAt_none rfl ?_
        simp [tyUpon, execOp, go_sem, Act.eval, h1, Below.refl]
       ·have h2 : EV _ (fv 2) w1 := hp 2 (LC (by kernel_rfl))
        refine tyAt_yes (by simp [Region.wanted, yielded, h2]) ?_
        simp [tyUpon, execOp, go_sem, Act.eval, h2, Below.refl]
       ·have h3 : EV _ (fv 3) w1 := hp 3 (LC (by kernel_rfl))
        have h2 : EV _ (fv 2) w1 := hp 2 (LC (by kernel_rfl))
        refine tyAt_yes (by simp [Region.wanted, yielded, h3, h2]) ?_
        simp [tyUpon, execOp, go_sem, Act.eval, h3, h2, Below.refl]
       ·have h2 : EV _ (fv 2) w1 := hp 2 (LC (by kernel_rfl))
        have h4 : EV _ (fv 4) w1 := hp 4 (LC (by kernel_rfl))
        refine tyAt_none rfl ?_
        simp [tyUpon, execOp, go_sem, Act.eval, h2, h4, Below.refl]
       ·have h5 : EV _ (fv 5) w1 := hp 5 (LC (by kernel_rfl))
        refine tyAt_none rfl ?_
        simp [tyUpon, execOp, go_sem, Act.eval, h5, Below.refl]
       ·have h6 : EV _ (fv 6) w1 := hp 6 (LC (by kernel_rfl))
        refine tyAt_yes (by simp [Region.wanted, yielded, h6]) ?_
        have hc := (hL0.call (below_drew hb1)).fc
        simp only [fcG, cellsF, neK, and_true, ne_eq, Nat.zero_add, Nat.reduceAdd] at hc
        simp [tyUpon, execOp, go_sem, Act.eval, hc, h6, Below.refl]
       ·have h6 : EV _ (fv 6) w1 := hp 6 (LC (by kernel_rfl))
        refine tyAt_yes (by simp [Region.wanted, yielded, h6]) ?_
        have hc := (hL0.call (below_drew hb1)).fc
        simp only [fcG, cellsF, neK, and_true, ne_eq, Nat.zero_add, Nat.reduceAdd] at hc
        simp [tyUpon, execOp, go_sem, Act.eval, hc, h6, Below.refl]
       ·have h7 : EV _ (fv 7) w1 := hp 7 (LC (by kernel_rfl))
        have h8 : EV _ (fv 8) w1 := hp 8 (LC (by kernel_rfl))
        have h6 : EV _ (fv 6) w1 := hp 6 (LC (by kernel_rfl))
        refine tyAt_yes (by simp [Region.wanted, yielded, h7, h8, h6]) ?_
        refine ty_call (f := 68) (args := #[.agg #[.int .i64 (da : Int), .int .i64 (db : Int), .slice g29 d29 g29c], .agg #[.int .i64 (db : Int), .int .i64 (dc : Int), .slice g2 d2 g2c]]) (by simp [execOp, go_sem, Act.eval, h7, h8, h6]) ?_
        exact (Mb.out (.agg #[.int .i64 (da : Int), .int .i64 (db : Int), .slice g29 d29 g29c]) (.agg #[.int .i64 (db : Int), .int .i64 (dc : Int), .slice g2 d2 g2c]) w1 (mt_of (PT.below (hT.get (List.mem_cons_of_mem _ (List.mem_cons_of_mem _ (List.mem_cons_of_mem _ (List.mem_cons_of_mem _ (List.mem_cons_of_mem _ (List.mem_cons_of_mem _ (List.mem_cons_of_mem _ List.mem_cons_self)))))))) (below_drew hb1)) hcp29.out hcx1.out hcx2.out) (mt_of (PT.below (hT.get (List.mem_cons_of_mem _ (List.mem_cons_of_mem _ (List.mem_cons_of_mem _ (List.mem_cons_of_mem _ (List.mem_cons_of_mem _ (List.mem_cons_of_mem _ (List.mem_cons_of_mem _ (List.mem_cons_of_mem _ (List.mem_cons_of_mem _ (List.mem_cons_of_mem _ (List.mem_cons_of_mem _ (List.mem_cons_of_mem _ (List.mem_cons_of_mem _ (List.mem_cons_of_mem _ (List.mem_cons_of_mem _ (List.mem_cons_of_mem _ (List.mem_cons_of_mem _ (List.mem_cons_of_mem _ (List.mem_cons_of_mem _ (List.mem_cons_of_mem _ (List.mem_cons_of_mem _ (List.mem_cons_of_mem _ (List.mem_cons_of_mem _ (List.mem_cons_of_mem _ (List.mem_cons_of_mem _ (List.mem_cons_of_mem _ (List.mem_cons_of_mem _ (List.mem_cons_of_mem _ (List.mem_cons_of_mem _ (List.mem_cons_of_mem _ (List.mem_cons_of_mem _ (List.mem_cons_of_mem _ (List.mem_cons_of_mem _ (List.mem_cons_of_mem _ List.mem_cons_self))))))))))))))))))))))))))))))))))) (below_drew hb1)) hcp2.out hy1.out hy2.out)).mono fun e w2 ⟨pv, h1, h2, h3⟩ => ⟨pv, h1, h2, h3⟩
       ·have h6 : EV _ (fv 6) w1 := hp 6 (LC (by kernel_rfl))
        refine tyAt_yes (by simp [Region.wanted, yielded, h6]) ?_
        have hc := (hL0.call (below_drew hb1)).fc
        simp only [fcG, cellsF, neK, and_true, ne_eq, Nat.zero_add, Nat.reduceAdd] at hc
        simp [tyUpon, execOp, go_sem, Act.eval, hc, h6, Below.refl]
       ·have h9 : (PM cxy) (fv 9) w1 := hp 9 (LC (by kernel_rfl))
        have h10 : EV _ (fv 10) w1 := hp 10 (LC (by kernel_rfl))
        have h6 : EV _ (fv 6) w1 := hp 6 (LC (by kernel_rfl))
        refine tyAt_yes (by simp [Region.wanted, yielded, h10, h6]) ?_
        refine ty_call (f := 67) (args := #[fv 9, .agg #[.int .i64 (da : Int), .int .i64 (dc : Int), .slice g31 d31 g31c]]) (by simp [execOp, go_sem, Act.eval, h10, h6]) ?_
        exact (S7.out (fv 9) (.agg #[.int .i64 (da : Int), .int .i64 (dc : Int), .slice g31 d31 g31c]) w1 h9 (mt_of (PT.below (hT.get (List.mem_cons_of_mem _ (List.mem_cons_of_mem _ (List.mem_cons_of_mem _ (List.mem_cons_of_mem _ (List.mem_cons_of_mem _ List.mem_cons_self)))))) (below_drew hb1)) hcp31.out hcxy1.out hcxy2.out)).mono fun e w2 ⟨h1, h2⟩ => ⟨_, h1, rfl, h2⟩
       ·have h6 : EV _ (fv 6) w1 := hp 6 (LC (by kernel_rfl))
        have h11 : EV _ (fv 11) w1 := hp 11 (LC (by kernel_rfl))
        refine tyAt_none rfl ?_
        simp [tyUpon, execOp, go_sem, Act.eval, h6, h11, Below.refl]
       ·have h12 : EV _ (fv 12) w1 := hp 12 (LC (by kernel_rfl))
        refine tyAt_none rfl ?_
        simp [tyUpon, execOp, go_sem, Act.eval, h12, Below.refl]
       ·have h13 : EV _ (fv 13) w1 := hp 13 (LC (by kernel_rfl))
        refine tyAt_yes (by simp [Region.wanted, yielded, h13]) ?_
        simp [tyUpon, execOp, go_sem, Act.eval, h13, Below.refl]
       ·have h14 : EV _ (fv 14) w1 := hp 14 (LC (by kernel_rfl))
        have h13 : EV _ (fv 13) w1 := hp 13 (LC (by kernel_rfl))
        refine tyAt_yes (by simp [Region.wanted, yielded, h14, h13]) ?_
        simp [tyUpon, execOp, go_sem, Act.eval, h14, h13, Below.refl]
       ·have h13 : EV _ (fv 13) w1 := hp 13 (LC (by kernel_rfl))
        have h15 : EV _ (fv 15) w1 := hp 15 (LC (by kernel_rfl))
        refine tyAt_none rfl ?_
        simp [tyUpon, execOp, go_sem, Act.eval, h13, h15, Below.refl]
       ·have h16 : EV _ (fv 16) w1 := hp 16 (LC (by kernel_rfl))
        refine tyAt_none rfl ?_
        simp [tyUpon, execOp, go_sem, Act.eval, h16, Below.refl]
       ·have h17 : EV _ (fv 17) w1 := hp 17 (LC (by kernel_rfl))
        refine tyAt_yes (by simp [Region.wanted, yielded, h17]) ?_
        simp [tyUpon, execOp, go_sem, Act.eval, h17, Below.refl]
       ·have h18 : EV _ (fv 18) w1 := hp 18 (LC (by kernel_rfl))
        have h17 : EV _ (fv 17) w1 := hp 17 (LC (by kernel_rfl))
        refine tyAt_yes (by simp [Region.wanted, yielded, h18, h17]) ?_
        simp [tyUpon, execOp, go_sem, Act.eval, h18, h17, Below.refl]
       ·have h17 : EV _ (fv 17) w1 := hp 17 (LC (by kernel_rfl))
        have h19 : EV _ (fv 19) w1 := hp 19 (LC (by kernel_rfl))
        refine tyAt_none rfl ?_
        simp [tyUpon, execOp, go_sem, Act.eval, h17, h19, Below.refl]
       ·have h20 : EV _ (fv 20) w1 := hp 20 (LC (by kernel_rfl))
        refine tyAt_none rfl ?_
        simp [tyUpon, execOp, go_sem, Act.eval, h20, Below.refl]
       ·have h21 : EV _ (fv 21) w1 := hp 21 (LC (by kernel_rfl))
        refine tyAt_yes (by simp [Region.wanted, yielded, h21]) ?_
        simp [tyUpon, execOp, go_sem, Act.eval, h21, Below.refl]
       ·have h22 : EV _ (fv 22) w1 := hp 22 (LC (by kernel_rfl))
        have h21 : EV _ (fv 21) w1 := hp 21 (LC (by kernel_rfl))
        refine tyAt_yes (by simp [Region.wanted, yielded, h22, h21]) ?_
        simp [tyUpon, execOp, go_sem, Act.eval, h22, h21, Below.refl]
       ·have h21 : EV _ (fv 21) w1 := hp 21 (LC (by kernel_rfl))
        have h23 : EV _ (fv 23) w1 := hp 23 (LC (by kernel_rfl))
        refine tyAt_none rfl ?_
        simp [tyUpon, execOp, go_sem, Act.eval, h21, h23, Below.refl]
       ·have h24 : EV _ (fv 24) w1 := hp 24 (LC (by kernel_rfl))
        refine tyAt_none rfl ?_
        simp [tyUpon, execOp, go_sem, Act.eval, h24, Below.refl]
       ·have h25 : EV _ (fv 25) w1 := hp 25 (LC (by kernel_rfl))
        refine tyAt_yes (by simp [Region.wanted, yielded, h25]) ?_
        simp [tyUpon, execOp, go_sem, Act.eval, h25, Below.refl]
       ·have h26 : EV _ (fv 26) w1 := hp 26 (LC (by kernel_rfl))
        have h25 : EV _ (fv 25) w1 := hp 25 (LC (by kernel_rfl))
        refine tyAt_yes (by simp [Region.wanted, yielded, h26, h25]) ?_
        simp [tyUpon, execOp, go_sem, Act.eval, h26, h25, Below.refl]
       ·have h25 : EV _ (fv 25) w1 := hp 25 (LC (by kernel_rfl))
        refine tyAt_yes (by simp [Region.wanted, yielded, h25]) ?_
        simp [tyUpon, execOp, go_sem, Act.eval, h25, Below.refl]
       ·have h27 : EV _ (fv 27) w1 := hp 27 (LC (by kernel_rfl))
        have h28 : EV _ (fv 28) w1 := hp 28 (LC (by kernel_rfl))
        have h25 : EV _ (fv 25) w1 := hp 25 (LC (by kernel_rfl))
        refine tyAt_yes (by simp [Region.wanted, yielded, h27, h28, h25]) ?_
        simp [tyUpon, execOp, go_sem, Act.eval, h27, h28, h25, Below.refl]
       ·have h25 : EV _ (fv 25) w1 := hp 25 (LC (by kernel_rfl))
        have h29 : EV _ (fv 29) w1 := hp 29 (LC (by kernel_rfl))
        refine tyAt_none rfl ?_
        simp [tyUpon, execOp, go_sem, Act.eval, h25, h29, Below.refl]
       ·have h30 : EV _ (fv 30) w1 := hp 30 (LC (by kernel_rfl))
        refine tyAt_none rfl ?_
        simp [tyUpon, execOp, go_sem, Act.eval, h30, Below.refl]
       ·have h31 : EV _ (fv 31) w1 := hp 31 (LC (by kernel_rfl))
        refine tyAt_yes (by simp [Region.wanted, yielded, h31]) ?_
        simp [tyUpon, execOp, go_sem, Act.eval, h31, Below.refl]
       ·have h31 : EV _ (fv 31) w1 := hp 31 (LC (by kernel_rfl))
        refine tyAt_yes (by simp [Region.wanted, yielded, h31]) ?_
        simp [tyUpon, execOp, go_sem, Act.eval, h31, Below.refl]
       ·have h32 : EV _ (fv 32) w1 := hp 32 (LC (by kernel_rfl))
        have h33 : EV _ (fv 33) w1 := hp 33 (LC (by kernel_rfl))
        have h31 : EV _ (fv 31) w1 := hp 31 (LC (by kernel_rfl))
        refine tyAt_yes (by simp [Region.wanted, yielded, h32, h33, h31]) ?_
        refine ty_call (f := 32) (args := #[.slice g34 da g34c, .slice g36 da g36c]) (by simp [execOp, go_sem, Act.eval, h32, h33, h31]) ?_
        exact (S8.out (.slice g34 da g34c) (.slice g36 da g36c) w1 (PT.below (hT.get (List.mem_cons_of_mem _ (List.mem_cons_of_mem _ List.mem_cons_self))) (below_drew hb1)) (PT.below (hT.get List.mem_cons_self) (below_drew hb1))).mono fun e w2 ⟨h1, h2⟩ => ⟨_, h1, rfl, h2⟩
       ·have h31 : EV _ (fv 31) w1 := hp 31 (LC (by kernel_rfl))
        have h34 : EV _ (fv 34) w1 := hp 34 (LC (by kernel_rfl))
        refine tyAt_none rfl ?_
        simp [tyUpon, execOp, go_sem, Act.eval, h31, h34, Below.refl]
       ·have h35 : EV _ (fv 35) w1 := hp 35 (LC (by kernel_rfl))
        refine tyAt_none rfl ?_
        simp [tyUpon, execOp, go_sem, Act.eval, h35, Below.refl]
       ·have h36 : EV _ (fv 36) w1 := hp 36 (LC (by kernel_rfl))
        refine tyAt_yes (by simp [Region.wanted, yielded, h36]) ?_
        refine ty_call (f := 41) (args := #[]) (by simp [execOp, go_sem, Act.eval, h36]) ?_
        exact (HW.out w1 (hKT.out.at ((hL0.call (below_drew hb1)).bl) kKT)).mono fun e w2 ⟨h1, h2⟩ => ⟨_, h1, rfl, h2⟩
       ·have h36 : EV _ (fv 36) w1 := hp 36 (LC (by kernel_rfl))
        have h37 : EV _ (fv 37) w1 := hp 37 (LC (by kernel_rfl))
        refine tyAt_none rfl ?_
        simp [tyUpon, execOp, go_sem, Act.eval, h36, h37, Below.refl]
       ·have h38 : EV _ (fv 38) w1 := hp 38 (LC (by kernel_rfl))
        refine tyAt_none rfl ?_
        simp [tyUpon, execOp, go_sem, Act.eval, h38, Below.refl]
      ·intro fv x24 hb1 hv
       have e0 : fv 0 = _ := hv 0 (by omega)
       have e1 : fv 1 = _ := hv 1 (by omega)
       have e2 : fv 2 = _ := hv 2 (by omega)
       have e3 : fv 3 = _ := hv 3 (by omega)
       have e4 : fv 4 = _ := hv 4 (by omega)
       have e5 : fv 5 = _ := hv 5 (by omega)
       have e6 : fv 6 = _ := hv 6 (by omega)
       have e7 : fv 7 = _ := hv 7 (by omega)
       have e8 : fv 8 = _ := hv 8 (by omega)
       have q9 : MT x24 (fv 9) cxy := hv 9 (by omega)
       obtain ⟨g37, d37, g37c, e9, hm33, hcp33⟩ := mt_form q9 hcxy1.out hcxy2.out
       replace hcp33 := Lib.hid hcp33
       rw [e9] at q9
       have e10 : fv 10 = _ := hv 10 (by omega)
       have e11 : fv 11 = _ := hv 11 (by omega)
       have e12 : fv 12 = _ := hv 12 (by omega)
       have e13 : fv 13 = _ := hv 13 (by omega)
       have e14 : fv 14 = _ := hv 14 (by omega)
       have e15 : fv 15 = _ := hv 15 (by omega)
       have e16 : fv 16 = _ := hv 16 (by omega)
       have e17 : fv 17 = _ := hv 17 (by omega)
       have e18 : fv 18 = _ := hv 18 (by omega)
       have e19 : fv 19 = _ := hv 19 (by omega)
       have e20 : fv 20 = _ := hv 20 (by omega)
       have e21 : fv 21 = _ := hv 21 (by omega)
       have e22 : fv 22 = _ := hv 22 (by omega)
       have e23 : fv 23 = _ := hv 23 (by omega)
       have e24 : fv 24 = _ := hv 24 (by omega)
       have e25 : fv 25 = _ := hv 25 (by omega)
       have e26 : fv 26 = _ := hv 26 (by omega)
       have e27 : fv 27 = _ := hv 27 (by omega)
       have e28 : fv 28 = _ := hv 28 (by omega)
       have e29 : fv 29 = _ := hv 29 (by omega)
       have e30 : fv 30 = _ := hv 30 (by omega)
       have e31 : fv 31 = _ := hv 31 (by omega)
       have e32 : fv 32 = _ := hv 32 (by omega)
       have e33 : fv 33 = _ := hv 33 (by omega)
       have e34 : fv 34 = _ := hv 34 (by omega)
       have e35 : fv 35 = _ := hv 35 (by omega)
       have e36 : fv 36 = _ := hv 36 (by omega)
       have e37 : fv 37 = _ := hv 37 (by omega)
       have e38 : fv 38 = _ := hv 38 (by omega)
       have e39 : fv 39 = _ := hv 39 (by omega)
       simp only [List.take_succ_cons, List.take_zero, putsV, Act.put, List.setIfInBounds_toArray, List.set_cons_succ, List.set_cons_zero, List.drop_succ_cons, List.drop_zero, Nat.zero_add, Nat.reduceAdd, e0, e1, e2, e3, e4, e5, e6, e7, e8, e9, e10, e11, e12, e13, e14, e15, e16, e17, e18, e19, e20, e21, e22, e23, e24, e25, e26, e27, e28, e29, e30, e31, e32, e33, e34, e35, e36, e37, e38, e39]
       replace hL0 := hL0.call (below_drew hb1)
       replace hT := hT.call (below_drew hb1)
       replace hT := hT.cons hm33
       clear hm33
       clear e0 e1 e2 e3 e4 e5 e6 e7 e8 e9 e10 e11 e12 e13 e14 e15 e16 e17 e18 e19 e20 e21 e22 e23 e24 e25 e26 e27 e28 e29 e30 e31 e32 e33 e34 e35 e36 e37 e38 e39 hb1 hv q9 fv
       go_wp2_with fail
       exact bodyPost_ret (v := .bool true) (by simp [results, Tryz.results7, go_sem]) rfl ⟨rfl, hL0.bl⟩
end Go.Proofs.YthkodldppaccmaaGreatDoor
namespace Go.Proofs.YthkodldppaccmaaGreatDoor
open Go.RowKit
attribute [local irreducible] lo hs sm s64 c64 d64 b64 mh ml pd pc qd qc val hiB str cmpI srD lz nb zl zh zs fe qmade
section
variable {x y r : Mx} {n k p K M N : Nat}
end
set_option maxHeartbeats 4000000 in
set_option maxRecDepth 10000 in
theorem mring_any (q : Int × Int) (hq : QR q) (l1 l2 l3 l4 : List (Int × Int)) (x1 y1 x2 y2 x3 y3 : Int) (a1 a2 a3 a4 : Option Addr) (n1 c1 n2 c2 n3 c3 n4 c4 : Nat) (zn zk zp : Int) (b5 : 0 ≤ zn) (b6 : 0 ≤ zk) (b7 : 0 ≤ zp) (b8 : 0 ≤ y3) (w : World)
  (h1 : QV w (.slice a1 n1 c1) l1) (h2 : QV w (.slice a2 n2 c2) l2) (h3 : QV w (.slice a3 n3 c3) l3) (h4 : QV w (.slice a4 n4 c4) l4) (ht : Tab w) :
  Calls Tryz.prog 7 #[.agg #[.int .i64 q.1, .int .u32 q.2], .agg #[.int .u8 x1, .int .u8 y1, .slice a1 n1 c1], .agg #[.int .u8 x2, .int .u8 y2, .slice a2 n2 c2], .agg #[.int .u8 x3, .int .u8 y3, .slice a3 n3 c3], .slice a4 n4 c4, .int .u8 zn, .int .u8 zk, .int .u8 zp] w fun e w' => e = .returned (.bool true) ∧ Below w.heap.size w w' := by
 by_cases g1 : n1 ≤ 40 ∧ n2 ≤ 40 ∧ n3 ≤ 40
 case neg => exact mring_l1 q.1 q.2 x1 y1 x2 y2 x3 y3 zn zk zp a1 a2 a3 a4 n1 c1 n2 c2 n3 c3 n4 c4 (fun v w h => few_any [n1, n2, n3] false ⟨(fun h => by cases h), fun h => absurd ⟨h n1 (by simp), h n2 (by simp), h n3 (by simp)⟩ g1⟩ (by simp) v w h) Tab Keeps.tab mworks_any w ht
 obtain ⟨m1, m2, m3⟩ := g1
 have HF := fun (v : Value) (w : World) (h : FWs w v [n1, n2, n3]) => few_any [n1, n2, n3] true ⟨fun _ l hl => by
  simp only [List.mem_cons, List.not_mem_nil, or_false] at hl
  rcases hl with rfl | rfl | rfl <;> assumption, fun _ => rfl⟩ (by simp) v w h
 by_cases g2 : 20 < n4
 ·exact mring_l2 q.1 q.2 x1 y1 x2 y2 x3 y3 zn zk zp a1 a2 a3 a4 n1 c1 n2 c2 n3 c3 n4 c4 HF Tab Keeps.tab mworks_any (decide_eq_true (by omega)) (decide_eq_true g2) w ht
 obtain ⟨da, ea, da4⟩ := t5 b5
 obtain ⟨db, eb, db4⟩ := t5 b6
 obtain ⟨dc, ec, dc4⟩ := t5 b7
 obtain ⟨dd, ed, dd4⟩ := t5 b8
 have gx := someM_gm (qv_rg h1) da db
 have gy := someM_gm (qv_rg h2) db dc
 have gz := someM_gm (qv_rg h3) dc dd
 have go := someM_gm (qv_rg h3) db dc
 have HSa := fun w hv => msome_w l1 da db n1 x1 y1 a1 c1 (by omega) (by omega) (by omega) w hv
 have HSb := fun w hv => msome_w l2 db dc n2 x2 y2 a2 c2 (by omega) (by omega) (by omega) w hv
 have HSc := fun w hv => msome_w l3 dc dd n3 x3 y3 a3 c3 (by omega) (by omega) (by omega) w hv
 have HSd := fun w hv => msome_w l3 db dc n3 x3 y3 a3 c3 (by omega) (by omega) (by omega) w hv
 have HVw := fun w hv => mvec_w l4 dc n4 (by omega) (qv_len h4) (by omega) (.slice a4 n4 c4) w hv
 have gv := vecM_gv (qv_rg h4) dc
 generalize someM l1 da db = x at gx HSa
 generalize someM l2 db dc = y at gy HSb
 generalize someM l3 dc dd = z at gz HSc
 generalize someM l3 db dc = ot at go HSd
 generalize vecM l4 dc = vw at gv HVw
 have sq := qm_sz hq
 have HQ := fun w => qmof hq w
 generalize qm q = qc at sq HQ
 have gn := GM.one db
 have gxy := (gx.mul gy).mono (show db * (1 + 1 + 1) + 1 ≤ 13 by omega)
 have gxyz := (gxy.mul gz).mono (show dc * (13 + 1 + 1) + 1 ≤ 61 by omega)
 have gyz := (gy.mul gz).mono (show dc * (1 + 1 + 1) + 1 ≤ 13 by omega)
 have gyo := gy.sum go
 have gxyo := (gx.mul gyo).mono (show db * (1 + (1 + 1 + 1) + 1) + 1 ≤ 21 by omega)
 have gxo := (gx.mul go).mono (show db * (1 + 1 + 1) + 1 ≤ 13 by omega)
 have gtxy := gxy.tur
 have gty := gy.tur
 have gtx := gx.tur
 have gxx := gx.sum gx
 have gxxy := (gxx.mul gy).mono (show db * ((1 + 1 + 1) + 1 + 1) + 1 ≤ 21 by omega)
 have gcx := GM.sca sq gx
 have gcxy := GM.sca sq gxy
 have gyv := (gy.app gv).mono (show dc * (1 + 1 + 1) + 1 ≤ 13 by omega)
 have gav := (gx.app gyv).mono (show db * (1 + 13 + 1) + 1 ≤ 61 by omega)
 refine mring_w q.1 q.2 x1 y1 x2 y2 x3 y3 zn zk zp a1 a2 a3 a4 n1 c1 n2 c2 n3 c3 n4 c4 da db dc dd x y z ot (oneM db) (mulM da db dc x y) (mulM da dc dd (mulM da db dc x y) z) (mulM db dc dd y z) (sumM db dc y ot) (mulM da db dc x (sumM db dc y ot)) (mulM da db dc x ot) (turM da dc (mulM da db dc x y)) (turM db dc y) (turM da db x) (sumM da db x x) (mulM da db dc (sumM da db x x) y) (scaM da db qc x) (scaM da dc qc (mulM da db dc x y)) vw (appV db dc y vw) (appV da db x (appV db dc y vw)) qc
  HF (fun w => QV w (.slice a1 n1 c1) l1) (QV.keeps _ _) HSa (fun w => QV w (.slice a2 n2 c2) l2) (QV.keeps _ _) HSb (fun w => QV w (.slice a3 n3 c3) l3) (QV.keeps _ _) HSc HSd
  (fun w => MOneG db (by omega) w)
  (fun u v w h g => lmulG gx gy (by omega) (by omega) (by omega) (by omega) (by omega) rfl u v w h g)
  (fun u v w h g => lmulG gxy gz (by omega) (by omega) (by omega) (by omega) (by omega) rfl u v w h g)
  (fun u v w h g => lmulG gy gz (by omega) (by omega) (by omega) (by omega) (by omega) rfl u v w h g)
  (fun u v w h g => lmulG gx gyz (by omega) (by omega) (by omega) (by omega) (by omega) (mul_assocM da db dc dd x y z) u v w h g)
  (fun u v w h g => MSameT gxyz (by omega) (by omega) u v w h g)
  (fun u v w h g => lmaddG gy go (by omega) (by omega) (by omega) (by omega) rfl u v w h g)
  (fun u v w h g => lmulG gx gyo (by omega) (by omega) (by omega) (by omega) (by omega) rfl u v w h g)
  (fun u v w h g => lmulG gx go (by omega) (by omega) (by omega) (by omega) (by omega) rfl u v w h g)
  (fun u v w h g => lmaddG gxy gxo (by omega) (by omega) (by omega) (by omega) (mul_addM da db dc x y ot) u v w h g)
  (fun u v w h g => MSameT gxyo (by omega) (by omega) u v w h g)
  (fun u v w h g => lmulG gx gn (by omega) (by omega) (by omega) (by omega) (by omega) (mul_oneM gx) u v w h g)
  (fun u v w h g => MSameT gx (by omega) (by omega) u v w h g)
  (fun u v w h g => lmulG gn gy (by omega) (by omega) (by omega) (by omega) (by omega) (one_mulM gy) u v w h g)
  (fun u v w h g => MSameT gy (by omega) (by omega) u v w h g)
  (fun u w h => lturnG gxy (by omega) (by omega) rfl u w h)
  (fun u w h => lturnG gy (by omega) (by omega) rfl u w h)
  (fun u w h => lturnG gx (by omega) (by omega) rfl u w h)
  (fun u v w h g => lmulG gty gtx (by omega) (by omega) (by omega) (by omega) (by omega) (tur_mulM da db dc x y) u v w h g)
  (fun u v w h g => MSameT gtxy (by omega) (by omega) u v w h g)
  (fun u w h => lturnG gtx (by omega) (by omega) (tur_turM gx) u w h)
  (fun u v w h g => lmaddG gx gx (by omega) (by omega) (by omega) (by omega) rfl u v w h g)
  (fun u v w h g => lmulG gxx gy (by omega) (by omega) (by omega) (by omega) (by omega) rfl u v w h g)
  (fun u v w h g => lmaddG gxy gxy (by omega) (by omega) (by omega) (by omega) (add_mulM da db dc x x y) u v w h g)
  (fun u v w h g => MSameT gxxy (by omega) (by omega) u v w h g)
  HQ
  (fun u w h => MScaleG sq gx (by omega) (by omega) (by omega) (by omega) u w h)
  (fun u w h => MScaleG sq gxy (by omega) (by omega) (by omega) (by omega) u w h)
  (fun w => QV w (.slice a4 n4 c4) l4) (QV.keeps _ _) HVw
  (fun u v w h g => MApplyG gy gv (by omega) (by omega) (by omega) (by omega) u v w h g)
  (fun u v w h g => MApplyG gx gyv (by omega) (by omega) (by omega) (by omega) u v w h g)
  (fun u v w h g => by have := MApplyG gxy gv (by omega) (by omega) (by omega) (by omega) u v w h g; rwa [← app_mulM] at this)
  (fun u v w h g => lmulG gcx gy (by omega) (by omega) (by omega) (by omega) (by omega) (sca_mulM da db dc qc x y) u v w h g)
  (fun u v w h g => MSameT gcxy (by omega) (by omega) u v w h g)
  (fun u v w h g => sameT gav (by omega) u v w h g)
  Tab Keeps.tab mworks_any
  (decide_eq_false (by omega)) (decide_eq_false g2) ea eb ec ed
  (ri gx) (ri gy) (ri gz) (ri go) (ri gn) (ri gxy) (ri gxyz) (ri gyz) (ri gyo) (ri gxyo) (ri gxo) (ri gtxy) (ri gty) (ri gtx) (ri gxx) (ri gxxy) (ri gcx) (ri gcxy)
  (ci gx) (ci gy) (ci gz) (ci go) (ci gn) (ci gxy) (ci gxyz) (ci gyz) (ci gyo) (ci gxyo) (ci gxo) (ci gtxy) (ci gty) (ci gtx) (ci gxx) (ci gxxy) (ci gcx) (ci gcxy)
  gav.len gyv.len (by omega) (by omega) (by omega) (by omega) w h1 h2 h3 h4 ht
end Go.Proofs.YthkodldppaccmaaGreatDoor
namespace Go.Proofs.YthkodldppaccmaaGreatDoor
open Go.ChangeShapes Go.WideShapes Go.ChangeAt Go.RowKit
theorem laidOut : laidOutB Tryz.prog = true := by kernel_rfl
end Go.Proofs.YthkodldppaccmaaGreatDoor
namespace Go.Proofs.YthkodldppaccmaaGreatDoor
open Go.ChangeShapes Go.WideShapes Go.ChangeAt Go.RowKit Go.Joins
section
variable {H : Type} {enc : TypeId × Value → H} {P : Program} {w : World} {base : Nat} {spare : Nat → Bool} {held : Bool}
theorem trodAll_mk5 {t t1 t2 t3 t4 : TypeId} {v v1 v2 v3 v4 : Value} {d d1 d2 d3 d4 : DataW H} {p p1 p2 p3 p4 : List MemPlace} (h : DataW.Trod enc P w base spare held t v d p) (h1 : DataW.Trod enc P w base spare held t1 v1 d1 p1)
  (h2 : DataW.Trod enc P w base spare held t2 v2 d2 p2) (h3 : DataW.Trod enc P w base spare held t3 v3 d3 p3) (h4 : DataW.Trod enc P w base spare held t4 v4 d4 p4) : DataW.TrodAll enc P w base spare held [t, t1, t2, t3, t4] [v, v1, v2, v3, v4] [d, d1, d2, d3, d4] (p ++ (p1 ++ (p2 ++ (p3 ++ p4)))) := ⟨p, p1 ++ (p2 ++ (p3 ++ p4)), h, trodAll_mk4 h1 h2 h3 h4, rfl⟩
end
end Go.Proofs.YthkodldppaccmaaGreatDoor
namespace Go.Proofs.YthkodldppaccmaaGreatDoor
open Go.ChangeShapes Go.WideShapes Go.ChangeAt Go.RowKit Go.Joins
section
variable {H : Type} {enc : TypeId × Value → H} {P : Program} {w : World} {base : Nat} {spare : Nat → Bool} {held : Bool}
theorem trodAll_mk6 {t t1 t2 t3 t4 t5 : TypeId} {v v1 v2 v3 v4 v5 : Value} {d d1 d2 d3 d4 d5 : DataW H} {p p1 p2 p3 p4 p5 : List MemPlace} (h : DataW.Trod enc P w base spare held t v d p) (h1 : DataW.Trod enc P w base spare held t1 v1 d1 p1) (h2 : DataW.Trod enc P w base spare held t2 v2 d2 p2) (h3 : DataW.Trod enc P w base spare held t3 v3 d3 p3) (h4 : DataW.Trod enc P w base spare held t4 v4 d4 p4) (h5 : DataW.Trod enc P w base spare held t5 v5 d5 p5) : DataW.TrodAll enc P w base spare held [t, t1, t2, t3, t4, t5] [v, v1, v2, v3, v4, v5] [d, d1, d2, d3, d4, d5] (p ++ (p1 ++ (p2 ++ (p3 ++ (p4 ++ p5))))) := ⟨p, (p1 ++ (p2 ++ (p3 ++ (p4 ++ p5)))), h, trodAll_mk5 h1 h2 h3 h4 h5, rfl⟩
theorem trodAll_mk7 {t t1 t2 t3 t4 t5 t6 : TypeId} {v v1 v2 v3 v4 v5 v6 : Value} {d d1 d2 d3 d4 d5 d6 : DataW H} {p p1 p2 p3 p4 p5 p6 : List MemPlace} (h : DataW.Trod enc P w base spare held t v d p) (h1 : DataW.Trod enc P w base spare held t1 v1 d1 p1) (h2 : DataW.Trod enc P w base spare held t2 v2 d2 p2) (h3 : DataW.Trod enc P w base spare held t3 v3 d3 p3) (h4 : DataW.Trod enc P w base spare held t4 v4 d4 p4) (h5 : DataW.Trod enc P w base spare held t5 v5 d5 p5) (h6 : DataW.Trod enc P w base spare held t6 v6 d6 p6) : DataW.TrodAll enc P w base spare held [t, t1, t2, t3, t4, t5, t6] [v, v1, v2, v3, v4, v5, v6] [d, d1, d2, d3, d4, d5, d6] (p ++ (p1 ++ (p2 ++ (p3 ++ (p4 ++ (p5 ++ p6)))))) := ⟨p, (p1 ++ (p2 ++ (p3 ++ (p4 ++ (p5 ++ p6))))), h, trodAll_mk6 h1 h2 h3 h4 h5 h6, rfl⟩
theorem trodAll_eight {t t1 t2 t3 t4 t5 t6 t7 : TypeId} {args : Array Value} {ds : List (DataW H)} {ps : List MemPlace} (h : DataW.TrodAll enc P w base spare held [t, t1, t2, t3, t4, t5, t6, t7] args.toList ds ps) :
  ∃ v v1 v2 v3 v4 v5 v6 v7 d d1 d2 d3 d4 d5 d6 d7 p p1 p2 p3 p4 p5 p6 p7, args = #[v, v1, v2, v3, v4, v5, v6, v7] ∧ ds = [d, d1, d2, d3, d4, d5, d6, d7] ∧ ps = p ++ p1 ++ p2 ++ p3 ++ p4 ++ p5 ++ p6 ++ p7 ∧ DataW.Trod enc P w base spare held t v d p ∧ DataW.Trod enc P w base spare held t1 v1 d1 p1 ∧ DataW.Trod enc P w base spare held t2 v2 d2 p2 ∧ DataW.Trod enc P w base spare held t3 v3 d3 p3 ∧ DataW.Trod enc P w base spare held t4 v4 d4 p4 ∧ DataW.Trod enc P w base spare held t5 v5 d5 p5 ∧ DataW.Trod enc P w base spare held t6 v6 d6 p6 ∧ DataW.Trod enc P w base spare held t7 v7 d7 p7 := by
 obtain ⟨v, vs, d, ds1, p, q, hargs, rfl, rfl, hd, hr⟩ := trodAll_cons h
 obtain ⟨v1, vs1, d1, ds2, p1, q1, rfl, rfl, rfl, hd1, hr1⟩ := trodAll_cons hr
 obtain ⟨v2, vs2, d2, ds3, p2, q2, rfl, rfl, rfl, hd2, hr2⟩ := trodAll_cons hr1
 obtain ⟨v3, vs3, d3, ds4, p3, q3, rfl, rfl, rfl, hd3, hr3⟩ := trodAll_cons hr2
 obtain ⟨v4, vs4, d4, ds5, p4, q4, rfl, rfl, rfl, hd4, hr4⟩ := trodAll_cons hr3
 obtain ⟨v5, vs5, d5, ds6, p5, q5, rfl, rfl, rfl, hd5, hr5⟩ := trodAll_cons hr4
 obtain ⟨v6, vs6, d6, ds7, p6, q6, rfl, rfl, rfl, hd6, hr6⟩ := trodAll_cons hr5
 obtain ⟨v7, vs7, d7, ds8, p7, q7, rfl, rfl, rfl, hd7, hr7⟩ := trodAll_cons hr6
 obtain ⟨rfl, rfl, rfl⟩ := trodAll_nil hr7
 exact ⟨v, v1, v2, v3, v4, v5, v6, v7, d, d1, d2, d3, d4, d5, d6, d7, p, p1, p2, p3, p4, p5, p6, p7, by cases args; simp_all, rfl, by simp, hd, hd1, hd2, hd3, hd4, hd5, hd6, hd7⟩
theorem trodAll_mk8 {t t1 t2 t3 t4 t5 t6 t7 : TypeId} {v v1 v2 v3 v4 v5 v6 v7 : Value} {d d1 d2 d3 d4 d5 d6 d7 : DataW H} {p p1 p2 p3 p4 p5 p6 p7 : List MemPlace} (h : DataW.Trod enc P w base spare held t v d p) (h1 : DataW.Trod enc P w base spare held t1 v1 d1 p1) (h2 : DataW.Trod enc P w base spare held t2 v2 d2 p2) (h3 : DataW.Trod enc P w base spare held t3 v3 d3 p3) (h4 : DataW.Trod enc P w base spare held t4 v4 d4 p4) (h5 : DataW.Trod enc P w base spare held t5 v5 d5 p5) (h6 : DataW.Trod enc P w base spare held t6 v6 d6 p6) (h7 : DataW.Trod enc P w base spare held t7 v7 d7 p7) : DataW.TrodAll enc P w base spare held [t, t1, t2, t3, t4, t5, t6, t7] [v, v1, v2, v3, v4, v5, v6, v7] [d, d1, d2, d3, d4, d5, d6, d7] (p ++ (p1 ++ (p2 ++ (p3 ++ (p4 ++ (p5 ++ (p6 ++ p7))))))) := ⟨p, (p1 ++ (p2 ++ (p3 ++ (p4 ++ (p5 ++ (p6 ++ p7)))))), h, trodAll_mk7 h1 h2 h3 h4 h5 h6 h7, rfl⟩
end
end Go.Proofs.YthkodldppaccmaaGreatDoor
