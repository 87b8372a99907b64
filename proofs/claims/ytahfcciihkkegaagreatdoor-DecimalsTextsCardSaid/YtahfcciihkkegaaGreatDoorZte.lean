/-
  The law answers true at every input, and leaves its arguments as they were: a part of the proof. CONDITIONS: the package-level tables start as the program's text lays them (the card ties them).
-/
import Derived.Test.YtahfcciihkkegaaGreatDoorZtd
set_option linter.unusedVariables false
set_option linter.unusedSimpArgs false
set_option maxHeartbeats 16000000
set_option maxRecDepth 100000
namespace Go.Proofs.YtahfcciihkkegaaGreatDoor.Rx
open Go.RowKit
attribute [local irreducible] tv dg cmpI txt decB nb isq
theorem add_add (a : Addr) (i j : Nat) : (a.add i).add j = a.add (i + j) := by
 unfold Addr.add
 by_cases h : i = 0
 ·subst h; simp
 ·by_cases h2 : j = 0
  ·subst h2; simp [h]
  ·simp [h, h2, Nat.add_assoc]
theorem small_len {k : Nat} (hk : k ≤ 9999) : (td k).length ≤ 1 := td_length.2 (by rw [Nat.pow_one]; omega)
theorem own_one (w : World) (x : Int) : (w.alloc (.cells #[.int .i64 x] 3)).ownsRow w.heap.size 3 1 (.slice (some ⟨w.heap.size, 0, none⟩) 1 1) 1 [.int .i64 x] :=
 ⟨rfl, .inr ⟨w.heap.size, 1, #[.int .i64 x], rfl, Nat.le_refl _, heap_alloc_new w _, Nat.le_refl _, by unfold maxLen; omega, rfl, rfl⟩⟩
theorem slice_from (w : World) (aA : Addr) (L ca i1 : Nat) (h : i1 ≤ L) (hc : L ≤ ca) :
  (Instr.slice 42 (.slice (some aA) L ca) (some (.int .i64 (i1 : Int))) none none).run Tryz.prog w = .ok (.slice (some (if ca = i1 then aA else aA.add i1)) (L - i1) (ca - i1)) w := by
 obtain ⟨i0, hi, hz0, hz1, hz2⟩ := info_parts Tryz.infoI
 have h1 : (0 : Int) ≤ (i1 : Int) := by omega
 have h2 : (i1 : Int) ≤ (L : Int) := by omega
 by_cases hh : ca = i1
 ·simp [Instr.slice, Instr.sliceBounds, run_underlying Tryz.underlying42, run_sliceBound, h1, h2, hh, go_sem] <;> rfl
 ·simp [Instr.slice, Instr.sliceBounds, run_underlying Tryz.underlying42, run_sliceBound, h1, h2, hh, go_sem] <;> rfl
theorem made2 (w : World) (o : Obj) : ((w.alloc o).alloc (.cells #[] 3)).ownsRow (w.heap.size + 1) 3 1 (.slice (some ⟨w.heap.size + 1, 0, none⟩) 0 0) 0 [] := by
 have h := World.ownsRow_made (base := w.heap.size + 1) (e := 3) (size := 1) (w.alloc o) #[] 0 (by rw [World.size_alloc]; exact Nat.le_refl _) (Nat.zero_le _) rfl
 rwa [World.size_alloc] at h
/-- trim leaves the block that its argument looks into. -/
theorem trim_blk (v : Value) (l : List Nat) (hd : ∀ d ∈ l, d < 10000) (hB : l.length < 9223372036854775807) (w : World) (h : Sl w v l) :
  Calls Tryz.prog 138 #[v] w fun e w' => ∃ v', e = .returned v' ∧ Sl w v' (td (tv l)) ∧ v'.ownBlock = v.ownBlock ∧ w = w' := by
 obtain ⟨z, hz⟩ := td_tv hd
 rcases h with ⟨ao, c, rfl, rfl, hc0⟩ | ⟨a, c, rfl, h2, h3⟩
 ·refine (trim_nil ao c w).mono ?_
  rintro e w' ⟨rfl, rfl⟩
  exact ⟨_, rfl, .inl ⟨ao, c, rfl, by rw [tv_nil, td_zero], hc0⟩, rfl, rfl⟩
 ·have hlen : l.length = (td (tv l)).length + z := by
   have := congrArg List.length hz
   rwa [List.length_append, List.length_replicate] at this
  rw [hz] at h3
  rw [hlen] at h2 hB ⊢
  refine (trim_row a c _ z (td (tv l)) rfl h2 hB (fun h => td_last h) w h3).mono ?_
  rintro e w' ⟨rfl, rfl⟩
  exact ⟨_, rfl, .inr ⟨a, c, rfl, by omega, h3.left⟩, rfl, rfl⟩
theorem Sl.set_off {w : World} {v : Value} {l : List Nat} {g k : Nat} {u : Value} (h : Sl w v l) (ho : v.ownBlock ≠ some g) : Sl (w.setCell ⟨g, k, none⟩ u) v l := by
 rcases h with h | ⟨a, c, rfl, h2, h3⟩
 ·exact .inl h
 ·have hne : a.block ≠ g := fun e => ho (by rw [← e]; rfl)
  refine .inr ⟨a, c, rfl, h2, fun i hi => ?_, ?_⟩
  ·rw [← h3.cell i hi]
   exact World.cell?_of_block (by rw [addB]; exact Below.heap_setCell _ _ _ _ hne)
  ·have := h3.blk
   simpa [World.setCell] using this
theorem wpList_append_sl {w : World} {ops : Array Oper} {rest : List Oper} {o : Oper} {a : Act} {Q : Exit → Act → World → Prop} (hgd : o.guard = none) (s x : Operand)
  (ho : o.op = .call { callee := .builtin .append, args := #[s, x], argTypes := #[42, 42] })
  (base : Nat) (v : Value) (n : Nat) (xs : List Value) (hs : a.eval s = v) (hown : w.ownsRow base 3 1 v n xs)
  (v2 : Value) (l : List Nat) (hx : a.eval x = v2) (hsl : Sl w v2 l) (hn : n + l.length ≤ 1000000) (hbase : base ≤ w.heap.size)
  (h : ∀ v' w', w'.ownsRow base 3 1 v' (n + l.length) (xs ++ l.map iv) → w.grownBy w' v.ownBlock → wpList Tryz.prog ops Q rest (a.put o.dst v') w') : wpList Tryz.prog ops Q (o :: rest) a w := by
 obtain ⟨i0, hi, hz0, hz1, hz2⟩ := info_parts Tryz.infoI
 rcases hsl.src with ⟨e, rfl⟩ | ⟨ad, c, e, hnews⟩
 ·rw [e] at hx
  refine wpList_append_own_none hgd s x _ ho base 3 i0 1 Tryz.underlying42 hi v n xs hs hown hx (h v w ?_ ⟨rfl, rfl, rfl, Nat.le_refl _, fun _ _ _ => rfl⟩)
  simpa using hown
 ·rw [e] at hx
  exact wpList_append_own w hgd s x _ ho base 3 i0 (.int .i64 0) 1 8 Tryz.underlying42 hi hz0 hz1 hz2 rfl (by decide) v n xs hs hown ad l.length c (l.map iv) hx (by rw [List.length_map, Nat.mul_one]) hnews
   (fun u hu => by obtain ⟨y, -, rfl⟩ := List.mem_map.1 hu; rfl) (by unfold maxLen; omega) (by omega) hbase fun v' w' h1 h2 _ => h v' w' h1 h2
theorem rdiv_small (va vb : Value) (a b : Nat) (hab : a < b) (la : (td a).length ≤ 1000) (lb : (td b).length ≤ 1000) (w : World) (ha : Rn w va a) (hb : Rn w vb b) :
  Calls Tryz.prog 78 #[va, vb] w fun e w' => e = .returned (.tuple #[.slice none 0 0, va]) ∧ Below w.heap.size w w' := by
 have C := rcmp_any va vb a b (by omega) (by omega) w ha hb
 rw [cmpI_lt hab] at C
 replace C := Lib.hid C
 clear ha hb hab
 go_enter Tryz.func78, Tryz.ntmps78
 go_wp2_with fail
 with_reducible refine Calls.mono C.out ?_
 rintro e w1 ⟨rfl, hb1⟩
 go_wp2_with fail
 exact bodyPost_ret (v := .tuple #[.slice none 0 0, va]) (by simp [results, Tryz.results78, go_sem]) rfl ⟨rfl, hb1⟩
theorem rdiv_big (va vb : Value) (a b : Nat) (hab : b ≤ a) (hb0 : 0 < b) (la : (td a).length ≤ 1000) (w : World) (ha : Rn w va a) (hb : Rn w vb b) :
  Calls Tryz.prog 78 #[va, vb] w fun e w' => ∃ v1 v2, e = .returned (.tuple #[v1, v2]) ∧ Rn w' v1 (a / b) ∧ Rn w' v2 (a % b) ∧ Below w.heap.size w w' := by
 obtain ⟨i0, hi, hz0, hz1, hz2⟩ := info_parts Tryz.infoI
 obtain ⟨ao, ca, ea, hva⟩ := ha.view
 obtain ⟨bo, cb, eb⟩ := hb.form
 subst ea eb
 have lb := Nat.le_trans (td_mono hab) la
 have hML := td_mono hab
 obtain ⟨i1, hi1, hst⟩ := DivS.start hab hb0
 have hM0 : 0 < (td b).length := by
  rcases Nat.eq_zero_or_pos (td b).length with h | h
  ·have := td_nil.1 (List.eq_nil_of_length_eq_zero h); omega
  ·exact h
 have hAlt := td_lt a
 obtain ⟨F, hF⟩ : ∃ F, F = (td b).length - 3 := ⟨_, rfl⟩
 have hdrop := td_drop b F
 have ht0 : 0 < b / 10000 ^ F := by
  refine Nat.pos_of_ne_zero fun h => ?_
  rw [h, td_zero] at hdrop
  have := congrArg List.length hdrop
  rw [List.length_drop, List.length_nil] at this
  omega
 have Le := Lib.hid (fun (wx : World) (hh : Rn wx (.slice bo (td b).length cb) b) => rleading_any (.slice bo (td b).length cb) (td b) F (td_lt b) (by omega) (by omega) wx hh)
 rw [hdrop, tv_td] at Le
 have htb : b / 10000 ^ F < 1000000000000 := by
  have h1 : (td (b / 10000 ^ F)).length ≤ 3 := by rw [← hdrop, List.length_drop]; omega
  exact Nat.lt_of_lt_of_le (td_length.1 h1) (by decide)
 have C := Lib.hid (fun (wx : World) (h1 : Rn wx (.slice ao (td a).length ca) a) (h2 : Rn wx (.slice bo (td b).length cb) b) => rcmp_any _ _ a b (by omega) (by omega) wx h1 h2)
 have hcw : decide (cmpI a b < 0) = false := decide_eq_false (by unfold cmpI; split <;> (try split) <;> omega)
 generalize cmpI a b = z at *
 obtain ⟨t, ht⟩ : ∃ t, t = b / 10000 ^ F := ⟨_, rfl⟩
 rw [← ht] at Le ht0 htb
 -- the search for a digit
 have low := fun y => lead_low (y := y) ht
 have high := fun y => lead_high (y := y) ht ht0
 have lead := Lib.hid (fun (v : Value) (y : Nat) (hy : y < 10000 * b) (wx : World) (hv : Rn wx v y) => rleading_any v (td y) F (td_lt y) (by omega) (by
  have h1 : (td y).length ≤ (td b).length + 1 := td_length.2 (by
   have := td_length.1 (Nat.le_refl (td b).length)
   rw [Nat.pow_succ]; omega)
  omega) wx hv)
 have fb : ∀ y, y < 10000 * b → y / 10000 ^ F < 20000000000000000 := fun y hy => by
  have hp : 0 < 10000 ^ F := Nat.pow_pos (by omega)
  have h1 : b < 10000 ^ F * (t + 1) := by
   have := Nat.lt_mul_div_succ b hp
   rwa [← ht] at this
  refine (Nat.div_lt_iff_lt_mul hp).2 ?_
  have h2 : 10000 * b < 10000 * (10000 ^ F * (t + 1)) := Nat.mul_lt_mul_of_pos_left h1 (by omega)
  have h3 : 10000 ^ F * (t + 1) ≤ 10000 ^ F * 1000000000000 := Nat.mul_le_mul_left _ (by omega)
  generalize 10000 ^ F * (t + 1) = p at *
  generalize 10000 ^ F = q at *
  omega
 have MB := Lib.hid (fun (k : Nat) (hk : k ≤ 9999) (vx : Value) (wx : World) (h1 : Rn wx (.slice bo (td b).length cb) b) (h2 : Rn wx vx k) => rmul_any (.slice bo (td b).length cb) vx b k (by omega) (Nat.le_trans (small_len hk) (by omega)) wx h1 h2)
 have hbk : ∀ k, k ≤ 9999 → (td (b * k)).length ≤ 1001 := fun k hk => Nat.le_trans (td_mul_le lb (small_len hk)) (by omega)
 have hyl : ∀ y, y < 10000 * b → (td y).length ≤ 1001 := fun y hy => by
  have h1 : (td y).length ≤ (td b).length + 1 := td_length.2 (by
   have := td_length.1 (Nat.le_refl (td b).length)
   rw [Nat.pow_succ]; omega)
  omega
 have CM := Lib.hid (fun (k : Nat) (hk : k ≤ 9999) (y : Nat) (hy : y < 10000 * b) (vx vy : Value) (wx : World) (h1 : Rn wx vx (b * k)) (h2 : Rn wx vy y) => rcmp_any vx vy (b * k) y (Nat.le_trans (hbk k hk) (by omega)) (Nat.le_trans (hyl y hy) (by omega)) wx h1 h2)
 have SB := Lib.hid (fun (k y : Nat) (hy : y < 10000 * b) (hle : b * k ≤ y) (vx vy : Value) (wx : World) (h1 : Rn wx vy y) (h2 : Rn wx vx (b * k)) => rsub_any vy vx y (b * k) (Nat.le_trans (hyl y hy) (by omega)) hle wx h1 h2)
 have hTR : ∀ (x y r : Nat) (hy : y = x + 10000 * r) (hx : x < 10000) (hyb : y < 10000 * b) (v : Value) (wx : World), Sl wx v (x :: td r) → Calls Tryz.prog 138 #[v] wx fun e w' => ∃ v', e = .returned v' ∧ Rn w' v' y ∧ v'.ownBlock = v.ownBlock ∧ wx = w' := fun x y r hy hx hyb v wx hv => by
  have h1 : tv (x :: td r) = y := by rw [tv_cons, tv_td, hy]
  have h2 : (td r).length ≤ 1001 := Nat.le_trans (td_mono (show r ≤ y by omega)) (hyl y hyb)
  have := trim_blk v (x :: td r) (fun d hd => by
   rcases List.mem_cons.1 hd with rfl | hd
   ·exact hx
   ·exact td_lt r d hd) (by rw [List.length_cons]; omega) wx hv
  rw [h1] at this
  refine Calls.mono this ?_
  rintro e w' ⟨v', rfl, h, h', rfl⟩
  exact ⟨v', rfl, h, h', rfl⟩
 replace hTR := Lib.hid hTR
 clear hbk hyl hdrop ht
 obtain ⟨L, hL⟩ : ∃ L, L = (td a).length := ⟨_, rfl⟩
 obtain ⟨M, hM⟩ : ∃ M, M = (td b).length := ⟨_, rfl⟩
 rw [← hL] at la ha hva C hi1 hML ⊢
 rw [← hM] at lb hb C Le MB hi1 hM0 hF hML ⊢
 obtain ⟨aA, rfl, hca, hsd⟩ := hva (by omega)
 have hsd := Lib.hid hsd
 obtain ⟨ad, had⟩ : ∃ ad, ad = (if ca = i1 then aA else aA.add i1) := ⟨_, rfl⟩
 obtain ⟨r0, hr0⟩ : ∃ r0, r0 = a / 10000 ^ i1 := ⟨_, rfl⟩
 have htr : (td a).drop i1 = td r0 := by rw [hr0, td_drop]
 have hmk : ∀ w, (Instr.makeSlice 42 (.int .i64 (i1 : Int)) (.int .i64 (i1 : Int))).run Tryz.prog w = .ok (.slice (some ⟨w.heap.size, 0, none⟩) i1 i1) (w.alloc (zobjI i1)) :=
  fun w => makeN w _ i1 rfl (by omega)
 have hsf : ∀ w, (Instr.slice 42 (.slice (some aA) L ca) (some (.int .i64 (i1 : Int))) none none).run Tryz.prog w = .ok (.slice (some ad) (L - i1) (ca - i1)) w :=
  fun w => by rw [had]; exact slice_from w aA L ca i1 (by omega) hca
 have hsr : ∀ wx, Below w.heap.size w wx → Sl wx (.slice (some ad) (L - i1) (ca - i1)) (td r0) := by
  intro wx hbx
  have hlr : (td r0).length = L - i1 := by rw [← htr, List.length_drop, ← hL]
  by_cases hz : L = i1
  ·exact .inl ⟨some ad, ca - i1, by rw [hz, Nat.sub_self], List.eq_nil_of_length_eq_zero (by rw [hlr, hz, Nat.sub_self]), fun h => by simp at h⟩
  ·have hne : ca ≠ i1 := by omega
   rw [if_neg hne] at had
   refine .inr ⟨ad, ca - i1, by rw [hlr], by omega, fun j hj => ?_, ?_⟩
   ·have hjl : i1 + j < (td a).length := by omega
    have := (hsd.out.below hbx).cell (i1 + j) hjl
    rw [had, add_add, this]
    congr 3
    simp only [← htr, List.getElem_drop]
   ·rw [had, addB]; exact (hsd.out.below hbx).blk
 have hLM : (L : Int) - (M : Int) + 1 = (i1 : Int) := by omega
 obtain ⟨m1, hm1⟩ : ∃ m1, m1 = L - i1 := ⟨_, rfl⟩
 have hLi : L - i1 = m1 := hm1.symm
 have hm1b : m1 ≤ 1000 := by omega
 have hiL : (i1 : Int) ≤ (L : Int) := by omega
 have hi0 : (1 : Int) ≤ (i1 : Int) := by omega
 have hm1' := Lib.hid (show m1 = L - i1 ∧ i1 + M = L + 1 ∧ M ≤ L from ⟨hm1, hi1, by omega⟩)
 clear hm1
 have hmax : max (0 : Int) ((M : Int) - 3) = (F : Int) := by omega
 replace ha := Lib.hid ha
 replace hb := Lib.hid hb
 have hm1r : (td r0).length = m1 := by rw [← htr, List.length_drop, ← hL, hLi]
 rw [htr, tv_td] at hst
 rw [hLi] at hsr
 replace hst := Lib.hid hst
 replace hsr := Lib.hid hsr
 replace htr := Lib.hid htr
 replace hr0 := Lib.hid hr0
 replace hca := Lib.hid hca
 replace had := Lib.hid had
 clear hva
 replace hL := Lib.hid hL
 replace hM := Lib.hid hM
 replace hAlt := Lib.hid hAlt
 replace low := Lib.hid low
 replace high := Lib.hid high
 replace fb := Lib.hid fb
 have hi1' := Lib.hid hi1
 have hF' := Lib.hid hF
 have k1 : (M : Int) ≤ (L : Int) := by omega
 clear hi1 hF
 go_enter Tryz.func78, Tryz.ntmps78
 go_wp2_with fail
 with_reducible refine Calls.mono (C.out _ ha.out hb.out) ?_
 rintro e w1 ⟨rfl, hb1⟩
 go_wp2_with fail
 with_reducible refine Calls.mono (Le.out _ (hb.out.below hb1)) ?_
 rintro e w2 ⟨rfl, rfl⟩
 have hD0 := ((hb1.alloc hb1.size (zobjI i1)).alloc (by rw [World.size_alloc]; have := hb1.size; omega) (.cells #[] 3))
 have hr0S := Lib.hid (hsr.out _ hD0)
 have hm1r' : 0 + (td r0).length ≤ 1000000 := by omega
 replace hD0 := Lib.hid hD0
 replace hm1r' := Lib.hid hm1r'
 go_wp2_with (at_builtin; refine wpList_append_sl rfl _ _ rfl (w1.heap.size + 1) _ 0 [] rfl (made2 _ _) _ (td r0) rfl hr0S.out hm1r'.out (by simp) ?_)
 intro v2 w2 hown hgrow
 have hB2 : Below (w1.heap.size + 1) (w1.alloc (zobjI i1)) w2 := ((Below.refl _ _).alloc (by rw [World.size_alloc]; exact Nat.le_refl _) _).grown hgrow (by simp [World.size_alloc]) (fun j hj => by simp [Value.ownBlock] at hj; omega)
 have hX0 := (IB.zeros w1 i1).below hB2 (Nat.lt_succ_self _)
 have hgB : w.heap.size ≤ w1.heap.size := hb1.size
 have hD2 := (hb1.alloc hb1.size (zobjI i1)).trans (hB2.mono (Nat.le_trans hgB (Nat.le_succ _)))
 have hR2 : Rn w2 v2 r0 := Sl.owned hown hm1r.symm
 clear hown hgrow hB2 hD0 hr0S hsf hsr hmk hm1r'
 replace hX0 := Lib.hid hX0
 replace hR2 := Lib.hid hR2
 obtain ⟨g, hg⟩ : ∃ g, g = w1.heap.size := ⟨_, rfl⟩
 rw [← hg] at hX0 hgB ⊢
 clear hg
 go_wp2_with fail
 go_loopw [8, 10] (fun zv rv wr => ∃ (j : Nat) (X : List Nat) (r : Nat), zv = .int .i64 ((j : Int) - 1) ∧ j ≤ i1 ∧ X.length = i1 ∧ DivS a b (td a) X j r ∧ IB wr g X ∧ Rn wr rv r ∧ Below w.heap.size w wr) (fun zv _ _ => (intOf zv + 1).toNat)
 case atStart => exact ⟨i1, _, r0, (by rw [show (L : Int) - (M : Int) = (i1 : Int) - 1 by omega]), Nat.le_refl _, List.length_replicate, hst.out, hX0.out, hR2.out, hD2⟩
 case round =>
  obtain ⟨j, X, r, rfl, hj, hXl, hS, hX, hr, hbl⟩ := hrel
  clear hX0 hR2 hst hD2 C Le
  cases j with
  | zero =>
   have HT := trim_any _ X hS.lt (by rw [hXl]; omega) wr (hX.sl i1 (by omega))
   obtain ⟨hq, hrm⟩ := hS.done
   rw [hq, hXl] at HT
   replace HT := Lib.hid HT
   rw [hrm] at hr
   obtain ⟨ro, rc, erv⟩ := hr.form
   subst erv
   replace hr := Lib.hid hr
   clear hS hX hXl hq hrm
   go_wp2_with fail
   with_reducible refine Calls.mono HT.out ?_
   rintro e w3 ⟨v', rfl, hv, rfl⟩
   replace hv := Lib.hid hv
   go_wp2_with fail
   exact bodyPost_ret (v := .tuple #[v', .slice ro (td (a % b)).length rc]) (by simp [results, Tryz.results78, go_sem]) rfl ⟨_, _, rfl, hv.out, hr.out, hbl⟩
  | succ k =>
   have hki : k < i1 := by omega
   have hkL : k < L := by omega
   have e1 : (((k + 1 : Nat) : Int) - 1) = (k : Int) := by omega
   have hxb : dg (td a) k < 10000 := dg_lt hAlt.out k
   have hcell : wr.cell? (aA.add k) = some (.int .i64 ((dg (td a) k : Nat) : Int)) := by
    rw [dg_in (by rw [← hL.out]; exact hkL)]
    exact (hsd.out.below hbl).cell k (by rw [← hL.out]; exact hkL)
   have hkX : k < X.length := by rw [hXl]; exact hki
   obtain ⟨y, hy⟩ : ∃ y, y = dg (td a) k + 10000 * r := ⟨_, rfl⟩
   obtain ⟨hq9, hN⟩ := hS.step hAlt.out hkX hy
   generalize dg (td a) k = x at *
   have hrb := hS.rem
   have hyb : y < 10000 * b := by omega
   have hlr : (td r).length ≤ 1000 := Nat.le_trans (td_mono (Nat.le_of_lt hrb)) (by rw [← hM.out]; exact lb)
   obtain ⟨f, hf⟩ : ∃ f, f = y / 10000 ^ F := ⟨_, rfl⟩
   have hfb : f < 20000000000000000 := by rw [hf]; exact fb.out y hyb
   have LD := Lib.hid (fun (v : Value) (wx : World) (h : Rn wx v y) => lead.out v y hyb wx h)
   rw [td_drop, tv_td, ← hf] at LD
   obtain ⟨l0, hl0⟩ : ∃ l0, l0 = f / (t + 1) := ⟨_, rfl⟩
   obtain ⟨h0, hh0⟩ : ∃ h0, h0 = f / t := ⟨_, rfl⟩
   obtain ⟨h9, hh9⟩ : ∃ h9, h9 = min h0 9999 := ⟨_, rfl⟩
   have m1q : l0 * b ≤ y := by rw [hl0, hf]; exact low.out y
   have m2q : y / b ≤ h0 := by rw [hh0, hf]; exact high.out y
   have m3q : y / b ≤ h9 := by omega
   have m4q : l0 ≤ y / b := (Nat.le_div_iff_mul_le hb0).2 m1q
   have m5q : l0 ≤ h9 := Nat.le_trans m4q m3q
   have m6q : y < b * (h9 + 1) := by
    have := (Nat.div_lt_iff_lt_mul hb0).1 (Nat.lt_succ_of_le m3q)
    rwa [Nat.mul_comm] at this
   have m7q : h9 ≤ 9999 := by omega
   have i1q : (f : Int) / ((t : Int) + 1) = (l0 : Int) := by rw [hl0]; exact (Int.natCast_ediv f (t + 1)).symm
   have i2q : (f : Int) / (t : Int) = (h0 : Int) := by rw [hh0]; exact (Int.natCast_ediv f t).symm
   have i3q : min (h0 : Int) 9999 = (h9 : Int) := by omega
   have h0b : h0 ≤ f := by rw [hh0]; exact Nat.div_le_self _ _
   have hTR1 := Lib.hid (fun v wx h => hTR.out x y r hy hxb hyb v wx h)
   rw [Nat.mul_comm] at m1q
   replace m1q := Lib.hid m1q
   replace m6q := Lib.hid m6q
   replace hN := Lib.hid hN
   replace hy := Lib.hid hy
   replace hq9 := Lib.hid hq9
   replace hr := Lib.hid hr
   replace hkX := Lib.hid hkX
   replace hXl := Lib.hid hXl
   have hcX := hX.cell k hkX.out
   have hfX := hX.frozen k
   replace hX := Lib.hid hX
   replace hyb := Lib.hid hyb
   clear hS m2q m3q m4q hf hl0 hh0 hh9 lead hTR low high fb hrb
   rw [e1]
   have hrA := Lib.hid (hr.out.below ((Below.refl wr.heap.size wr).alloc (Nat.le_refl _) (.cells #[.int .i64 (x : Int)] 3)))
   have hlr1 := Lib.hid (show 1 + (td r).length ≤ 1000000 by omega)
   clear hlr
   go_wp2_with (at_builtin; refine wpList_append_sl rfl _ _ rfl wr.heap.size _ 1 [.int .i64 (x : Int)] rfl (own_one wr x) _ (td r) rfl hrA.out hlr1.out (by simp) ?_)
   intro v3 w3 hown hgrow
   have hs3 := Lib.hid (show Sl w3 v3 (x :: td r) from Sl.owned hown (by rw [List.length_cons, Nat.add_comm]))
   have hB3 : Below wr.heap.size wr w3 := ((Below.refl _ _).alloc (Nat.le_refl _) _).grown hgrow (by simp) (fun j hj => by simp [Value.ownBlock] at hj; omega)
   have hD3 := hbl.trans (hB3.mono hbl.size)
   have hX3 := Lib.hid (hX.out.below hB3 hX.out.lt)
   have ho3 : v3.ownBlock ≠ some g := fun e => by
    have := (hown.lt g e).1
    have := hX.out.lt
    omega
   clear hown hgrow hB3 hX hbl hcX hfX hcell hrA hr hlr1
   go_wp2_with fail
   with_reducible refine Calls.mono (hTR1.out _ _ hs3.out) ?_
   rintro e w4 ⟨v4, rfl, hv4, ho4, rfl⟩
   rw [← ho4] at ho3
   replace ho3 := Lib.hid ho3
   clear ho4
   replace hv4 := Lib.hid hv4
   clear hs3
   go_wp2_with fail
   with_reducible refine Calls.mono (LD.out _ _ hv4.out) ?_
   rintro e w4 ⟨rfl, rfl⟩
   have t1 : ¬ (t : Int) + 1 = 0 := by omega
   have t2 : ¬ (t : Int) = 0 := by omega
   go_wp2_with fail
   go_quiet (fail)
   go_wp2_with fail
   have hX3' := Lib.hid (hX3.out.drewN nq)
   have hD3' := ibdrew hD3 nq
   have hv4' := Lib.hid (show Rn (w3.drewN nq) v4 y from hv4.out.below (ibdrew (Below.refl _ _) nq))
   generalize hW4 : w3.drewN nq = w4 at *
   clear hW4 hX3 hD3 hv4
   go_loopw [12, 13] (fun lv hv wx => ∃ (l h : Nat), lv = .int .i64 (l : Int) ∧ hv = .int .i64 (h : Int) ∧ l ≤ h ∧ h ≤ 9999 ∧ b * l ≤ y ∧ y < b * (h + 1) ∧ IB wx g X ∧ Rn wx v4 y ∧ Below w.heap.size w wx) (fun lv hv _ => (intOf hv - intOf lv).toNat)
   case atStart => exact ⟨l0, h9, rfl, rfl, m5q, m7q, m1q.out, m6q.out, hX3'.out, hv4'.out, hD3'⟩
   case round =>
    obtain ⟨l, h, rfl, rfl, hlh, hh9, hq1, hq2, hXb, hvb, hbl⟩ := hrel
    replace hq1 := Lib.hid hq1
    replace hq2 := Lib.hid hq2
    have hXlt := hXb.lt
    clear hX3' hD3' hv4' m1q m6q m5q m7q i1q i2q i3q h0b hfb t1 t2 LD hTR1
    rcases Nat.lt_or_ge l h with hlt | hge
    ·have k2 : (l : Int) < (h : Int) := by omega
     obtain ⟨mid, hmid⟩ : ∃ mid, mid = (l + h + 1) / 2 := ⟨_, rfl⟩
     have hmv : ((l : Int) + (h : Int) + 1) / 2 = (mid : Int) := by omega
     have hm1 : l < mid := by omega
     have hm2 : mid ≤ h := by omega
     have hm9 : mid ≤ 9999 := by omega
     have hmidy : mid = (mid - 1) + 1 := by omega
     have OF := Lib.hid (fun wx => rof_any mid (by omega) wx)
     have hmB := Lib.hid (fun vx wx h1 h2 => MB.out mid hm9 vx wx h1 h2)
     have hcM := Lib.hid (fun vx wx h1 h2 => CM.out mid hm9 y hyb.out vx v4 wx h1 h2)
     replace hmid := Lib.hid hmid
     replace hmidy := Lib.hid hmidy
     replace hXb := Lib.hid hXb
     replace hvb := Lib.hid hvb
     go_wp2_with fail
     with_reducible refine Calls.mono (OF.out _) ?_
     rintro e w5 ⟨v5, rfl, hv5, hb5⟩
     replace hv5 := Lib.hid hv5
     have B5 := hbl.trans (hb5.mono hbl.size)
     have hvb5 := Lib.hid (hvb.out.below hb5)
     have hX5 := Lib.hid (hXb.out.below hb5 hXb.out.lt)
     clear hb5
     go_wp2_with fail
     with_reducible refine Calls.mono (hmB.out _ _ (hb.out.below B5) hv5.out) ?_
     rintro e w6 ⟨v6, rfl, hv6, hb6⟩
     replace hv6 := Lib.hid hv6
     have B6 := B5.trans (hb6.mono B5.size)
     have hvb6 := Lib.hid (hvb5.out.below hb6)
     have hX6 := Lib.hid (hX5.out.below hb6 hX5.out.lt)
     clear hb6 B5
     by_cases hle : b * mid ≤ y
     ·have k3 : decide (cmpI (b * mid) y ≤ 0) = true := decide_eq_true (by unfold cmpI; split <;> (try split) <;> omega)
      replace hle := Lib.hid hle
      generalize cmpI (b * mid) y = zz at *
      go_wp2_with fail
      with_reducible refine Calls.mono (hcM.out _ _ hv6.out hvb6.out) ?_
      rintro e w7 ⟨rfl, hb7⟩
      have B7 := B6.trans (hb7.mono B6.size)
      have hvb7 := Lib.hid (hvb6.out.below hb7)
      have hX7 := Lib.hid (hX6.out.below hb7 hX6.out.lt)
      clear hb7 B6
      go_wp2_with fail
      go_roundw
      case rel => exact ⟨mid, h, rfl, rfl, hm2, hh9, hle.out, hq2.out, hX7.out, hvb7.out, B7⟩
      case measure => simp [intOf]; omega
     ·have k3 : decide (cmpI (b * mid) y ≤ 0) = false := decide_eq_false (by rw [cmpI_gt (by omega)]; omega)
      replace hle := Lib.hid hle
      generalize cmpI (b * mid) y = zz at *
      go_wp2_with fail
      with_reducible refine Calls.mono (hcM.out _ _ hv6.out hvb6.out) ?_
      rintro e w7 ⟨rfl, hb7⟩
      have B7 := B6.trans (hb7.mono B6.size)
      have hvb7 := Lib.hid (hvb6.out.below hb7)
      have hX7 := Lib.hid (hX6.out.below hb7 hX6.out.lt)
      clear hb7 B6
      go_wp2_with fail
      go_roundw
      case rel => exact ⟨l, mid - 1, rfl, by first | rfl | go_num, by omega, by omega, hq1.out, (by rw [← hmidy.out]; exact Nat.lt_of_not_le hle.out), hX7.out, hvb7.out, B7⟩
      case measure => simp [intOf]; omega
    ·obtain rfl : l = h := by omega
     have k2 : ¬ (l : Int) < (l : Int) := by omega
     have hyd : y / b = l := Nat.div_eq_of_lt_le (by rw [Nat.mul_comm]; exact hq1.out) (by rw [Nat.mul_comm]; exact hq2.out)
     rw [hyd] at hN hq9
     have OF := Lib.hid (fun wx => rof_any l (by omega) wx)
     have hmB := Lib.hid (fun vx wx h1 h2 => MB.out l hh9 vx wx h1 h2)
     have hsB := Lib.hid (fun vx wx h1 h2 => SB.out l y hyb.out hq1.out vx v4 wx h1 h2)
     have hcX := hXb.cell k hkX.out
     have hfX := hXb.frozen k
     have hb1 := hbl.setCell (p := ⟨g, k, none⟩) hgB (.int .i64 (l : Int))
     have hXs := Lib.hid (hXb.set k l)
     have hvs := Lib.hid (Sl.set_off (k := k) (u := .int .i64 (l : Int)) hvb ho3.out)
     replace hXb := Lib.hid hXb
     go_wp2_with fail
     with_reducible refine Calls.mono (OF.out _) ?_
     rintro e w5 ⟨v5, rfl, hv5, hb5⟩
     replace hv5 := Lib.hid hv5
     have B5 := hb1.trans (hb5.mono hb1.size)
     have hvb5 := Lib.hid (hvs.out.below hb5)
     have hX5 := Lib.hid (hXs.out.below hb5 hXs.out.lt)
     clear hb5 hXs hvs hcX hfX hb1
     go_wp2_with fail
     with_reducible refine Calls.mono (hmB.out _ _ (hb.out.below B5) hv5.out) ?_
     rintro e w6 ⟨v6, rfl, hv6, hb6⟩
     replace hv6 := Lib.hid hv6
     have B6 := B5.trans (hb6.mono B5.size)
     have hvb6 := Lib.hid (hvb5.out.below hb6)
     have hX6 := Lib.hid (hX5.out.below hb6 hX5.out.lt)
     clear hb6 B5
     go_wp2_with fail
     with_reducible refine Calls.mono (hsB.out _ _ hvb6.out hv6.out) ?_
     rintro e w7 ⟨v7, rfl, hv7, hb7⟩
     replace hv7 := Lib.hid hv7
     have B7 := B6.trans (hb7.mono B6.size)
     have hX7 := Lib.hid (hX6.out.below hb7 hX6.out.lt)
     clear hb7 B6
     go_wp2_with fail
     go_roundw
     case rel => exact ⟨k, X.set k l, y - b * l, by first | rfl | go_num, by omega, by rw [List.length_set]; exact hXl.out, hN.out, hX7.out, hv7.out, B7⟩
     case measure => simp [intOf]
/-- Div, for b above 0. -/
theorem rdiv_any (va vb : Value) (a b : Nat) (hb0 : 0 < b) (la : (td a).length ≤ 1000) (lb : (td b).length ≤ 1000) (w : World) (ha : Rn w va a) (hb : Rn w vb b) :
  Calls Tryz.prog 78 #[va, vb] w fun e w' => ∃ v1 v2, e = .returned (.tuple #[v1, v2]) ∧ Rn w' v1 (a / b) ∧ Rn w' v2 (a % b) ∧ Below w.heap.size w w' := by
 rcases Nat.lt_or_ge a b with h | h
 ·refine (rdiv_small va vb a b h la lb w ha hb).mono ?_
  rintro e w' ⟨rfl, hbl⟩
  refine ⟨_, _, rfl, ?_, ?_, hbl⟩
  ·rw [Nat.div_eq_of_lt h]
   show Sl w' _ (td 0)
   rw [td_zero]; exact Sl.nil w'
  ·rw [Nat.mod_eq_of_lt h]; exact ha.below hbl
 ·exact rdiv_big va vb a b h hb0 la w ha hb
end Go.Proofs.YtahfcciihkkegaaGreatDoor.Rx
namespace Go.Proofs.YtahfcciihkkegaaGreatDoor.Rx
open Go.RowKit
attribute [local irreducible] tv dg cmpI txt decB nb isq
theorem Sl.inj {w : World} {v : Value} {l m : List Nat} (h : Sl w v l) (k : Sl w v m) : l = m := by
 rcases h with ⟨ao, c, e1, rfl, -⟩ | ⟨a, c, e1, -, h3⟩
 ·rcases k with ⟨_, _, _, rfl, -⟩ | ⟨a', c', e2, -, -⟩
  ·rfl
  ·rw [e1] at e2
   injection e2 with _ e3 _
   exact (List.eq_nil_of_length_eq_zero e3.symm).symm
 ·rcases k with ⟨_, _, e2, rfl, -⟩ | ⟨a', c', e2, -, k3⟩
  ·rw [e1] at e2
   injection e2 with _ e3 _
   exact List.eq_nil_of_length_eq_zero e3
  ·rw [e1] at e2
   injection e2 with e4 e3 _
   injection e4 with e4
   subst e4
   refine List.ext_getElem e3 fun i h1 h2 => ?_
   have := (h3.cell i h1).symm.trans (k3.cell i h2)
   injection this with this
   injection this with _ this
   exact Int.ofNat.inj this
theorem Rn.inj {w : World} {v : Value} {x y : Nat} (h : Rn w v x) (k : Rn w v y) : x = y := by
 have := congrArg tv (Sl.inj h k)
 rwa [tv_td, tv_td] at this
open Classical in
noncomputable def dec (w : World) (v : Value) : Nat := if h : ∃ y, Rn w v y then h.choose else 0
theorem dec_eq {w : World} {v : Value} {y : Nat} (h : Rn w v y) : dec w v = y := by
 unfold dec
 rw [dif_pos ⟨y, h⟩]
 exact Rn.inj (Exists.choose_spec (⟨y, h⟩ : ∃ y, Rn w v y)) h
theorem rgcd_any (va vb : Value) (a b : Nat) (la : (td a).length ≤ 1000) (lb : (td b).length ≤ 1000) (w : World) (ha : Rn w va a) (hb : Rn w vb b) :
  Calls Tryz.prog 118 #[va, vb] w fun e w' => ∃ v, e = .returned v ∧ Rn w' v (Nat.gcd a b) ∧ Below w.heap.size w w' := by
 replace ha := Lib.hid ha
 replace hb := Lib.hid hb
 go_enter Tryz.func118, Tryz.ntmps118
 go_wp2_with fail
 go_loopw [0, 1] (fun av bv wr => ∃ (x y : Nat), Rn wr av x ∧ Rn wr bv y ∧ Nat.gcd x y = Nat.gcd a b ∧ (td x).length ≤ 1000 ∧ (td y).length ≤ 1000 ∧ Below w.heap.size w wr) (fun _ bv wr => dec wr bv)
 case atStart => exact ⟨a, b, ha.out, hb.out, rfl, la, lb, Below.refl _ _⟩
 case round =>
  obtain ⟨x, y, hx, hy, hg, lx, ly, hbl⟩ := hrel
  clear ha hb
  have hm := Lib.hid (dec_eq hy)
  obtain ⟨yo, yc, ey⟩ := hy.form
  obtain ⟨xo, xc, ex⟩ := hx.form
  subst ey ex
  obtain ⟨M, hM⟩ : ∃ M, M = (td y).length := ⟨_, rfl⟩
  rcases Nat.eq_zero_or_pos y with h0 | h0
  ·have hM0 : M = 0 := by rw [hM, h0, td_zero]; rfl
   have hgx : x = Nat.gcd a b := by rw [← hg, h0, Nat.gcd_zero_right]
   rw [← hM, hM0]
   rw [hgx] at hx
   rw [hgx]
   replace hx := Lib.hid hx
   clear hy hm hM hM0 hg hgx
   go_wp2_with fail
   go_ret
   exact ⟨_, rfl, hx.out, hbl⟩
  ·have D := Lib.hid (rdiv_any _ _ x y h0 lx ly wr hx hy)
   rw [← hM] at hy ly D hm ⊢
   have hMp : (0 : Int) < (M : Int) := by
    have : M ≠ 0 := fun h => by
     have := td_nil.1 (List.eq_nil_of_length_eq_zero (hM.symm.trans h))
     omega
    omega
   replace hy := Lib.hid hy
   replace hM := Lib.hid hM
   clear hx
   generalize (td x).length = N at *
   go_wp2_with fail
   with_reducible refine Calls.mono D.out ?_
   rintro e w1 ⟨v1, v2, rfl, h1, h2, hb1⟩
   replace h2 := Lib.hid h2
   clear h1
   have hyb := Lib.hid (hy.out.below hb1)
   have hD := hbl.trans (hb1.mono hbl.size)
   go_wp2_with fail
   go_roundw
   case rel => exact ⟨y, x % y, hyb.out, h2.out, (by rw [← hg, Nat.gcd_comm x y, Nat.gcd_rec y x, Nat.gcd_comm]), (by rw [← hM.out]; exact ly), Nat.le_trans (td_mono (Nat.le_of_lt (Nat.mod_lt x h0))) (by rw [← hM.out]; exact ly), hD⟩
   case measure => rw [dec_eq h2.out, hm.out]; exact Nat.mod_lt x h0
end Go.Proofs.YtahfcciihkkegaaGreatDoor.Rx
namespace Go.Proofs.YtahfcciihkkegaaGreatDoor
open Go.RowKit Go.Proofs.YtahfcciihkkegaaGreatDoor.Rx
attribute [local irreducible] lo hs sm s64 c64 d64 b64 mh ml pd pc qd qc val hiB str cmpI srD lz nb isq decB zl zh zs dval
theorem td_of_digs {n k : Nat} (h : (digs n).length ≤ k) : (td n).length ≤ 5 * k := by
 rw [td_length, Nat.pow_mul]
 refine Nat.lt_of_lt_of_le (digs_length_iff.1 h) (Nat.pow_le_pow_left ?_ k)
 unfold Bs; omega
theorem Sz.tn {q : Rat} {k : Nat} (h : Sz q k) : (td q.num.natAbs).length ≤ 5 * k := td_of_digs h.1
theorem Sz.tdn {q : Rat} {k : Nat} (h : Sz q k) : (td q.den).length ≤ 5 * k := td_of_digs h.2
theorem Sz.tf {q : Rat} {k : Nat} (h : Sz q k) : (td (fd q)).length ≤ 5 * k := Nat.le_trans (td_mono (Nat.sub_le _ _)) h.tdn
theorem fd_succ (q : Rat) : fd q + 1 = q.den := by have := q.den_nz; unfold fd; omega
theorem td_one : (td 1).length ≤ 1 := by rw [td_length]; omega
theorem one_r (w : World) : Calls Tryz.prog 80 #[.int .u64 1] w fun e w' => ∃ v, e = .returned v ∧ Rn w' v 1 ∧ Below w.heap.size w w' := rof_val 1 1 rfl (by omega) w
theorem rone (w : World) : Calls Tryz.prog 120 #[] w fun e w' => ∃ v, e = .returned v ∧ Rn w' v 1 ∧ Below w.heap.size w w' := rone_w one_r w
/-- From, of a sign and a size. -/
theorem rz_from (b : Bool) (n : Nat) (z : Int) (hb : (b && decide (n ≠ 0)) = decide (z < 0)) (hn : n = z.natAbs) (v : Value) (w : World) (h : Rn w v n) :
  Calls Tryz.prog 117 #[.bool b, v] w fun e w' => ∃ v, e = .returned v ∧ RZ w' v z ∧ Below w.heap.size w w' :=
 (rfrom_any b v n w h).mono fun e w' ⟨h1, h2⟩ => ⟨_, h1, RZ.of (Sl.below h h2) hb hn, h2⟩
theorem rden (q : Rat) {k : Nat} (hq : Sz q k) (hk : k ≤ 1000) (v : Value) (w : World) (h : RF w v q) :
  Calls Tryz.prog 77 #[v] w fun e w' => ∃ v, e = .returned v ∧ Rn w' v q.den ∧ Below w.heap.size w w' :=
 rfden_w q q.den rone (fun v1 v2 w h1 h2 => by rw [← fd_succ q]; exact radd_any v1 v2 _ 1 (Nat.le_trans hq.tf (by omega)) (Nat.le_trans td_one (by omega)) w h1 h2) v w h
theorem rzden (q : Rat) {k : Nat} (hq : Sz q k) (hk : k ≤ 1000) (v : Value) (w : World) (h : RF w v q) :
  Calls Tryz.prog 134 #[v] w fun e w' => ∃ v, e = .returned v ∧ RZ w' v (q.den : Int) ∧ Below w.heap.size w w' :=
 rfzden_w q q.den q.den (rden q hq hk) (rz_from false _ _ (by simp) (by simp)) v w h
theorem rfrom (z : Int) (d : Nat) (h0 : d ≠ 0) (lz : (Rx.td z.natAbs).length ≤ 1000) (ld : (Rx.td d).length ≤ 1000) (v1 v2 : Value) (w : World) (h1 : RZ w v1 z) (h2 : Rn w v2 d) :
  Calls Tryz.prog 58 #[v1, v2] w fun e w' => ∃ v, e = .returned v ∧ RF w' v (mkRat z d) ∧ Below w.heap.size w w' := by
 obtain ⟨c1, c2⟩ := canc (z := z) h0
 have hg : 0 < Nat.gcd z.natAbs d := Nat.gcd_pos_of_pos_right _ (by omega)
 have hgl : (Rx.td (Nat.gcd z.natAbs d)).length ≤ 1000 := Nat.le_trans (td_mono (Nat.gcd_le_right _ (by omega))) ld
 have e1 : d / Nat.gcd z.natAbs d = (mkRat z d).den := c2.symm
 have e2 : (mkRat z d).num.natAbs = z.natAbs / Nat.gcd z.natAbs d := by rw [c1, Int.natAbs_tdiv]; rfl
 have e3 : (zs z && decide (z.natAbs / Nat.gcd z.natAbs d ≠ 0)) = decide ((mkRat z d).num < 0) := by
  rw [c1, tdiv_sgn]
  generalize z.natAbs / Nat.gcd z.natAbs d = x
  unfold zs
  by_cases h : z < 0 <;> by_cases h' : x = 0 <;> simp [h, h'] <;> omega
 exact rffrom_w z d (Nat.gcd z.natAbs d) (z.natAbs / Nat.gcd z.natAbs d) (z.natAbs % Nat.gcd z.natAbs d) (d / Nat.gcd z.natAbs d) (d % Nat.gcd z.natAbs d) (mkRat z d)
  (fun a b w ha hb => rgcd_any a b _ _ lz ld w ha hb) (fun a b w ha hb => rdiv_any a b _ _ hg lz hgl w ha hb) (fun a b w ha hb => rdiv_any a b _ _ hg ld hgl w ha hb)
  (fun a w ha => rz_from _ _ _ e3 e2.symm a w ha) rone
  (fun a b w ha hb => by
   have h3 := (mkRat z d).den_nz
   have := rsub_any a b _ 1 (by rw [e1]; exact Nat.le_trans (td_mono (by rw [c2]; exact Nat.div_le_self _ _)) (Nat.le_trans ld (by omega))) (by omega) w ha hb
   rw [e1] at this
   exact this) v1 v2 w h1 h2
theorem fd_neg (q : Rat) : fd (-q) = fd q := rfl
theorem rneg (q : Rat) (v : Value) (w : World) (h : RF w v q) : Calls Tryz.prog 73 #[v] w fun e w' => ∃ v, e = .returned v ∧ RF w' v (-q) ∧ Below w.heap.size w w' :=
 rfneg_w q (-q) (fun a w ha => rznegI a _ w ha) (fd_neg q) v w h
theorem rzsignI (z : Int) (v : Value) (w : World) (h : RZ w v z) : Calls Tryz.prog 116 #[v] w fun e w' => e = .returned (.int .i64 (sgn z)) ∧ Below w.heap.size w w' := by
 obtain ⟨ao, c, rfl⟩ := rz_form h
 unfold sgn
 by_cases h0 : z < 0
 ·rw [if_pos h0, show zs z = true from by unfold zs; exact decide_eq_true h0]
  exact rzsign_neg ao _ c (Nat.pos_of_ne_zero fun e => by have := (td_len_zero _).1 e; omega) w
 ·rw [if_neg h0, show zs z = false from by unfold zs; exact decide_eq_false h0]
  by_cases h1 : z = 0
  ·rw [if_pos h1]
   exact rzsign_zero false ao _ c ((td_len_zero _).2 (by omega)) w
  ·rw [if_neg h1]
   exact rzsign_pos ao _ c (Nat.pos_of_ne_zero fun e => by have := (td_len_zero _).1 e; omega) w
theorem rsign (q : Rat) (v : Value) (w : World) (h : RF w v q) : Calls Tryz.prog 72 #[v] w fun e w' => e = .returned (.int .i64 (sgnQ q)) ∧ Below w.heap.size w w' := by
 rw [sgnQ_num]; exact rfsign_w q _ (rzsignI q.num) v w h
theorem mk_add (p q : Rat) : mkRat (p.num * q.den + q.num * p.den) (p.den * q.den) = p + q := (Rat.add_def' p q).symm
theorem mk_mul (p q : Rat) : mkRat (p.num * q.num) (p.den * q.den) = p * q := (Rat.mul_def' p q).symm
theorem radd (p q : Rat) {k : Nat} (hp : Sz p k) (hq : Sz q k) (hk : k ≤ 90) (v1 v2 : Value) (w : World) (h1 : RF w v1 p) (h2 : RF w v2 q) :
  Calls Tryz.prog 70 #[v1, v2] w fun e w' => ∃ v, e = .returned v ∧ RF w' v (p + q) ∧ Below w.heap.size w w' := by
 have a1 := hp.tn; have a2 := hq.tn; have a3 := hp.tdn; have a4 := hq.tdn
 have t1 := td_mul_le a1 a4; have t2 := td_mul_le a2 a3; have t3 := td_mul_le a3 a4
 rw [← mk_add]
 have g1 : (Rx.td (p.num * (q.den : Int)).natAbs).length ≤ 5 * k + 5 * k := by rw [Int.natAbs_mul, Int.natAbs_natCast]; exact t1
 have g2 : (Rx.td (q.num * (p.den : Int)).natAbs).length ≤ 5 * k + 5 * k := by rw [Int.natAbs_mul, Int.natAbs_natCast]; exact t2
 have g3 := Nat.le_trans (td_mono (Int.natAbs_add_le _ _)) (td_add_le g1 g2)
 exact rfadd_w p q _ p.den q.den (p.num * q.den) (q.num * p.den) (p.num * q.den + q.num * p.den) p.den q.den (p.den * q.den) (rzden p hp (by omega)) (rzden q hq (by omega))
  (fun a b w ha hb => rzmulI a b _ _ (by omega) (by rw [Int.natAbs_natCast]; omega) w ha hb) (fun a b w ha hb => rzmulI a b _ _ (by omega) (by rw [Int.natAbs_natCast]; omega) w ha hb)
  (fun a b w ha hb => rzaddI a b _ _ (by omega) (by omega) w ha hb) (rden p hp (by omega)) (rden q hq (by omega)) (fun a b w ha hb => rmul_any a b _ _ (by omega) (by omega) w ha hb)
  (rfrom _ _ (Nat.mul_ne_zero p.den_nz q.den_nz) (by omega) (by omega)) v1 v2 w h1 h2
theorem rsub (p q : Rat) {k : Nat} (hp : Sz p k) (hq : Sz q k) (hk : k ≤ 90) (v1 v2 : Value) (w : World) (h1 : RF w v1 p) (h2 : RF w v2 q) :
  Calls Tryz.prog 113 #[v1, v2] w fun e w' => ∃ v, e = .returned v ∧ RF w' v (p - q) ∧ Below w.heap.size w w' := by
 rw [Rat.sub_eq_add_neg]; exact rfsub_w p q (-q) _ (rneg q) (radd p (-q) hp hq.neg hk) v1 v2 w h1 h2
theorem rmul (p q : Rat) {k : Nat} (hp : Sz p k) (hq : Sz q k) (hk : k ≤ 90) (v1 v2 : Value) (w : World) (h1 : RF w v1 p) (h2 : RF w v2 q) :
  Calls Tryz.prog 71 #[v1, v2] w fun e w' => ∃ v, e = .returned v ∧ RF w' v (p * q) ∧ Below w.heap.size w w' := by
 have a1 := hp.tn; have a2 := hq.tn; have a3 := hp.tdn; have a4 := hq.tdn
 have t1 := td_mul_le a1 a2; have t3 := td_mul_le a3 a4
 have g1 : (Rx.td (p.num * q.num).natAbs).length ≤ 5 * k + 5 * k := by rw [Int.natAbs_mul]; exact t1
 rw [← mk_mul]
 exact rfmul_w p q _ (p.num * q.num) p.den q.den (p.den * q.den) (fun a b w ha hb => rzmulI a b _ _ (by omega) (by omega) w ha hb) (rden p hp (by omega)) (rden q hq (by omega)) (fun a b w ha hb => rmul_any a b _ _ (by omega) (by omega) w ha hb)
  (rfrom _ _ (Nat.mul_ne_zero p.den_nz q.den_nz) (by omega) (by omega)) v1 v2 w h1 h2
theorem rcmp (p q : Rat) {k : Nat} (hp : Sz p k) (hq : Sz q k) (hk : k ≤ 90) (v1 v2 : Value) (w : World) (h1 : RF w v1 p) (h2 : RF w v2 q) :
  Calls Tryz.prog 114 #[v1, v2] w fun e w' => e = .returned (.int .i64 (cmpQ p q)) ∧ Below w.heap.size w w' := by
 rw [show cmpQ p q = sgnQ (p - q) by unfold cmpQ sgnQ; grind]
 exact rfcmp_w p q _ _ (rsub p q hp hq hk) (rsign _) v1 v2 w h1 h2
theorem mk_inv {q : Rat} (h : q ≠ 0) : mkRat (if q.num < 0 then -(q.den : Int) else (q.den : Int)) q.num.natAbs = q⁻¹ := by
 obtain ⟨h1, h2⟩ := rinv_parts h
 rw [← h1, ← h2, Rat.mkRat_self]
theorem rdivF (p q : Rat) {k : Nat} (hp : Sz p k) (hq : Sz q k) (h0 : q ≠ 0) (hk : k ≤ 90) (v1 v2 : Value) (w : World) (h1 : RF w v1 p) (h2 : RF w v2 q) :
  Calls Tryz.prog 55 #[v1, v2] w fun e w' => ∃ v, e = .returned v ∧ RF w' v (p / q) ∧ Below w.heap.size w w' := by
 have a2 := hq.tn; have a4 := hq.tdn
 have hn : q.num ≠ 0 := fun e => h0 (Rat.num_eq_zero.1 e)
 have hd := q.den_nz
 have hs : (sgnQ q == 0) = false := beq_eq_false_iff_ne.2 (by rw [sgnQ_num]; split <;> (try split) <;> omega)
 rw [Rat.div_def]
 have e : (zs q.num && decide (q.den ≠ 0)) = decide ((if q.num < 0 then -(q.den : Int) else (q.den : Int)) < 0) := by
  unfold zs
  by_cases h : q.num < 0 <;> simp [h, hd] <;> omega
 have e2 : q.den = (if q.num < 0 then -(q.den : Int) else (q.den : Int)).natAbs := by split <;> simp
 have hf := rfrom (if q.num < 0 then -(q.den : Int) else (q.den : Int)) q.num.natAbs (by omega) (by rw [← e2]; omega) (by omega)
 rw [mk_inv h0] at hf
 exact rfdiv_w p q q⁻¹ _ _ _ q.den (rsign q) (rden q hq (by omega)) (rz_from _ _ _ e e2) hf (rmul p q⁻¹ hp (hq.inv h0) hk) hs v1 v2 w h1 h2
theorem rzof_one (w : World) : Calls Tryz.prog 61 #[.int .i64 1] w fun e w' => ∃ v, e = .returned v ∧ RZ w' v 1 ∧ Below w.heap.size w w' :=
 rzof_pos 1 1 1 1 one_r (rz_from false 1 1 rfl rfl) (by decide) (by decide) w
theorem ed_uniq {x y q r : Int} (h0 : y ≠ 0) (h : r + y * q = x) (h1 : 0 ≤ r) (h2 : r < (y.natAbs : Int)) : x / y = q ∧ x % y = r := by
 rcases Int.lt_or_gt_of_ne h0 with hy | hy
 ·have h3 := (Int.ediv_emod_unique (a := x) (b := -y) (q := -q) (r := r) (by omega)).2 ⟨by rw [Int.neg_mul_neg]; exact h, h1, by omega⟩
  rw [Int.ediv_neg, Int.emod_neg] at h3
  exact ⟨by omega, h3.2⟩
 ·exact (Int.ediv_emod_unique hy).2 ⟨h, h1, by omega⟩
/-- The division of integers. -/
theorem rzdivI (x y : Int) (h0 : y ≠ 0) (lx : (Rx.td x.natAbs).length ≤ 1000) (ly : (Rx.td y.natAbs).length ≤ 1000) (v1 v2 : Value) (w : World) (h1 : RZ w v1 x) (h2 : RZ w v2 y) :
  Calls Tryz.prog 115 #[v1, v2] w fun e w' => ∃ a b, e = .returned (.tuple #[a, b]) ∧ RZ w' a (x / y) ∧ RZ w' b (x % y) ∧ Below w.heap.size w w' := by
 have hy : 0 < y.natAbs := by omega
 have HD := fun a b w ha hb => rdiv_any a b x.natAbs y.natAbs hy lx ly w ha hb
 have hm := Nat.mod_lt x.natAbs hy
 have hdm := Nat.div_add_mod x.natAbs y.natAbs
 have lq : (Rx.td (x.natAbs / y.natAbs)).length ≤ 1000 := Nat.le_trans (td_mono (Nat.div_le_self _ _)) lx
 have lm : (Rx.td (x.natAbs % y.natAbs)).length ≤ 1000 := Nat.le_trans (td_mono (Nat.mod_le _ _)) lx
 generalize x.natAbs / y.natAbs = q at *
 generalize x.natAbs % y.natAbs = m at *
 -- the two signed parts
 obtain ⟨u, hu, hub, hul⟩ : ∃ u : Int, (u = if zs x == zs y then (q : Int) else -q) ∧ ((!(zs x == zs y)) && decide (q ≠ 0)) = decide (u < 0) ∧ q = u.natAbs := by
  refine ⟨_, rfl, ?_, ?_⟩
  ·rw [Bool.eq_iff_iff]; cases zs x == zs y <;> simp <;> omega
  ·split <;> simp
 obtain ⟨v, hv, hvb, hvl⟩ : ∃ v : Int, (v = if zs x then -(m : Int) else m) ∧ (zs x && decide (m ≠ 0)) = decide (v < 0) ∧ m = v.natAbs := by
  refine ⟨_, rfl, ?_, ?_⟩
  ·rw [Bool.eq_iff_iff]; cases zs x <;> simp <;> omega
  ·split <;> simp
 have hx : v + y * u = x := by
  have e : (y.natAbs : Int) * (q : Int) + m = (x.natAbs : Int) := by exact_mod_cast hdm
  have zx : zs x = decide (x < 0) := by unfold zs; rfl
  have zy : zs y = decide (y < 0) := by unfold zs; rfl
  rw [hu, hv, zx, zy]
  have ey' : (y.natAbs : Int) = if y < 0 then -y else y := by split <;> omega
  have ex' : (x.natAbs : Int) = if x < 0 then -x else x := by split <;> omega
  rw [ey', ex'] at e
  by_cases ex : x < 0 <;> by_cases ey : y < 0 <;> simp [ex, ey] at e ⊢ <;> grind
 have lu : (Rx.td u.natAbs).length ≤ 1000 := by rw [← hul]; exact lq
 have lv : (Rx.td v.natAbs).length ≤ 1000 := by rw [← hvl]; exact lm
 have HF := fun a w ha => rz_from (!(zs x == zs y)) q u hub hul a w ha
 have HG := fun a w ha => rz_from (zs x) m v hvb hvl a w ha
 have l1 : (Rx.td (1 : Int).natAbs).length ≤ 1000000 := Nat.le_trans td_one (by omega)
 by_cases hv0 : v < 0
 ·have s0 : decide (sgn v < 0) = true := decide_eq_true (by unfold sgn; rw [if_pos hv0]; omega)
  by_cases hy0 : 0 < y
  ·obtain ⟨d1, d2⟩ := ed_uniq (x := x) (q := u - 1) (r := v + y) h0 (by rw [Int.mul_sub, Int.mul_one]; omega) (by omega) (by omega)
   rw [d1, d2]
   exact rzdiv_pos x y u v (sgn v) (sgn y) q m 1 _ _ HD HF HG (rzsignI v) (rzsignI y) (rzof_one) (fun a b w ha hb => rzsubI a b _ _ (by omega) l1 w ha hb) (fun a b w ha hb => rzaddI a b _ _ (by omega) (by omega) w ha hb) s0 (decide_eq_true (by unfold sgn; rw [if_neg (by omega), if_neg (by omega)]; omega)) v1 v2 w h1 h2
  ·obtain ⟨d1, d2⟩ := ed_uniq (x := x) (q := u + 1) (r := v - y) h0 (by rw [Int.mul_add, Int.mul_one]; omega) (by omega) (by omega)
   rw [d1, d2]
   exact rzdiv_neg x y u v (sgn v) (sgn y) q m 1 _ _ HD HF HG (rzsignI v) (rzsignI y) (rzof_one) (fun a b w ha hb => rzaddI a b _ _ (by omega) l1 w ha hb) (fun a b w ha hb => rzsubI a b _ _ (by omega) (by omega) w ha hb) s0 (decide_eq_false (by unfold sgn; rw [if_pos (by omega)]; omega)) v1 v2 w h1 h2
 ·obtain ⟨d1, d2⟩ := ed_uniq (x := x) (q := u) (r := v) h0 hx (by omega) (by omega)
  rw [d1, d2]
  exact rzdiv_plain x y u v (sgn v) 0 q m HD HF HG (rzsignI v) (decide_eq_false (by unfold sgn; rw [if_neg hv0]; split <;> omega)) v1 v2 w h1 h2
theorem rfloorF (q : Rat) {k : Nat} (hq : Sz q k) (hk : k ≤ 90) (v : Value) (w : World) (h : RF w v q) :
  Calls Tryz.prog 112 #[v] w fun e w' => ∃ v, e = .returned v ∧ RZ w' v q.floor ∧ Below w.heap.size w w' := by
 have a2 := hq.tn; have a4 := hq.tdn
 have hd := q.den_nz
 rw [rfloor]
 exact rffloor_w q q.den _ (q.num % (q.den : Int)) (rzden q hq (by omega)) (rzdivI q.num q.den (by omega) (by omega) (by rw [Int.natAbs_natCast]; omega)) v w h
end Go.Proofs.YtahfcciihkkegaaGreatDoor
namespace Go.Proofs.YtahfcciihkkegaaGreatDoor
open Go.RowKit
attribute [local irreducible] lo hs sm s64 c64 d64 b64 mh ml pd pc qd qc val hiB str cmpI srD lz nb isq decB zl zh zs
theorem szc (q : Rat) (h1 : q.num.natAbs < 18446744073709551616) (h2 : q.den < 18446744073709551616) : Sz q 1 :=
 ⟨digs_length_iff.2 (by rw [Nat.pow_one]; exact h1), digs_length_iff.2 (by rw [Nat.pow_one]; exact h2)⟩
theorem txt1 (d : Nat) (h : d < 10) : txt d = ⟨#[dch d]⟩ := by unfold txt; rw [dec_small h]
theorem zt_neg (d : Nat) (h : d < 10) (h0 : 0 < d) : ztxt (-(d : Int)) = ⟨#[45, dch d]⟩ := by
 unfold ztxt; rw [if_pos (by omega), Int.natAbs_neg, Int.natAbs_natCast, txt1 d h]; rfl
theorem qt_part {q : Rat} {z : Int} {d : Nat} (h1 : q.den = d) (hd : d ≠ 1) (h2 : q.num = z) : qtxt q = ztxt z ++ ByteArray.mk #[47] ++ txt d := by unfold qtxt; rw [if_neg (by rw [h1]; exact hd), h1, h2]
/-- The variable of package bytealg that strings.Cut looks at. -/
def MaxL (w : World) : Prop := ∃ m, w.cell? ⟨0, 0, none⟩ = some (.int .i64 m)
theorem MaxL.keeps : Keeps MaxL := fun w w' hb ⟨m, h⟩ => ⟨m, by
 have hl := World.block_lt_of_cell? w _ h
 exact (hb.cell (p := ⟨0, 0, none⟩) hl).trans h⟩
theorem maxL_of {w : World} (h : w.ShapedOpen Tryz.prog) : MaxL w := Tryz.laysM145.s1_3 w h
end Go.Proofs.YtahfcciihkkegaaGreatDoor
namespace Go.Proofs.YtahfcciihkkegaaGreatDoor
open Go.RowKit
attribute [local irreducible] lo hs sm s64 c64 d64 b64 mh ml pd pc qd qc val hiB str cmpI srD lz nb isq decB zl zh zs
/-- A Great as plain data. -/
def gmade (s : Bool) (l k : List Nat) : Rat := mkRat (zmade s l) (made k + 1)
theorem gof_any (s : Bool) (a b : Option Addr) (n c m d : Nat) (l k : List Nat) (hl : l.length ≤ 1000) (hk : k.length ≤ 1000) (w : World) (h1 : Ws w (.slice a n c) l) (h2 : Ws w (.slice b m d) k) :
  Calls Tryz.prog 13 #[.agg #[.bool s, .slice a n c, .slice b m d]] w fun xe w' => xe = .returned (fracV (gmade s l k)) ∧ Below w.heap.size w w' := by
 have d1 := zmade_dI (s := s) h1.lt
 have d2 := made_digs h2.lt
 have dz1 : (digs 1).length ≤ 1 := digs_length_iff.2 (by rw [Nat.pow_one]; exact Bs_gt)
 have d3 : (digs (made k + 1)).length ≤ 1001 := Nat.le_trans (digs_add_le (k := 1000) (by omega) (Nat.le_trans dz1 (by omega))) (by omega)
 refine gof_w s a b n c m d (zmade false k) (zmade s l) _ (made k) (made k + 1) _ _ (Keeps.ws _ l) (fun w h => zof_any s a n c l hl w h) (fun w => gden_w s a b n c m d w) _ (Keeps.ws _ k) (fun w h => zof_any false b m d k hk w h) (fun w => ?_) one_o (fun w => add_any (made k) 1 (by omega) (by omega) w) (fromF (zmade s l) (made k + 1) (by omega) (by omega) (by omega)) w h1 h2
 have h := absI (zmade false k) w
 rw [show (zmade false k).natAbs = made k from rfl] at h
 exact h
theorem gmade_sz {s : Bool} {w : World} {a b : Option Addr} {n c m d : Nat} {l k : List Nat} {most : Nat} (hp : 0 < most) (h1 : Ws w (.slice a n c) l) (h2 : Ws w (.slice b m d) k) (hn : n ≤ most) (hm : m ≤ most) : Sz (gmade s l k) (most + 1) := by
 have e1 := h1.len
 have e2 := h2.len
 have d1 := zmade_dI (s := s) h1.lt
 have d2 := made_digs h2.lt
 refine Sz.mk (by omega) ?_ (by omega)
 have dz1 : (digs 1).length ≤ 1 := digs_length_iff.2 (by rw [Nat.pow_one]; exact Bs_gt)
 exact digs_add_le (k := most) (by omega) (by omega)
theorem sgnQ_eq0 {q : Rat} : (sgnQ q == 0) = decide (q = 0) := by
 unfold sgnQ
 by_cases h : q < 0
 ·rw [if_pos h, decide_eq_false (p := q = 0) (by grind)]; rfl
 ·rw [if_neg h]
  by_cases h' : q = 0
  ·rw [if_pos h', decide_eq_true h']; rfl
  ·rw [if_neg h', decide_eq_false h']; rfl
end Go.Proofs.YtahfcciihkkegaaGreatDoor
namespace Go.Proofs.YtahfcciihkkegaaGreatDoor
open Go.RowKit Go.Proofs.YtahfcciihkkegaaGreatDoor.Rx
attribute [local irreducible] lo hs sm s64 c64 d64 b64 mh ml pd pc qd qc val hiB str cmpI srD lz nb isq decB zl zh zs dval tln fd qtxt
theorem z_field (b : Bool) (a : Option Addr) (n c : Nat) (w : World) : (Instr.field 44 (.agg #[.bool b, .slice a n c]) 1).run Tryz.prog w = .ok (.slice a n c) w := by
 simp [go_sem, Instr.field, asAgg]
theorem zref_w (s : Bool) (a : Option Addr) (n c m : Nat) (z : Int) (K : World → Prop) (hK : Keeps K) (HO : ∀ (w : World), K w → Calls Tryz.prog 121 #[.slice a n c] w fun e w' => ∃ pv, e = .returned pv ∧ Rn w' pv m ∧ Below w.heap.size w w') (HF : ∀ (p1 : Value) (w : World), Rn w p1 m → Calls Tryz.prog 117 #[.bool s, p1] w fun e w' => ∃ pv, e = .returned pv ∧ RZ w' pv z ∧ Below w.heap.size w w') (w : World) (kK : K w) :
  Calls Tryz.prog 59 #[.agg #[.bool s, .slice a n c]] w fun e w' => ∃ pv, e = .returned pv ∧ RZ w' pv z ∧ Below w.heap.size w w' := by
 replace hK := Lib.hid hK
 replace HO := Lib.hid HO
 replace HF := Lib.hid HF
 have hL0 : GL w w [] := GL.start w
 have hS : SS w [] := SS.nil w
 obtain ⟨x1, hweq, hL0, hS⟩ := GL.named2 ((hL0.new rfl [.bool s, .slice a n c] 24).new (K := w.heap.size + 1) (szA _ _) [.bool false, .slice none 0 0] 44) ((hS.new (.cells #[.bool s, .slice a n c] 24)).new (.cells #[.bool false, .slice none 0 0] 44))
 go_enter Tryz.func59, Tryz.ntmps59
 go_upto_region 1 with fail
 clear hweq
 refine region_tl 6 [EV (.pointer (some ⟨w.heap.size, 0, none⟩)), EV (.bool s), EV (.pointer (some ⟨w.heap.size, 1, none⟩)), EV (.slice a n c), PN m, PZ z] (by kernel_rfl) (by kernel_rfl) ?_ ?_ ?_
 ·repeat' first | exact stays_nil | apply stays_cons | exact stays_eq _ | exact stays_rz _ | exact stays_rn _
 ·simp only [List.take_succ_cons, List.take_zero, hopsR, and_true]
  refine ⟨?_, ?_, ?_, ?_, ?_, ?_⟩ <;> intro fv w1 hb1 hp
  all_goals (have hc := (hL0.call (below_drew hb1)).fc; simp only [zF, Nat.reduceAdd] at hc; simp only [putsV, Act.put, zP, Nat.zero_add, Nat.reduceAdd])
  ·refine tyAt_none rfl ?_
   simp [tyUpon, execOp, go_sem, Act.eval, Below.refl]
  ·have h0 : EV _ (fv 0) w1 := hp 0 (LC (by kernel_rfl))
   refine tyAt_none rfl ?_
   simp [tyUpon, execOp, go_sem, Act.eval, hc, h0, Below.refl]
  ·refine tyAt_none rfl ?_
   simp [tyUpon, execOp, go_sem, Act.eval, Below.refl]
  ·have h2 : EV _ (fv 2) w1 := hp 2 (LC (by kernel_rfl))
   refine tyAt_none rfl ?_
   simp [tyUpon, execOp, go_sem, Act.eval, hc, h2, Below.refl]
  ·have h3 : EV _ (fv 3) w1 := hp 3 (LC (by kernel_rfl))
   refine tyAt_none rfl ?_
   refine ty_call (f := 121) (args := #[.slice a n c]) (by simp [execOp, go_sem, Act.eval, h3]) ?_
   exact (HO.out w1 (hK.out.at ((hL0.call (below_drew hb1)).bl) kK)).mono fun e w2 ⟨pv, h1, h2, h3⟩ => ⟨pv, h1, h2, h3⟩
  ·have h1 : EV _ (fv 1) w1 := hp 1 (LC (by kernel_rfl))
   have h4 : PN _ (fv 4) w1 := hp 4 (LC (by kernel_rfl))
   refine tyAt_none rfl ?_
   refine ty_call (f := 117) (args := #[.bool s, fv 4]) (by simp [execOp, go_sem, Act.eval, h1]) ?_
   exact (HF.out (fv 4) w1 h4).mono fun e w2 ⟨pv, h1, h2, h3⟩ => ⟨pv, h1, h2, h3⟩
 ·intro fv x2 hb1 hv
  have e0 : fv 0 = _ := hv 0 (by omega)
  have e1 : fv 1 = _ := hv 1 (by omega)
  have e2 : fv 2 = _ := hv 2 (by omega)
  have e3 : fv 3 = _ := hv 3 (by omega)
  have q4 : Rn x2 (fv 4) m := hv 4 (by omega)
  obtain ⟨g1, d1, e4⟩ := rn_form q4
  rw [e4] at q4
  have q5 : RZ x2 (fv 5) z := hv 5 (by omega)
  obtain ⟨g2, d2, e5⟩ := rz_form q5
  rw [e5] at q5
  simp only [List.take_succ_cons, List.take_zero, putsV, Act.put, zP, List.drop_succ_cons, List.drop_zero, Nat.zero_add, Nat.reduceAdd, e0, e1, e2, e3, e4, e5]
  replace hL0 := hL0.call (below_drew hb1)
  replace hS := hS.call (below_drew hb1)
  replace hS := hS.cons q4
  replace hS := hS.cons (rz_rn q5)
  clear e0 e1 e2 e3 e4 e5 hb1 hv q4 q5 fv
  have hS1 := hS.put (((Upd.refl (w.heap.size + 1) x2).setCell 0 (.bool (zs z))).setCell 1 (.slice g2 (tln z.natAbs) d2)) (hL0.get _ _ mZ) (by intro v hv n; simp only [List.mem_cons, List.not_mem_nil, or_false] at hv; rcases hv with rfl | rfl <;> simp)
  have hA := hL0.fc
  simp only [zF, Nat.reduceAdd] at hA
  have hP := hL0.put 0 (w.heap.size + 1) _ rfl [.bool (zs z), .slice g2 (tln z.natAbs) d2] rfl
  simp only [setAll, List.set_cons_zero, List.set_cons_succ] at hP
  generalize hput1 : ((x2.setCell ⟨w.heap.size + 1, 0, none⟩ (.bool (zs z))).setCell ⟨w.heap.size + 1, 1, none⟩ (.slice g2 (tln z.natAbs) d2)) = x3 at hP hS1
  have hB1 := hP.fc
  simp only [zF, Nat.reduceAdd] at hB1
  replace hL0 := hP
  replace hS := hS1
  clear hS1
  go_wp2_with fail
  exact bodyPost_ret (v := .agg #[.bool (zs z), .slice g2 (tln z.natAbs) d2]) (by simp [results, Tryz.results59, go_sem, hB1]) rfl ⟨_, rfl, (rz_of (hS.get mZ)), hL0.bl⟩
theorem gref_w (s : Bool) (a b : Option Addr) (n c m d : Nat) (z y k x : Int) (q : Rat) (K : World → Prop) (hK : Keeps K) (HZ : ∀ (w : World), K w → Calls Tryz.prog 59 #[.agg #[.bool s, .slice a n c]] w fun e w' => ∃ pv, e = .returned pv ∧ RZ w' pv z ∧ Below w.heap.size w w') (HD : RT 51 #[.agg #[.bool s, .slice a n c, .slice b m d]] (.agg #[.bool false, .slice b m d])) (L : World → Prop) (hL : Keeps L) (HE : ∀ (w : World), L w → Calls Tryz.prog 59 #[.agg #[.bool false, .slice b m d]] w fun e w' => ∃ pv, e = .returned pv ∧ RZ w' pv y ∧ Below w.heap.size w w') (HO : ∀ (w : World), Calls Tryz.prog 61 #[.int .i64 1] w fun e w' => ∃ pv, e = .returned pv ∧ RZ w' pv k ∧ Below w.heap.size w w') (HA : ∀ (p0 p1 : Value) (w : World), RZ w p0 y → RZ w p1 k → Calls Tryz.prog 60 #[p0, p1] w fun e w' => ∃ pv, e = .returned pv ∧ RZ w' pv x ∧ Below w.heap.size w w') (HF : ∀ (p0 p1 : Value) (w : World), RZ w p0 z → Rn w p1 x.natAbs → Calls Tryz.prog 58 #[p0, p1] w fun e w' => ∃ pv, e = .returned pv ∧ RF w' pv q ∧ Below w.heap.size w w') (w : World) (kK : K w) (kL : L w) :
  Calls Tryz.prog 16 #[.agg #[.bool s, .slice a n c, .slice b m d]] w fun e w' => ∃ pv, e = .returned pv ∧ RF w' pv q ∧ Below w.heap.size w w' := by
 replace hK := Lib.hid hK
 replace HZ := Lib.hid HZ
 replace HD := Lib.hid HD
 replace hL := Lib.hid hL
 replace HE := Lib.hid HE
 replace HO := Lib.hid HO
 replace HA := Lib.hid HA
 replace HF := Lib.hid HF
 have hL0 : GL w w [] := GL.start w
 have hS : SS w [] := SS.nil w
 obtain ⟨x1, hweq, hL0, hS⟩ := GL.named2 ((hL0.new rfl [.bool s, .slice a n c, .slice b m d] 26).new (K := w.heap.size + 1) (szA _ _) [.bool false, .slice none 0 0, .slice none 0 0] 46) ((hS.new (.cells #[.bool s, .slice a n c, .slice b m d] 26)).new (.cells #[.bool false, .slice none 0 0, .slice none 0 0] 46))
 go_enter Tryz.func16, Tryz.ntmps16
 go_upto_region 1 with fail
 clear hweq
 refine region_tl 10 [EV (.pointer (some ⟨w.heap.size, 0, none⟩)), EV (.agg #[.bool s, .slice a n c]), PZ z, EV (.agg #[.bool s, .slice a n c, .slice b m d]), EV (.agg #[.bool false, .slice b m d]), PZ y, PZ k, PZ x, PN x.natAbs, PF q] (by kernel_rfl) (by kernel_rfl) ?_ ?_ ?_
 ·repeat' first | exact stays_nil | apply stays_cons | exact stays_eq _ | exact stays_rz _ | exact stays_rn _ | exact stays_rf _
 ·simp only [List.take_succ_cons, List.take_zero, hopsR, and_true]
  refine ⟨?_, ?_, ?_, ?_, ?_, ?_, ?_, ?_, ?_, ?_⟩ <;> intro fv w1 hb1 hp
  all_goals (have hc := (hL0.call (below_drew hb1)).fc; simp only [zF, Nat.reduceAdd] at hc; simp only [putsV, Act.put, zP, Nat.zero_add, Nat.reduceAdd])
  ·refine tyAt_none rfl ?_
   simp [tyUpon, execOp, go_sem, Act.eval, Below.refl]
  ·have h0 : EV _ (fv 0) w1 := hp 0 (LC (by kernel_rfl))
   refine tyAt_none rfl ?_
   simp [tyUpon, execOp, go_sem, Act.eval, hc, h0, Below.refl]
  ·have h1 : EV _ (fv 1) w1 := hp 1 (LC (by kernel_rfl))
   refine tyAt_none rfl ?_
   refine ty_call (f := 59) (args := #[.agg #[.bool s, .slice a n c]]) (by simp [execOp, go_sem, Act.eval, h1]) ?_
   exact (HZ.out w1 (hK.out.at ((hL0.call (below_drew hb1)).bl) kK)).mono fun e w2 ⟨pv, h1, h2, h3⟩ => ⟨pv, h1, h2, h3⟩
  ·refine tyAt_none rfl ?_
   simp [tyUpon, execOp, go_sem, Act.eval, hc, Below.refl]
  ·have h3 : EV _ (fv 3) w1 := hp 3 (LC (by kernel_rfl))
   refine tyAt_none rfl ?_
   refine ty_call (f := 51) (args := #[.agg #[.bool s, .slice a n c, .slice b m d]]) (by simp [execOp, go_sem, Act.eval, h3]) ?_
   exact (HD.out w1).mono fun e w2 ⟨h1, h2⟩ => ⟨_, h1, rfl, h2⟩
  ·have h4 : EV _ (fv 4) w1 := hp 4 (LC (by kernel_rfl))
   refine tyAt_none rfl ?_
   refine ty_call (f := 59) (args := #[.agg #[.bool false, .slice b m d]]) (by simp [execOp, go_sem, Act.eval, h4]) ?_
   exact (HE.out w1 (hL.out.at ((hL0.call (below_drew hb1)).bl) kL)).mono fun e w2 ⟨pv, h1, h2, h3⟩ => ⟨pv, h1, h2, h3⟩
  ·refine tyAt_none rfl ?_
   refine ty_call (f := 61) (args := #[.int .i64 1]) (by simp [execOp, go_sem, Act.eval]) ?_
   exact (HO.out w1).mono fun e w2 ⟨pv, h1, h2, h3⟩ => ⟨pv, h1, h2, h3⟩
  ·have h5 : PZ _ (fv 5) w1 := hp 5 (LC (by kernel_rfl))
   have h6 : PZ _ (fv 6) w1 := hp 6 (LC (by kernel_rfl))
   refine tyAt_none rfl ?_
   refine ty_call (f := 60) (args := #[fv 5, fv 6]) (by simp [execOp, go_sem, Act.eval]) ?_
   exact (HA.out (fv 5) (fv 6) w1 h5 h6).mono fun e w2 ⟨pv, h1, h2, h3⟩ => ⟨pv, h1, h2, h3⟩
  ·have h7 : PZ _ (fv 7) w1 := hp 7 (LC (by kernel_rfl))
   refine tyAt_none rfl ?_
   obtain ⟨pg, pd, pe⟩ := rz_form h7
   rw [pe] at h7
   simp [tyUpon, execOp, go_sem, Act.eval, pe, z_field, Below.refl]
   exact rz_rn h7
  ·have h2 : PZ _ (fv 2) w1 := hp 2 (LC (by kernel_rfl))
   have h8 : PN _ (fv 8) w1 := hp 8 (LC (by kernel_rfl))
   refine tyAt_none rfl ?_
   refine ty_call (f := 58) (args := #[fv 2, fv 8]) (by simp [execOp, go_sem, Act.eval]) ?_
   exact (HF.out (fv 2) (fv 8) w1 h2 h8).mono fun e w2 ⟨pv, h1, h2, h3⟩ => ⟨pv, h1, h2, h3⟩
 ·intro fv x2 hb1 hv
  have e0 : fv 0 = _ := hv 0 (by omega)
  have e1 : fv 1 = _ := hv 1 (by omega)
  have q2 : RZ x2 (fv 2) z := hv 2 (by omega)
  obtain ⟨g1, d1, e2⟩ := rz_form q2
  rw [e2] at q2
  have e3 : fv 3 = _ := hv 3 (by omega)
  have e4 : fv 4 = _ := hv 4 (by omega)
  have q5 : RZ x2 (fv 5) y := hv 5 (by omega)
  obtain ⟨g2, d2, e5⟩ := rz_form q5
  rw [e5] at q5
  have q6 : RZ x2 (fv 6) k := hv 6 (by omega)
  obtain ⟨g3, d3, e6⟩ := rz_form q6
  rw [e6] at q6
  have q7 : RZ x2 (fv 7) x := hv 7 (by omega)
  obtain ⟨g4, d4, e7⟩ := rz_form q7
  rw [e7] at q7
  have q8 : Rn x2 (fv 8) x.natAbs := hv 8 (by omega)
  obtain ⟨g5, d5, e8⟩ := rn_form q8
  rw [e8] at q8
  have q9 : RF x2 (fv 9) q := hv 9 (by omega)
  obtain ⟨g6, d6, g7, d7, e9⟩ := rf_form q9
  rw [e9] at q9
  simp only [List.take_succ_cons, List.take_zero, putsV, Act.put, zP, List.drop_succ_cons, List.drop_zero, Nat.zero_add, Nat.reduceAdd, e0, e1, e2, e3, e4, e5, e6, e7, e8, e9]
  replace hL0 := hL0.call (below_drew hb1)
  replace hS := hS.call (below_drew hb1)
  replace hS := hS.cons (rz_rn q2)
  replace hS := hS.cons (rz_rn q5)
  replace hS := hS.cons (rz_rn q6)
  replace hS := hS.cons (rz_rn q7)
  replace hS := hS.cons q8
  replace hS := hS.cons (rf_rn1 q9)
  replace hS := hS.cons (rf_rn2 q9)
  clear e0 e1 e2 e3 e4 e5 e6 e7 e8 e9 hb1 hv q2 q5 q6 q7 q8 q9 fv
  have hS1 := hS.put ((((Upd.refl (w.heap.size + 1) x2).setCell 0 (.bool (zs q.num))).setCell 1 (.slice g6 (tln q.num.natAbs) d6)).setCell 2 (.slice g7 (tln (fd q)) d7)) (hL0.get _ _ mZ) (by intro v hv n; simp only [List.mem_cons, List.not_mem_nil, or_false] at hv; rcases hv with rfl | rfl | rfl <;> simp)
  have hA := hL0.fc
  simp only [zF, Nat.reduceAdd] at hA
  have hP := hL0.put 0 (w.heap.size + 1) _ rfl [.bool (zs q.num), .slice g6 (tln q.num.natAbs) d6, .slice g7 (tln (fd q)) d7] rfl
  simp only [setAll, List.set_cons_zero, List.set_cons_succ] at hP
  generalize hput1 : (((x2.setCell ⟨w.heap.size + 1, 0, none⟩ (.bool (zs q.num))).setCell ⟨w.heap.size + 1, 1, none⟩ (.slice g6 (tln q.num.natAbs) d6)).setCell ⟨w.heap.size + 1, 2, none⟩ (.slice g7 (tln (fd q)) d7)) = x3 at hP hS1
  have hB1 := hP.fc
  simp only [zF, Nat.reduceAdd] at hB1
  replace hL0 := hP
  replace hS := hS1
  clear hS1
  go_wp2_with fail
  exact bodyPost_ret (v := .agg #[.bool (zs q.num), .slice g6 (tln q.num.natAbs) d6, .slice g7 (tln (fd q)) d7]) (by simp [results, Tryz.results16, go_sem, hB1]) rfl ⟨_, rfl, (rf_of (hS.get (mK mZ)) (hS.get mZ)), hL0.bl⟩
theorem fsame_w (p q : Rat) (t : ByteArray) (K : World → Prop) (hK : Keeps K) (HT : RK K 35 #[fracV p] (.string t)) (HU : ∀ (p0 : Value) (w : World), RF w p0 q → Calls Tryz.prog 63 #[p0] w fun e w' => e = .returned (.string t) ∧ Below w.heap.size w w') (p1 : Value) (w : World) (kK : K w) (r1 : RF w p1 q) :
  Calls Tryz.prog 18 #[fracV p, p1] w fun e w' => e = .returned (.bool true) ∧ Below w.heap.size w w' := by
 obtain ⟨xa1, xc1, xb1, xd1, rfl⟩ := rf_form r1
 have xf1 := Lib.hid (rf_rn1 r1)
 have xk1 := Lib.hid (rf_rn2 r1)
 clear r1
 replace hK := Lib.hid hK
 replace HT := Lib.hid HT
 replace HU := Lib.hid HU
 have hL0 : GL w w [] := GL.start w
 have hS : SS w [] := SS.nil w
 obtain ⟨x1, hweq, hL0, hS⟩ := GL.named2 ((hL0.new rfl [.int .u64 ((zl p.num : Nat) : Int), .string (zh p.num), .bool (zs p.num), .int .u64 ((lo (fe p) : Nat) : Int), .string (hs (fe p))] 34).new (K := w.heap.size + 1) (szA _ _) [.bool (zs q.num), .slice xa1 (tln q.num.natAbs) xc1, .slice xb1 (tln (fd q)) xd1] 46) ((hS.new (.cells #[.int .u64 ((zl p.num : Nat) : Int), .string (zh p.num), .bool (zs p.num), .int .u64 ((lo (fe p) : Nat) : Int), .string (hs (fe p))] 34)).new (.cells #[.bool (zs q.num), .slice xa1 (tln q.num.natAbs) xc1, .slice xb1 (tln (fd q)) xd1] 46))
 go_enter Tryz.func18, Tryz.ntmps18
 go_upto_region 1 with fail
 clear hweq
 refine region_tl 6 [EV (fracV p), EV (.string t), EV (.agg #[.bool (zs q.num), .slice xa1 (tln q.num.natAbs) xc1, .slice xb1 (tln (fd q)) xd1]), EV (.string t), EV (.bool true), EV (.bool true)] (by kernel_rfl) (by kernel_rfl) ?_ ?_ ?_
 ·repeat' first | exact stays_nil | apply stays_cons | exact stays_eq _
 ·simp only [List.take_succ_cons, List.take_zero, hopsR, and_true]
  refine ⟨?_, ?_, ?_, ?_, ?_, ?_⟩ <;> intro fv w1 hb1 hp
  all_goals (have hc := (hL0.call (below_drew hb1)).fc; simp only [zF, Nat.reduceAdd] at hc; simp only [putsV, Act.put, zP, Nat.zero_add, Nat.reduceAdd])
  ·refine tyAt_none rfl ?_
   simp [tyUpon, execOp, go_sem, Act.eval, hc, Below.refl]
  ·have h0 : EV _ (fv 0) w1 := hp 0 (LC (by kernel_rfl))
   refine tyAt_none rfl ?_
   refine ty_call (f := 35) (args := #[fracV p]) (by simp [execOp, go_sem, Act.eval, h0]) ?_
   exact (HT.out w1 (hK.out.at ((hL0.call (below_drew hb1)).bl) kK)).mono fun e w2 ⟨h1, h2⟩ => ⟨_, h1, rfl, h2⟩
  ·refine tyAt_none rfl ?_
   simp [tyUpon, execOp, go_sem, Act.eval, hc, Below.refl]
  ·have h2 : EV _ (fv 2) w1 := hp 2 (LC (by kernel_rfl))
   refine tyAt_none rfl ?_
   refine ty_call (f := 63) (args := #[.agg #[.bool (zs q.num), .slice xa1 (tln q.num.natAbs) xc1, .slice xb1 (tln (fd q)) xd1]]) (by simp [execOp, go_sem, Act.eval, h2]) ?_
   exact (HU.out (.agg #[.bool (zs q.num), .slice xa1 (tln q.num.natAbs) xc1, .slice xb1 (tln (fd q)) xd1]) w1 (rf_of (Sl.below (Sl.below xf1.out hL0.bl) (below_drew hb1)) (Sl.below (Sl.below xk1.out hL0.bl) (below_drew hb1)))).mono fun e w2 ⟨h1, h2⟩ => ⟨_, h1, rfl, h2⟩
  ·have h1 : EV _ (fv 1) w1 := hp 1 (LC (by kernel_rfl))
   have h3 : EV _ (fv 3) w1 := hp 3 (LC (by kernel_rfl))
   refine tyAt_none rfl ?_
   simp [tyUpon, execOp, go_sem, Act.eval, h1, h3, Below.refl]
  ·have h4 : EV _ (fv 4) w1 := hp 4 (LC (by kernel_rfl))
   refine tyAt_none rfl ?_
   simp [tyUpon, execOp, go_sem, Act.eval, h4, Below.refl]
 ·intro fv x2 hb1 hv
  have e0 : fv 0 = _ := hv 0 (by omega)
  have e1 : fv 1 = _ := hv 1 (by omega)
  have e2 : fv 2 = _ := hv 2 (by omega)
  have e3 : fv 3 = _ := hv 3 (by omega)
  have e4 : fv 4 = _ := hv 4 (by omega)
  have e5 : fv 5 = _ := hv 5 (by omega)
  simp only [List.take_succ_cons, List.take_zero, putsV, Act.put, zP, List.drop_succ_cons, List.drop_zero, Nat.zero_add, Nat.reduceAdd, e0, e1, e2, e3, e4, e5]
  replace hL0 := hL0.call (below_drew hb1)
  replace hS := hS.call (below_drew hb1)
  clear e0 e1 e2 e3 e4 e5 hb1 hv fv
  go_wp2_with fail
  exact bodyPost_ret (v := .bool true) (by simp [results, Tryz.results18, go_sem]) rfl ⟨rfl, hL0.bl⟩
end Go.Proofs.YtahfcciihkkegaaGreatDoor
namespace Go.Proofs.YtahfcciihkkegaaGreatDoor
open Go.RowKit Go.Proofs.YtahfcciihkkegaaGreatDoor.Rx
attribute [local irreducible] lo hs sm s64 c64 d64 b64 mh ml pd pc qd qc val hiB str cmpI srD lz nb isq decB zl zh dval txt
theorem rztextI (z : Int) (lz : (Rx.td z.natAbs).length ≤ 1000000) (v : Value) (w : World) (h : RZ w v z) : Calls Tryz.prog 124 #[v] w fun e w' => e = .returned (.string (ztxt z)) ∧ Below w.heap.size w w' := by
 obtain ⟨a, rfl, ha⟩ := h
 unfold ztxt
 by_cases h0 : z < 0
 ·rw [if_pos h0, decide_eq_true h0]; exact rztext_true a _ lz w ha
 ·rw [if_neg h0, decide_eq_false h0]; exact rztext_false a _ lz w ha
theorem txt_sizeR {n k : Nat} (h : (digs n).length ≤ k) (hk : k ≤ 100) : (txt n).size ≤ 2000 := Nat.le_trans (txt_small (k := 100) (by omega) (by omega)) (by omega)
theorem ztxt_size {z : Int} {k : Nat} (h : dI z ≤ k) (hk : k ≤ 100) : (ztxt z).size ≤ 2001 := by
 have := txt_sizeR (n := z.natAbs) h hk
 unfold ztxt
 split
 ·rw [ByteArray.size_append]; have : (ByteArray.mk #[45]).size = 1 := rfl; omega
 ·omega
theorem rtextF (q : Rat) {k : Nat} (hq : Sz q k) (hk : k ≤ 100) (v : Value) (w : World) (h : RF w v q) : Calls Tryz.prog 63 #[v] w fun e w' => e = .returned (.string (qtxt q)) ∧ Below w.heap.size w w' := by
 have a2 := hq.tn; have a4 := hq.tdn
 have hd := q.den_nz
 have hz : tln (fd q) = 0 ↔ q.den = 1 := by unfold tln fd; rw [td_len_zero]; omega
 unfold qtxt
 by_cases h1 : q.den = 1
 ·rw [if_pos h1]
  exact rftext_whole q _ (rztextI q.num (by omega)) (by rw [hz.2 h1]; rfl) (decide_eq_true (hz.2 h1)) v w h
 ·rw [if_neg h1]
  have h2 : ¬ tln (fd q) = 0 := mt hz.1 h1
  have s1 := ztxt_size hq.1 hk
  have s2 := txt_sizeR hq.2 hk
  exact rftext_frac q _ _ q.den (rztextI q.num (by omega)) (rden q hq (by omega)) (fun a w ha => rtext_any a _ (by omega) w ha) (beq_eq_false_iff_ne.2 (by omega)) (decide_eq_false h2) (by omega) (by omega) v w h
theorem zref_any (s : Bool) (a : Option Addr) (n c : Nat) (l : List Nat) (hl : l.length ≤ 1000) (w : World) (h : Ws w (.slice a n c) l) :
  Calls Tryz.prog 59 #[.agg #[.bool s, .slice a n c]] w fun e w' => ∃ v, e = .returned v ∧ RZ w' v (zmade s l) ∧ Below w.heap.size w w' :=
 zref_w s a n c (made l) (zmade s l) _ (Keeps.ws _ l) (fun w h => rofw_any _ l hl w h) (rz_from s (made l) (zmade s l) (by rw [Bool.eq_iff_iff]; unfold zmade; cases s <;> simp <;> omega) (by unfold zmade; split <;> simp)) w h
theorem gref_any (s : Bool) (a b : Option Addr) (n c m d : Nat) (l k : List Nat) (hl : l.length ≤ 300) (hk : k.length ≤ 300) (w : World) (h1 : Ws w (.slice a n c) l) (h2 : Ws w (.slice b m d) k) :
  Calls Tryz.prog 16 #[.agg #[.bool s, .slice a n c, .slice b m d]] w fun e w' => ∃ v, e = .returned v ∧ RF w' v (gmade s l k) ∧ Below w.heap.size w w' := by
 have t1 := td_made h1.lt
 have t2 := td_made h2.lt
 have e1 : (zmade s l).natAbs = made l := by unfold zmade; split <;> simp
 have e2 : (zmade false k).natAbs = made k := by unfold zmade; simp
 have e3 : (zmade false k + 1).natAbs = made k + 1 := by unfold zmade; simp; omega
 have t3 : (Rx.td (made k + 1)).length ≤ 901 := Nat.le_trans (td_add_le (k := 900) (by omega) (Nat.le_trans td_one (by omega))) (by omega)
 unfold gmade
 refine gref_w s a b n c m d (zmade s l) (zmade false k) 1 (zmade false k + 1) _ _ (Keeps.ws _ l) (fun w h => zref_any s a n c l (by omega) w h) (fun w => gden_w s a b n c m d w) _ (Keeps.ws _ k) (fun w h => zref_any false b m d k (by omega) w h) rzof_one (fun v1 v2 w g1 g2 => rzaddI v1 v2 _ _ (by rw [e2]; omega) (Nat.le_trans td_one (by omega)) w g1 g2) ?_ w h1 h2
 rw [e3]
 exact rfrom (zmade s l) (made k + 1) (by omega) (by rw [e1]; omega) (by omega)
theorem sameF (q : Rat) {k : Nat} (hq : Sz q k) (hk : k ≤ 100) (v : Value) (w : World) (htab : Tab w) (h : RF w v q) :
  Calls Tryz.prog 18 #[fracV q, v] w fun e w' => e = .returned (.bool true) ∧ Below w.heap.size w w' :=
 fsame_w q q (qtxt q) Tab Keeps.tab (fun w ht => textF q k hq (by omega) w ht) (rtextF q hq hk) v w htab h
end Go.Proofs.YtahfcciihkkegaaGreatDoor
namespace Go.Proofs.YtahfcciihkkegaaGreatDoor
open Go.RowKit Go.Proofs.YtahfcciihkkegaaGreatDoor.Rx
attribute [local irreducible] lo hs sm s64 c64 d64 b64 mh ml pd pc qd qc val hiB str cmpI srD lz nb isq decB zl zh zs dval tln fd
theorem dint_w (v : Int) (q : Rat) (HO : ∀ (w : World), Calls Tryz.prog 61 #[.int .i64 v] w fun e w' => ∃ pv, e = .returned pv ∧ RZ w' pv q.num ∧ Below w.heap.size w w') (hq : fd q = 0) (w : World) :
  Calls Tryz.prog 57 #[.int .i64 v] w fun e w' => ∃ pv, e = .returned pv ∧ RF w' pv q ∧ Below w.heap.size w w' := by
 replace HO := Lib.hid HO
 have hL0 : GL w w [] := GL.start w
 have hS : SS w [] := SS.nil w
 replace hq := Lib.hid hq
 obtain ⟨x1, hweq, hL0, hS⟩ := GL.named2 (hL0.new rfl [.bool false, .slice none 0 0, .slice none 0 0] 46) (hS.new (.cells #[.bool false, .slice none 0 0, .slice none 0 0] 46))
 go_enter Tryz.func57, Tryz.ntmps57
 go_wp2_with fail
 with_reducible refine Calls.mono (HO.out _) ?_
 rintro e x2 ⟨v0, rfl, q0, hb⟩
 replace hL0 := hL0.call hb
 replace hS := hS.call hb
 clear hb hweq
 obtain ⟨g1, d1, rfl⟩ := rz_form q0
 replace hS := hS.cons (rz_rn q0)
 clear q0
 have hS1 := hS.put ((((Upd.refl w.heap.size x2).setCell 0 (.bool (zs q.num))).setCell 1 (.slice g1 (tln q.num.natAbs) d1)).setCell 2 (.slice none 0 0)) (hL0.get _ _ mZ) (by intro v hv n; simp only [List.mem_cons, List.not_mem_nil, or_false] at hv; rcases hv with rfl | rfl | rfl <;> simp)
 have hA := hL0.fc
 simp only [zF, Nat.reduceAdd] at hA
 have hP := hL0.put 0 (w.heap.size) _ rfl [.bool (zs q.num), .slice g1 (tln q.num.natAbs) d1, .slice none 0 0] rfl
 simp only [setAll, List.set_cons_zero, List.set_cons_succ] at hP
 generalize hput1 : (((x2.setCell ⟨w.heap.size, 0, none⟩ (.bool (zs q.num))).setCell ⟨w.heap.size, 1, none⟩ (.slice g1 (tln q.num.natAbs) d1)).setCell ⟨w.heap.size, 2, none⟩ (.slice none 0 0)) = x3 at hP hS1
 have hB1 := hP.fc
 simp only [zF, Nat.reduceAdd] at hB1
 replace hL0 := hP
 replace hS := hS1
 clear hS1
 go_wp2_with fail
 exact bodyPost_ret (v := .agg #[.bool (zs q.num), .slice g1 (tln q.num.natAbs) d1, .slice none 0 0]) (by simp [results, Tryz.results57, go_sem, hB1]) rfl ⟨_, rfl, (rf_of (hS.get mZ) (by rw [hq.out]; exact (rn_nil _))), hL0.bl⟩
theorem dof_w (n d : Int) (p q r : Rat) (HN : ∀ (w : World), Calls Tryz.prog 57 #[.int .i64 n] w fun e w' => ∃ pv, e = .returned pv ∧ RF w' pv p ∧ Below w.heap.size w w') (HD : ∀ (w : World), Calls Tryz.prog 57 #[.int .i64 d] w fun e w' => ∃ pv, e = .returned pv ∧ RF w' pv q ∧ Below w.heap.size w w') (HQ : ∀ (p0 p1 : Value) (w : World), RF w p0 p → RF w p1 q → Calls Tryz.prog 55 #[p0, p1] w fun e w' => ∃ pv, e = .returned pv ∧ RF w' pv r ∧ Below w.heap.size w w') (w : World) :
  Calls Tryz.prog 81 #[.int .i64 n, .int .i64 d] w fun e w' => ∃ pv, e = .returned pv ∧ RF w' pv r ∧ Below w.heap.size w w' := by
 replace HN := Lib.hid HN
 replace HD := Lib.hid HD
 replace HQ := Lib.hid HQ
 have hL0 : GL w w [] := GL.start w
 have hS : SS w [] := SS.nil w
 obtain ⟨x1, hweq, hL0, hS⟩ := GL.named2 (hL0.new rfl [.bool false, .slice none 0 0, .slice none 0 0] 46) (hS.new (.cells #[.bool false, .slice none 0 0, .slice none 0 0] 46))
 go_enter Tryz.func81, Tryz.ntmps81
 go_wp2_with fail
 with_reducible refine Calls.mono (HN.out _) ?_
 rintro e x2 ⟨v0, rfl, q0, hb⟩
 replace hL0 := hL0.call hb
 replace hS := hS.call hb
 clear hb hweq
 obtain ⟨g1, d1, g2, d2, rfl⟩ := rf_form q0
 replace hS := hS.cons (rf_rn1 q0)
 replace hS := hS.cons (rf_rn2 q0)
 clear q0
 go_wp2_with fail
 with_reducible refine Calls.mono (HD.out _) ?_
 rintro e x3 ⟨v0, rfl, q0, hb⟩
 replace hL0 := hL0.call hb
 replace hS := hS.call hb
 clear hb
 obtain ⟨g3, d3, g4, d4, rfl⟩ := rf_form q0
 replace hS := hS.cons (rf_rn1 q0)
 replace hS := hS.cons (rf_rn2 q0)
 clear q0
 go_wp2_with fail
 with_reducible refine Calls.mono (HQ.out (.agg #[.bool (zs p.num), .slice g1 (tln p.num.natAbs) d1, .slice g2 (tln (fd p)) d2]) (.agg #[.bool (zs q.num), .slice g3 (tln q.num.natAbs) d3, .slice g4 (tln (fd q)) d4]) _ (rf_of (hS.get (mK (mK (mK mZ)))) (hS.get (mK (mK mZ)))) (rf_of (hS.get (mK mZ)) (hS.get mZ))) ?_
 rintro e x4 ⟨v0, rfl, q0, hb⟩
 replace hL0 := hL0.call hb
 replace hS := hS.call hb
 clear hb
 obtain ⟨g5, d5, g6, d6, rfl⟩ := rf_form q0
 replace hS := hS.cons (rf_rn1 q0)
 replace hS := hS.cons (rf_rn2 q0)
 clear q0
 have hS1 := hS.put ((((Upd.refl w.heap.size x4).setCell 0 (.bool (zs r.num))).setCell 1 (.slice g5 (tln r.num.natAbs) d5)).setCell 2 (.slice g6 (tln (fd r)) d6)) (hL0.get _ _ mZ) (by intro v hv n; simp only [List.mem_cons, List.not_mem_nil, or_false] at hv; rcases hv with rfl | rfl | rfl <;> simp)
 have hA := hL0.fc
 simp only [zF, Nat.reduceAdd] at hA
 have hP := hL0.put 0 (w.heap.size) _ rfl [.bool (zs r.num), .slice g5 (tln r.num.natAbs) d5, .slice g6 (tln (fd r)) d6] rfl
 simp only [setAll, List.set_cons_zero, List.set_cons_succ] at hP
 generalize hput1 : (((x4.setCell ⟨w.heap.size, 0, none⟩ (.bool (zs r.num))).setCell ⟨w.heap.size, 1, none⟩ (.slice g5 (tln r.num.natAbs) d5)).setCell ⟨w.heap.size, 2, none⟩ (.slice g6 (tln (fd r)) d6)) = x5 at hP hS1
 have hB1 := hP.fc
 simp only [zF, Nat.reduceAdd] at hB1
 replace hL0 := hP
 replace hS := hS1
 clear hS1
 go_wp2_with fail
 exact bodyPost_ret (v := .agg #[.bool (zs r.num), .slice g5 (tln r.num.natAbs) d5, .slice g6 (tln (fd r)) d6]) (by simp [results, Tryz.results81, go_sem, hB1]) rfl ⟨_, rfl, (rf_of (hS.get (mK mZ)) (hS.get mZ)), hL0.bl⟩
theorem rtens_w (n : Nat) (fu : Nat → Rat) (q0 h q9 : Rat) (HI : ∀ (w : World), Calls Tryz.prog 57 #[.int .i64 10] w fun e w' => ∃ pv, e = .returned pv ∧ RF w' pv h ∧ Below w.heap.size w w') (h0 : q0 = fu 0) (hf : fu n = q9) (hn : n ≤ 1000) (HM : ∀ (i : Nat) (q r : Rat), i < n → q = fu i → r = fu (i + 1) → ∀ (p0 p1 : Value) (w : World), RF w p0 q → RF w p1 h → Calls Tryz.prog 71 #[p0, p1] w fun e w' => ∃ pv, e = .returned pv ∧ RF w' pv r ∧ Below w.heap.size w w') (p0 : Value) (w : World) (r0 : RF w p0 q0) :
  Calls Tryz.prog 56 #[p0, .int .i64 (n : Int)] w fun e w' => ∃ pv, e = .returned pv ∧ RF w' pv q9 ∧ Below w.heap.size w w' := by
 obtain ⟨xa0, xc0, xb0, xd0, rfl⟩ := rf_form r0
 have xf0 := Lib.hid (rf_rn1 r0)
 have xk0 := Lib.hid (rf_rn2 r0)
 clear r0
 replace HI := Lib.hid HI
 have hL0 : GL w w [] := GL.start w
 have hS : SS w [] := SS.nil w
 replace h0 := Lib.hid h0
 replace hf := Lib.hid hf
 replace hn := Lib.hid hn
 replace HM := Lib.hid HM
 obtain ⟨x1, hweq, hL0, hS⟩ := GL.named2 ((hL0.new rfl [.bool (zs q0.num), .slice xa0 (tln q0.num.natAbs) xc0, .slice xb0 (tln (fd q0)) xd0] 46).new (K := w.heap.size + 1) (szA _ _) [.bool false, .slice none 0 0, .slice none 0 0] 46) ((hS.new (.cells #[.bool (zs q0.num), .slice xa0 (tln q0.num.natAbs) xc0, .slice xb0 (tln (fd q0)) xd0] 46)).new (.cells #[.bool false, .slice none 0 0, .slice none 0 0] 46))
 go_enter Tryz.func56, Tryz.ntmps56
 go_wp2_with fail
 clear hweq
 go_loopg [5] n (fun gk iv wr => ∃ (i : Nat) (q : Rat) (ua1 : Option Addr) (ma1 : Nat) (va1 : Option Addr) (na1 : Nat), i + gk = n ∧ iv = .int .i64 (i : Int) ∧ q = fu i ∧ GL w wr [(w.heap.size + 1, [.bool false, .slice none 0 0, .slice none 0 0]), (w.heap.size, [.bool (zs q.num), .slice ua1 (tln q.num.natAbs) ma1, .slice va1 (tln (fd q)) na1])] ∧ SS wr [(.slice ua1 (tln q.num.natAbs) ma1, q.num.natAbs), (.slice va1 (tln (fd q)) na1, (fd q))])
 case atStart => exact ⟨0, _, _, _, _, _, Nat.zero_add n, by first | rfl | go_num, h0.out, hL0, ((hS).cons (Sl.below xk0.out hL0.bl)).cons (Sl.below xf0.out hL0.bl)⟩
 case round =>
  clear hL0 hS
  obtain ⟨i, q, ua1, ma1, va1, na1, hik, rfl, hq, hL0, hS⟩ := hrel
  by_cases hin : i < n
  ·have k1 : (i : Int) < (n : Int) := by omega
   have k2 : (i : Int) ≤ 1000 := by have := hn.out; omega
   obtain ⟨r, hr⟩ : ∃ r, r = fu (i + 1) := ⟨_, rfl⟩
   have HM1 := Lib.hid (HM.out i q r hin hq hr)
   replace hq := Lib.hid hq
   replace hr := Lib.hid hr
   go_upto_region 4 with fail
   refine region_tl 3 [EV (.agg #[.bool (zs q.num), .slice ua1 (tln q.num.natAbs) ma1, .slice va1 (tln (fd q)) na1]), PF h, PF r] (by kernel_rfl) (by kernel_rfl) ?_ ?_ ?_
   ·repeat' first | exact stays_nil | apply stays_cons | exact stays_eq _ | exact stays_rf _
   ·simp only [List.take_succ_cons, List.take_zero, hopsR, and_true]
    refine ⟨?_, ?_, ?_⟩ <;> intro fv w1 hb1 hp
    all_goals (have hc := (hL0.call (below_drew hb1)).fc; simp only [zF, Nat.reduceAdd] at hc; simp only [putsV, Act.put, zP, Nat.zero_add, Nat.reduceAdd])
    ·refine tyAt_none rfl ?_
     simp [tyUpon, execOp, go_sem, Act.eval, hc, Below.refl]
    ·refine tyAt_none rfl ?_
     refine ty_call (f := 57) (args := #[.int .i64 10]) (by simp [execOp, go_sem, Act.eval]) ?_
     exact (HI.out w1).mono fun e w2 ⟨pv, h1, h2, h3⟩ => ⟨pv, h1, h2, h3⟩
    ·have h0 : EV _ (fv 0) w1 := hp 0 (LC (by kernel_rfl))
     have h1 : PF _ (fv 1) w1 := hp 1 (LC (by kernel_rfl))
     refine tyAt_none rfl ?_
     refine ty_call (f := 71) (args := #[.agg #[.bool (zs q.num), .slice ua1 (tln q.num.natAbs) ma1, .slice va1 (tln (fd q)) na1], fv 1]) (by simp [execOp, go_sem, Act.eval, h0]) ?_
     exact (HM1.out (.agg #[.bool (zs q.num), .slice ua1 (tln q.num.natAbs) ma1, .slice va1 (tln (fd q)) na1]) (fv 1) w1 (rf_of (Sl.below (hS.get mZ) (below_drew hb1)) (Sl.below (hS.get (mK mZ)) (below_drew hb1))) h1).mono fun e w2 ⟨pv, h1, h2, h3⟩ => ⟨pv, h1, h2, h3⟩
   ·intro fv x2 hb1 hv
    have e0 : fv 0 = _ := hv 0 (by omega)
    have q1 : RF x2 (fv 1) h := hv 1 (by omega)
    obtain ⟨g1, d1, g2, d2, e1⟩ := rf_form q1
    rw [e1] at q1
    have q2 : RF x2 (fv 2) r := hv 2 (by omega)
    obtain ⟨g3, d3, g4, d4, e2⟩ := rf_form q2
    rw [e2] at q2
    simp only [List.take_succ_cons, List.take_zero, putsV, Act.put, zP, List.drop_succ_cons, List.drop_zero, Nat.zero_add, Nat.reduceAdd, e0, e1, e2]
    replace hL0 := hL0.call (below_drew hb1)
    replace hS := hS.call (below_drew hb1)
    replace hS := hS.cons (rf_rn1 q1)
    replace hS := hS.cons (rf_rn2 q1)
    replace hS := hS.cons (rf_rn1 q2)
    replace hS := hS.cons (rf_rn2 q2)
    clear e0 e1 e2 hb1 hv q1 q2 fv
    have hS1 := hS.put ((((Upd.refl w.heap.size x2).setCell 0 (.bool (zs r.num))).setCell 1 (.slice g3 (tln r.num.natAbs) d3)).setCell 2 (.slice g4 (tln (fd r)) d4)) (hL0.get _ _ (mK mZ)) (by intro v hv n; simp only [List.mem_cons, List.not_mem_nil, or_false] at hv; rcases hv with rfl | rfl | rfl <;> simp)
    have hA := hL0.fc
    simp only [zF, Nat.reduceAdd] at hA
    have hP := hL0.put 1 (w.heap.size) _ rfl [.bool (zs r.num), .slice g3 (tln r.num.natAbs) d3, .slice g4 (tln (fd r)) d4] rfl
    simp only [setAll, List.set_cons_zero, List.set_cons_succ] at hP
    generalize hput1 : (((x2.setCell ⟨w.heap.size, 0, none⟩ (.bool (zs r.num))).setCell ⟨w.heap.size, 1, none⟩ (.slice g3 (tln r.num.natAbs) d3)).setCell ⟨w.heap.size, 2, none⟩ (.slice g4 (tln (fd r)) d4)) = x3 at hP hS1
    have hB1 := hP.fc
    simp only [zF, Nat.reduceAdd] at hB1
    replace hL0 := hP
    replace hS := hS1
    clear hS1
    go_wp2_with fail
    go_roundg (gk - 1)
    case measure => omega
    case rel => exact ⟨i + 1, _, _, _, _, _, by omega, by first | rfl | go_num, hr.out, hL0, (((SS.nil _)).cons (hS.get mZ)).cons (hS.get (mK mZ))⟩
  ·have k1 : ¬ (i : Int) < (n : Int) := by omega
   obtain rfl : i = n := by omega
   have hq2 := (hq.trans hf.out).symm
   subst hq2
   clear hq
   have hS1 := hS.put ((((Upd.refl (w.heap.size + 1) wr).setCell 0 (.bool (zs q9.num))).setCell 1 (.slice ua1 (tln q9.num.natAbs) ma1)).setCell 2 (.slice va1 (tln (fd q9)) na1)) (hL0.get _ _ mZ) (by intro v hv n; simp only [List.mem_cons, List.not_mem_nil, or_false] at hv; rcases hv with rfl | rfl | rfl <;> simp)
   have hA := hL0.fc
   simp only [zF, Nat.reduceAdd] at hA
   have hP := hL0.put 0 (w.heap.size + 1) _ rfl [.bool (zs q9.num), .slice ua1 (tln q9.num.natAbs) ma1, .slice va1 (tln (fd q9)) na1] rfl
   simp only [setAll, List.set_cons_zero, List.set_cons_succ] at hP
   generalize hput1 : (((wr.setCell ⟨w.heap.size + 1, 0, none⟩ (.bool (zs q9.num))).setCell ⟨w.heap.size + 1, 1, none⟩ (.slice ua1 (tln q9.num.natAbs) ma1)).setCell ⟨w.heap.size + 1, 2, none⟩ (.slice va1 (tln (fd q9)) na1)) = x2 at hP hS1
   have hB1 := hP.fc
   simp only [zF, Nat.reduceAdd] at hB1
   replace hL0 := hP
   replace hS := hS1
   clear hS1
   go_wp2_with fail
   exact bodyPost_ret (v := .agg #[.bool (zs q9.num), .slice ua1 (tln q9.num.natAbs) ma1, .slice va1 (tln (fd q9)) na1]) (by simp [results, Tryz.results56, go_sem, hB1]) rfl ⟨_, rfl, (rf_of (hS.get mZ) (hS.get (mK mZ))), hL0.bl⟩
end Go.Proofs.YtahfcciihkkegaaGreatDoor
namespace Go.Proofs.YtahfcciihkkegaaGreatDoor
open Go.RowKit Go.Proofs.YtahfcciihkkegaaGreatDoor.Rx
attribute [local irreducible] lo hs sm s64 c64 d64 b64 mh ml pd pc qd qc val hiB str cmpI srD lz nb isq decB zl zh zs dval tln fd
theorem rwh_neg (q : Rat) (n v z0 : Int) (HO0 : ∀ (w : World), Calls Tryz.prog 61 #[.int .i64 0] w fun e w' => ∃ pv, e = .returned pv ∧ RZ w' pv z0 ∧ Below w.heap.size w w') (g1 : decide (n < 0) = true) (p0 : Value) (w : World) (r0 : RF w p0 q) :
  Calls Tryz.prog 54 #[p0, .int .i64 n, .int .i64 v] w fun e w' => ∃ pv, e = .returned (.tuple #[pv, .int .i64 1]) ∧ RZ w' pv z0 ∧ Below w.heap.size w w' := by
 obtain ⟨xa0, xc0, xb0, xd0, rfl⟩ := rf_form r0
 have xf0 := Lib.hid (rf_rn1 r0)
 have xk0 := Lib.hid (rf_rn2 r0)
 clear r0
 replace HO0 := Lib.hid HO0
 have hL0 : GL w w [] := GL.start w
 have hS : SS w [] := SS.nil w
 obtain ⟨x1, hweq, hL0, hS⟩ := GL.named2 ((hL0.new rfl [.bool (zs q.num), .slice xa0 (tln q.num.natAbs) xc0, .slice xb0 (tln (fd q)) xd0] 46).new (K := w.heap.size + 1) (szA _ _) [.bool false, .slice none 0 0] 44) ((hS.new (.cells #[.bool (zs q.num), .slice xa0 (tln q.num.natAbs) xc0, .slice xb0 (tln (fd q)) xd0] 46)).new (.cells #[.bool false, .slice none 0 0] 44))
 go_enter Tryz.func54, Tryz.ntmps54
 go_wp2_with fail
 with_reducible refine Calls.mono (HO0.out _) ?_
 rintro e x2 ⟨v0, rfl, q0, hb⟩
 replace hL0 := hL0.call hb
 replace hS := hS.call hb
 clear hb hweq
 obtain ⟨g1, d1, rfl⟩ := rz_form q0
 replace hS := hS.cons (rz_rn q0)
 clear q0
 obtain ⟨x3, hweq, hL0, hS⟩ := GL.named2 (hL0.new rfl [.bool (zs z0), .slice g1 (tln z0.natAbs) d1] 44) (hS.new (.cells #[.bool (zs z0), .slice g1 (tln z0.natAbs) d1] 44))
 have hS1 := hS.put (((Upd.refl (w.heap.size + 1) x3).setCell 0 (.bool (zs z0))).setCell 1 (.slice g1 (tln z0.natAbs) d1)) (hL0.get _ _ (mK mZ)) (by intro v hv n; simp only [List.mem_cons, List.not_mem_nil, or_false] at hv; rcases hv with rfl | rfl <;> simp)
 have hA := hL0.fc
 simp only [zF, Nat.reduceAdd] at hA
 have hP := hL0.put 1 (w.heap.size + 1) _ rfl [.bool (zs z0), .slice g1 (tln z0.natAbs) d1] rfl
 simp only [setAll, List.set_cons_zero, List.set_cons_succ] at hP
 generalize hput1 : ((x3.setCell ⟨w.heap.size + 1, 0, none⟩ (.bool (zs z0))).setCell ⟨w.heap.size + 1, 1, none⟩ (.slice g1 (tln z0.natAbs) d1)) = x4 at hP hS1
 have hB1 := hP.fc
 simp only [zF, Nat.reduceAdd] at hB1
 replace hL0 := hP
 replace hS := hS1
 clear hS1
 go_wp2_with fail
 exact bodyPost_ret (v := .tuple #[.agg #[.bool (zs z0), .slice g1 (tln z0.natAbs) d1], .int .i64 1]) (by simp [results, Tryz.results54, go_sem, hB1]) rfl ⟨_, rfl, (rz_of (hS.get mZ)), hL0.bl⟩
theorem rwh_far (q : Rat) (n v z0 : Int) (HO0 : ∀ (w : World), Calls Tryz.prog 61 #[.int .i64 0] w fun e w' => ∃ pv, e = .returned pv ∧ RZ w' pv z0 ∧ Below w.heap.size w w') (g1 : decide (n < 0) = false) (g2 : decide (100 < n) = true) (p0 : Value) (w : World) (r0 : RF w p0 q) :
  Calls Tryz.prog 54 #[p0, .int .i64 n, .int .i64 v] w fun e w' => ∃ pv, e = .returned (.tuple #[pv, .int .i64 3]) ∧ RZ w' pv z0 ∧ Below w.heap.size w w' := by
 obtain ⟨xa0, xc0, xb0, xd0, rfl⟩ := rf_form r0
 have xf0 := Lib.hid (rf_rn1 r0)
 have xk0 := Lib.hid (rf_rn2 r0)
 clear r0
 replace HO0 := Lib.hid HO0
 have hL0 : GL w w [] := GL.start w
 have hS : SS w [] := SS.nil w
 obtain ⟨x1, hweq, hL0, hS⟩ := GL.named2 ((hL0.new rfl [.bool (zs q.num), .slice xa0 (tln q.num.natAbs) xc0, .slice xb0 (tln (fd q)) xd0] 46).new (K := w.heap.size + 1) (szA _ _) [.bool false, .slice none 0 0] 44) ((hS.new (.cells #[.bool (zs q.num), .slice xa0 (tln q.num.natAbs) xc0, .slice xb0 (tln (fd q)) xd0] 46)).new (.cells #[.bool false, .slice none 0 0] 44))
 go_enter Tryz.func54, Tryz.ntmps54
 go_wp2_with fail
 with_reducible refine Calls.mono (HO0.out _) ?_
 rintro e x2 ⟨v0, rfl, q0, hb⟩
 replace hL0 := hL0.call hb
 replace hS := hS.call hb
 clear hb hweq
 obtain ⟨g1, d1, rfl⟩ := rz_form q0
 replace hS := hS.cons (rz_rn q0)
 clear q0
 obtain ⟨x3, hweq, hL0, hS⟩ := GL.named2 (hL0.new rfl [.bool (zs z0), .slice g1 (tln z0.natAbs) d1] 44) (hS.new (.cells #[.bool (zs z0), .slice g1 (tln z0.natAbs) d1] 44))
 have hS1 := hS.put (((Upd.refl (w.heap.size + 1) x3).setCell 0 (.bool (zs z0))).setCell 1 (.slice g1 (tln z0.natAbs) d1)) (hL0.get _ _ (mK mZ)) (by intro v hv n; simp only [List.mem_cons, List.not_mem_nil, or_false] at hv; rcases hv with rfl | rfl <;> simp)
 have hA := hL0.fc
 simp only [zF, Nat.reduceAdd] at hA
 have hP := hL0.put 1 (w.heap.size + 1) _ rfl [.bool (zs z0), .slice g1 (tln z0.natAbs) d1] rfl
 simp only [setAll, List.set_cons_zero, List.set_cons_succ] at hP
 generalize hput1 : ((x3.setCell ⟨w.heap.size + 1, 0, none⟩ (.bool (zs z0))).setCell ⟨w.heap.size + 1, 1, none⟩ (.slice g1 (tln z0.natAbs) d1)) = x4 at hP hS1
 have hB1 := hP.fc
 simp only [zF, Nat.reduceAdd] at hB1
 replace hL0 := hP
 replace hS := hS1
 clear hS1
 go_wp2_with fail
 exact bodyPost_ret (v := .tuple #[.agg #[.bool (zs z0), .slice g1 (tln z0.natAbs) d1], .int .i64 3]) (by simp [results, Tryz.results54, go_sem, hB1]) rfl ⟨_, rfl, (rz_of (hS.get mZ)), hL0.bl⟩
theorem rwh_lo (q : Rat) (n v z0 : Int) (HO0 : ∀ (w : World), Calls Tryz.prog 61 #[.int .i64 0] w fun e w' => ∃ pv, e = .returned pv ∧ RZ w' pv z0 ∧ Below w.heap.size w w') (g1 : decide (n < 0) = false) (g2 : decide (100 < n) = false) (g3 : decide (v < 1) = true) (p0 : Value) (w : World) (r0 : RF w p0 q) :
  Calls Tryz.prog 54 #[p0, .int .i64 n, .int .i64 v] w fun e w' => ∃ pv, e = .returned (.tuple #[pv, .int .i64 1]) ∧ RZ w' pv z0 ∧ Below w.heap.size w w' := by
 obtain ⟨xa0, xc0, xb0, xd0, rfl⟩ := rf_form r0
 have xf0 := Lib.hid (rf_rn1 r0)
 have xk0 := Lib.hid (rf_rn2 r0)
 clear r0
 replace HO0 := Lib.hid HO0
 have hL0 : GL w w [] := GL.start w
 have hS : SS w [] := SS.nil w
 obtain ⟨x1, hweq, hL0, hS⟩ := GL.named2 ((hL0.new rfl [.bool (zs q.num), .slice xa0 (tln q.num.natAbs) xc0, .slice xb0 (tln (fd q)) xd0] 46).new (K := w.heap.size + 1) (szA _ _) [.bool false, .slice none 0 0] 44) ((hS.new (.cells #[.bool (zs q.num), .slice xa0 (tln q.num.natAbs) xc0, .slice xb0 (tln (fd q)) xd0] 46)).new (.cells #[.bool false, .slice none 0 0] 44))
 go_enter Tryz.func54, Tryz.ntmps54
 go_wp2_with fail
 with_reducible refine Calls.mono (HO0.out _) ?_
 rintro e x2 ⟨v0, rfl, q0, hb⟩
 replace hL0 := hL0.call hb
 replace hS := hS.call hb
 clear hb hweq
 obtain ⟨g1, d1, rfl⟩ := rz_form q0
 replace hS := hS.cons (rz_rn q0)
 clear q0
 obtain ⟨x3, hweq, hL0, hS⟩ := GL.named2 (hL0.new rfl [.bool (zs z0), .slice g1 (tln z0.natAbs) d1] 44) (hS.new (.cells #[.bool (zs z0), .slice g1 (tln z0.natAbs) d1] 44))
 have hS1 := hS.put (((Upd.refl (w.heap.size + 1) x3).setCell 0 (.bool (zs z0))).setCell 1 (.slice g1 (tln z0.natAbs) d1)) (hL0.get _ _ (mK mZ)) (by intro v hv n; simp only [List.mem_cons, List.not_mem_nil, or_false] at hv; rcases hv with rfl | rfl <;> simp)
 have hA := hL0.fc
 simp only [zF, Nat.reduceAdd] at hA
 have hP := hL0.put 1 (w.heap.size + 1) _ rfl [.bool (zs z0), .slice g1 (tln z0.natAbs) d1] rfl
 simp only [setAll, List.set_cons_zero, List.set_cons_succ] at hP
 generalize hput1 : ((x3.setCell ⟨w.heap.size + 1, 0, none⟩ (.bool (zs z0))).setCell ⟨w.heap.size + 1, 1, none⟩ (.slice g1 (tln z0.natAbs) d1)) = x4 at hP hS1
 have hB1 := hP.fc
 simp only [zF, Nat.reduceAdd] at hB1
 replace hL0 := hP
 replace hS := hS1
 clear hS1
 go_wp2_with fail
 exact bodyPost_ret (v := .tuple #[.agg #[.bool (zs z0), .slice g1 (tln z0.natAbs) d1], .int .i64 1]) (by simp [results, Tryz.results54, go_sem, hB1]) rfl ⟨_, rfl, (rz_of (hS.get mZ)), hL0.bl⟩
theorem rwh_hi (q : Rat) (n v z0 : Int) (HO0 : ∀ (w : World), Calls Tryz.prog 61 #[.int .i64 0] w fun e w' => ∃ pv, e = .returned pv ∧ RZ w' pv z0 ∧ Below w.heap.size w w') (g1 : decide (n < 0) = false) (g2 : decide (100 < n) = false) (g3 : decide (v < 1) = false) (g4 : decide (3 < v) = true) (p0 : Value) (w : World) (r0 : RF w p0 q) :
  Calls Tryz.prog 54 #[p0, .int .i64 n, .int .i64 v] w fun e w' => ∃ pv, e = .returned (.tuple #[pv, .int .i64 1]) ∧ RZ w' pv z0 ∧ Below w.heap.size w w' := by
 obtain ⟨xa0, xc0, xb0, xd0, rfl⟩ := rf_form r0
 have xf0 := Lib.hid (rf_rn1 r0)
 have xk0 := Lib.hid (rf_rn2 r0)
 clear r0
 replace HO0 := Lib.hid HO0
 have hL0 : GL w w [] := GL.start w
 have hS : SS w [] := SS.nil w
 obtain ⟨x1, hweq, hL0, hS⟩ := GL.named2 ((hL0.new rfl [.bool (zs q.num), .slice xa0 (tln q.num.natAbs) xc0, .slice xb0 (tln (fd q)) xd0] 46).new (K := w.heap.size + 1) (szA _ _) [.bool false, .slice none 0 0] 44) ((hS.new (.cells #[.bool (zs q.num), .slice xa0 (tln q.num.natAbs) xc0, .slice xb0 (tln (fd q)) xd0] 46)).new (.cells #[.bool false, .slice none 0 0] 44))
 go_enter Tryz.func54, Tryz.ntmps54
 go_wp2_with fail
 with_reducible refine Calls.mono (HO0.out _) ?_
 rintro e x2 ⟨v0, rfl, q0, hb⟩
 replace hL0 := hL0.call hb
 replace hS := hS.call hb
 clear hb hweq
 obtain ⟨g1, d1, rfl⟩ := rz_form q0
 replace hS := hS.cons (rz_rn q0)
 clear q0
 obtain ⟨x3, hweq, hL0, hS⟩ := GL.named2 (hL0.new rfl [.bool (zs z0), .slice g1 (tln z0.natAbs) d1] 44) (hS.new (.cells #[.bool (zs z0), .slice g1 (tln z0.natAbs) d1] 44))
 have hS1 := hS.put (((Upd.refl (w.heap.size + 1) x3).setCell 0 (.bool (zs z0))).setCell 1 (.slice g1 (tln z0.natAbs) d1)) (hL0.get _ _ (mK mZ)) (by intro v hv n; simp only [List.mem_cons, List.not_mem_nil, or_false] at hv; rcases hv with rfl | rfl <;> simp)
 have hA := hL0.fc
 simp only [zF, Nat.reduceAdd] at hA
 have hP := hL0.put 1 (w.heap.size + 1) _ rfl [.bool (zs z0), .slice g1 (tln z0.natAbs) d1] rfl
 simp only [setAll, List.set_cons_zero, List.set_cons_succ] at hP
 generalize hput1 : ((x3.setCell ⟨w.heap.size + 1, 0, none⟩ (.bool (zs z0))).setCell ⟨w.heap.size + 1, 1, none⟩ (.slice g1 (tln z0.natAbs) d1)) = x4 at hP hS1
 have hB1 := hP.fc
 simp only [zF, Nat.reduceAdd] at hB1
 replace hL0 := hP
 replace hS := hS1
 clear hS1
 go_wp2_with fail
 exact bodyPost_ret (v := .tuple #[.agg #[.bool (zs z0), .slice g1 (tln z0.natAbs) d1], .int .i64 1]) (by simp [results, Tryz.results54, go_sem, hB1]) rfl ⟨_, rfl, (rz_of (hS.get mZ)), hL0.bl⟩
theorem rwh_ok (q x lq rs hf : Rat) (n v z0 s o1 hh c tw qv od u rr : Int) (HO0 : ∀ (w : World), Calls Tryz.prog 61 #[.int .i64 0] w fun e w' => ∃ pv, e = .returned pv ∧ RZ w' pv z0 ∧ Below w.heap.size w w') (HT : ∀ (p0 : Value) (w : World), RF w p0 q → Calls Tryz.prog 56 #[p0, .int .i64 n] w fun e w' => ∃ pv, e = .returned pv ∧ RF w' pv x ∧ Below w.heap.size w w') (HF : ∀ (p0 : Value) (w : World), RF w p0 x → Calls Tryz.prog 112 #[p0] w fun e w' => ∃ pv, e = .returned pv ∧ RZ w' pv lq.num ∧ Below w.heap.size w w') (HS : ∀ (p0 p1 : Value) (w : World), RF w p0 x → RF w p1 lq → Calls Tryz.prog 113 #[p0, p1] w fun e w' => ∃ pv, e = .returned pv ∧ RF w' pv rs ∧ Below w.heap.size w w') (HG : ∀ (p0 : Value) (w : World), RF w p0 rs → Calls Tryz.prog 72 #[p0] w fun e w' => e = .returned (.int .i64 s) ∧ Below w.heap.size w w') (HO1 : ∀ (w : World), Calls Tryz.prog 61 #[.int .i64 1] w fun e w' => ∃ pv, e = .returned pv ∧ RZ w' pv o1 ∧ Below w.heap.size w w') (HA : ∀ (p0 p1 : Value) (w : World), RZ w p0 lq.num → RZ w p1 o1 → Calls Tryz.prog 60 #[p0, p1] w fun e w' => ∃ pv, e = .returned pv ∧ RZ w' pv hh ∧ Below w.heap.size w w') (HH : ∀ (w : World), Calls Tryz.prog 81 #[.int .i64 1, .int .i64 2] w fun e w' => ∃ pv, e = .returned pv ∧ RF w' pv hf ∧ Below w.heap.size w w') (HC : ∀ (p0 p1 : Value) (w : World), RF w p0 rs → RF w p1 hf → Calls Tryz.prog 114 #[p0, p1] w fun e w' => e = .returned (.int .i64 c) ∧ Below w.heap.size w w') (HO2 : ∀ (w : World), Calls Tryz.prog 61 #[.int .i64 2] w fun e w' => ∃ pv, e = .returned pv ∧ RZ w' pv tw ∧ Below w.heap.size w w') (HD : ∀ (p0 p1 : Value) (w : World), RZ w p0 lq.num → RZ w p1 tw → Calls Tryz.prog 115 #[p0, p1] w fun e w' => ∃ v0 v1, e = .returned (.tuple #[v0, v1]) ∧ RZ w' v0 qv ∧ RZ w' v1 od ∧ Below w.heap.size w w') (HU : ∀ (p0 : Value) (w : World), RZ w p0 od → Calls Tryz.prog 116 #[p0] w fun e w' => e = .returned (.int .i64 u) ∧ Below w.heap.size w w') (g1 : decide (n < 0) = false) (g2 : decide (100 < n) = false) (g3 : decide (v < 1) = false) (g4 : decide (3 < v) = false) (hlq : fd lq = 0) (h11 : ((s == 0) = true ∧ lq.num = rr) ∨ ((s == 0) = false ∧ (v == 1) = true ∧ lq.num = rr) ∨ ((s == 0) = false ∧ (v == 1) = false)) (h14 : (s == 0) = false → (v == 1) = false → ((v == 2) = true ∧ hh = rr) ∨ (v == 2) = false) (h18 : (s == 0) = false → (v == 1) = false → (v == 2) = false → (decide (c < 0) = true ∧ lq.num = rr) ∨ (decide (c < 0) = false ∧ (c == 0) = false ∧ hh = rr) ∨ (decide (c < 0) = false ∧ (c == 0) = true ∧ (u == 0) = true ∧ lq.num = rr) ∨ (decide (c < 0) = false ∧ (c == 0) = true ∧ (u == 0) = false ∧ hh = rr)) (p0 : Value) (w : World) (r0 : RF w p0 q) :
  Calls Tryz.prog 54 #[p0, .int .i64 n, .int .i64 v] w fun e w' => ∃ pv, e = .returned (.tuple #[pv, .int .i64 0]) ∧ RZ w' pv rr ∧ Below w.heap.size w w' := by
 obtain ⟨xa0, xc0, xb0, xd0, rfl⟩ := rf_form r0
 have xf0 := Lib.hid (rf_rn1 r0)
 have xk0 := Lib.hid (rf_rn2 r0)
 clear r0
 replace HO0 := Lib.hid HO0
 replace HT := Lib.hid HT
 replace HF := Lib.hid HF
 replace HS := Lib.hid HS
 replace HG := Lib.hid HG
 replace HO1 := Lib.hid HO1
 replace HA := Lib.hid HA
 replace HH := Lib.hid HH
 replace HC := Lib.hid HC
 replace HO2 := Lib.hid HO2
 replace HD := Lib.hid HD
 replace HU := Lib.hid HU
 have hL0 : GL w w [] := GL.start w
 have hS : SS w [] := SS.nil w
 replace hlq := Lib.hid hlq
 replace h11 := Lib.hid h11
 replace h14 := Lib.hid h14
 replace h18 := Lib.hid h18
 obtain ⟨x1, hweq, hL0, hS⟩ := GL.named2 ((hL0.new rfl [.bool (zs q.num), .slice xa0 (tln q.num.natAbs) xc0, .slice xb0 (tln (fd q)) xd0] 46).new (K := w.heap.size + 1) (szA _ _) [.bool false, .slice none 0 0] 44) ((hS.new (.cells #[.bool (zs q.num), .slice xa0 (tln q.num.natAbs) xc0, .slice xb0 (tln (fd q)) xd0] 46)).new (.cells #[.bool false, .slice none 0 0] 44))
 go_enter Tryz.func54, Tryz.ntmps54
 go_wp2_with fail
 with_reducible refine Calls.mono (HO0.out _) ?_
 rintro e x2 ⟨v0, rfl, q0, hb⟩
 replace hL0 := hL0.call hb
 replace hS := hS.call hb
 clear hb hweq
 obtain ⟨g1, d1, rfl⟩ := rz_form q0
 replace hS := hS.cons (rz_rn q0)
 clear q0
 obtain ⟨x3, hweq, hL0, hS⟩ := GL.named2 (hL0.new rfl [.bool (zs z0), .slice g1 (tln z0.natAbs) d1] 44) (hS.new (.cells #[.bool (zs z0), .slice g1 (tln z0.natAbs) d1] 44))
 have hN0 := cells_of _ 0 [] rfl (hL0.get _ _ (mK (mK mZ)))
 simp only [zF, Nat.reduceAdd] at hN0
 go_wp2_with fail
 clear hN0
 with_reducible refine Calls.mono (HT.out (.agg #[.bool (zs q.num), .slice xa0 (tln q.num.natAbs) xc0, .slice xb0 (tln (fd q)) xd0]) _ (rf_of (Sl.below xf0.out hL0.bl) (Sl.below xk0.out hL0.bl))) ?_
 rintro e x4 ⟨v0, rfl, q0, hb⟩
 replace hL0 := hL0.call hb
 replace hS := hS.call hb
 clear hb hweq
 obtain ⟨g2, d2, g3, d3, rfl⟩ := rf_form q0
 replace hS := hS.cons (rf_rn1 q0)
 replace hS := hS.cons (rf_rn2 q0)
 clear q0
 obtain ⟨x5, hweq, hL0, hS⟩ := GL.named2 (hL0.new rfl [.bool (zs x.num), .slice g2 (tln x.num.natAbs) d2, .slice g3 (tln (fd x)) d3] 46) (hS.new (.cells #[.bool (zs x.num), .slice g2 (tln x.num.natAbs) d2, .slice g3 (tln (fd x)) d3] 46))
 have hN0 := cells_of _ 0 [] rfl (hL0.get _ _ mZ)
 simp only [zF, Nat.reduceAdd] at hN0
 go_wp2_with fail
 clear hN0
 with_reducible refine Calls.mono (HF.out (.agg #[.bool (zs x.num), .slice g2 (tln x.num.natAbs) d2, .slice g3 (tln (fd x)) d3]) _ (rf_of (hS.get (mK mZ)) (hS.get mZ))) ?_
 rintro e x6 ⟨v0, rfl, q0, hb⟩
 replace hL0 := hL0.call hb
 replace hS := hS.call hb
 clear hb hweq
 obtain ⟨g4, d4, rfl⟩ := rz_form q0
 replace hS := hS.cons (rz_rn q0)
 clear q0
 obtain ⟨x7, hweq, hL0, hS⟩ := GL.named2 (hL0.new rfl [.bool (zs lq.num), .slice g4 (tln lq.num.natAbs) d4] 44) (hS.new (.cells #[.bool (zs lq.num), .slice g4 (tln lq.num.natAbs) d4] 44))
 have hN0 := cells_of _ 0 [] rfl (hL0.get _ _ mZ)
 simp only [zF, Nat.reduceAdd] at hN0
 have hN1 := cells_of _ 0 [] rfl (hL0.get _ _ (mK mZ))
 simp only [zF, Nat.reduceAdd] at hN1
 go_wp2_with fail
 clear hN0 hN1
 with_reducible refine Calls.mono (HS.out (.agg #[.bool (zs x.num), .slice g2 (tln x.num.natAbs) d2, .slice g3 (tln (fd x)) d3]) (.agg #[.bool (zs lq.num), .slice g4 (tln lq.num.natAbs) d4, .slice none 0 0]) _ (rf_of (hS.get (mK (mK mZ))) (hS.get (mK mZ))) (rf_of (hS.get mZ) (by rw [hlq.out]; exact (rn_nil _)))) ?_
 rintro e x8 ⟨v0, rfl, q0, hb⟩
 replace hL0 := hL0.call hb
 replace hS := hS.call hb
 clear hb hweq
 obtain ⟨g5, d5, g6, d6, rfl⟩ := rf_form q0
 replace hS := hS.cons (rf_rn1 q0)
 replace hS := hS.cons (rf_rn2 q0)
 clear q0
 obtain ⟨x9, hweq, hL0, hS⟩ := GL.named2 (hL0.new rfl [.bool (zs rs.num), .slice g5 (tln rs.num.natAbs) d5, .slice g6 (tln (fd rs)) d6] 46) (hS.new (.cells #[.bool (zs rs.num), .slice g5 (tln rs.num.natAbs) d5, .slice g6 (tln (fd rs)) d6] 46))
 rcases h11.out with ⟨ga, hr⟩ | ⟨ga, gb, hr⟩ | ⟨ga, gb⟩
 ·clear h11
  subst hr
  have hN0 := cells_of _ 0 [] rfl (hL0.get _ _ mZ)
  simp only [zF, Nat.reduceAdd] at hN0
  go_wp2_with fail
  clear hN0
  with_reducible refine Calls.mono (HG.out (.agg #[.bool (zs rs.num), .slice g5 (tln rs.num.natAbs) d5, .slice g6 (tln (fd rs)) d6]) _ (rf_of (hS.get (mK mZ)) (hS.get mZ))) ?_
  rintro e x10 ⟨rfl, hb⟩
  replace hL0 := hL0.call hb
  replace hS := hS.call hb
  clear hb hweq
  have hS1 := hS.put (((Upd.refl (w.heap.size + 1) x10).setCell 0 (.bool (zs lq.num))).setCell 1 (.slice g4 (tln lq.num.natAbs) d4)) (hL0.get _ _ (mK (mK (mK (mK mZ))))) (by intro v hv n; simp only [List.mem_cons, List.not_mem_nil, or_false] at hv; rcases hv with rfl | rfl <;> simp)
  have hA := hL0.fc
  simp only [zF, Nat.reduceAdd] at hA
  have hP := hL0.put 4 (w.heap.size + 1) _ rfl [.bool (zs lq.num), .slice g4 (tln lq.num.natAbs) d4] rfl
  simp only [setAll, List.set_cons_zero, List.set_cons_succ] at hP
  generalize hput1 : ((x10.setCell ⟨w.heap.size + 1, 0, none⟩ (.bool (zs lq.num))).setCell ⟨w.heap.size + 1, 1, none⟩ (.slice g4 (tln lq.num.natAbs) d4)) = x11 at hP hS1
  have hB1 := hP.fc
  simp only [zF, Nat.reduceAdd] at hB1
  replace hL0 := hP
  replace hS := hS1
  clear hS1
  go_wp2_with fail
  exact bodyPost_ret (v := .tuple #[.agg #[.bool (zs lq.num), .slice g4 (tln lq.num.natAbs) d4], .int .i64 0]) (by simp [results, Tryz.results54, go_sem, hB1]) rfl ⟨_, rfl, (rz_of (hS.get (mK (mK mZ)))), hL0.bl⟩
 ·clear h11
  subst hr
  have hN0 := cells_of _ 0 [] rfl (hL0.get _ _ mZ)
  simp only [zF, Nat.reduceAdd] at hN0
  go_wp2_with fail
  clear hN0
  with_reducible refine Calls.mono (HG.out (.agg #[.bool (zs rs.num), .slice g5 (tln rs.num.natAbs) d5, .slice g6 (tln (fd rs)) d6]) _ (rf_of (hS.get (mK mZ)) (hS.get mZ))) ?_
  rintro e x10 ⟨rfl, hb⟩
  replace hL0 := hL0.call hb
  replace hS := hS.call hb
  clear hb hweq
  have hS1 := hS.put (((Upd.refl (w.heap.size + 1) x10).setCell 0 (.bool (zs lq.num))).setCell 1 (.slice g4 (tln lq.num.natAbs) d4)) (hL0.get _ _ (mK (mK (mK (mK mZ))))) (by intro v hv n; simp only [List.mem_cons, List.not_mem_nil, or_false] at hv; rcases hv with rfl | rfl <;> simp)
  have hA := hL0.fc
  simp only [zF, Nat.reduceAdd] at hA
  have hP := hL0.put 4 (w.heap.size + 1) _ rfl [.bool (zs lq.num), .slice g4 (tln lq.num.natAbs) d4] rfl
  simp only [setAll, List.set_cons_zero, List.set_cons_succ] at hP
  generalize hput1 : ((x10.setCell ⟨w.heap.size + 1, 0, none⟩ (.bool (zs lq.num))).setCell ⟨w.heap.size + 1, 1, none⟩ (.slice g4 (tln lq.num.natAbs) d4)) = x11 at hP hS1
  have hB1 := hP.fc
  simp only [zF, Nat.reduceAdd] at hB1
  replace hL0 := hP
  replace hS := hS1
  clear hS1
  go_wp2_with fail
  exact bodyPost_ret (v := .tuple #[.agg #[.bool (zs lq.num), .slice g4 (tln lq.num.natAbs) d4], .int .i64 0]) (by simp [results, Tryz.results54, go_sem, hB1]) rfl ⟨_, rfl, (rz_of (hS.get (mK (mK mZ)))), hL0.bl⟩
 ·clear h11
  have hN0 := cells_of _ 0 [] rfl (hL0.get _ _ mZ)
  simp only [zF, Nat.reduceAdd] at hN0
  go_wp2_with fail
  clear hN0
  with_reducible refine Calls.mono (HG.out (.agg #[.bool (zs rs.num), .slice g5 (tln rs.num.natAbs) d5, .slice g6 (tln (fd rs)) d6]) _ (rf_of (hS.get (mK mZ)) (hS.get mZ))) ?_
  rintro e x10 ⟨rfl, hb⟩
  replace hL0 := hL0.call hb
  replace hS := hS.call hb
  clear hb hweq
  go_upto_region 13 with fail
  refine region_tal 4 [EV (.agg #[.bool (zs lq.num), .slice g4 (tln lq.num.natAbs) d4]), PZ o1, PZ hh, NewB x10.heap.size [.bool false, .slice none 0 0]] [3] (by kernel_rfl) (by kernel_rfl) ?_ ?_ ?_ ?_ ?_
  ·repeat' first | exact stays_nil | apply stays_cons | exact stays_eq _ | exact stays_rz _ | exact stays_new _ _
  ·simp only [List.take_succ_cons, List.take_zero, hopsR, and_true]
   refine ⟨?_, ?_, ?_, ?_⟩ <;> intro fv w1 hb1 hp
   all_goals (have hc := (hL0.call (below_drew hb1)).fc; simp only [zF, Nat.reduceAdd] at hc; simp only [putsV, Act.put, zP, Nat.zero_add, Nat.reduceAdd])
   ·refine tyAt_none rfl ?_
    simp [tyUpon, execOp, go_sem, Act.eval, hc, Below.refl]
   ·refine tyAt_none rfl ?_
    refine ty_call (f := 61) (args := #[.int .i64 1]) (by simp [execOp, go_sem, Act.eval]) ?_
    exact (HO1.out w1).mono fun e w2 ⟨pv, h1, h2, h3⟩ => ⟨pv, h1, h2, h3⟩
   ·have h0 : EV _ (fv 0) w1 := hp 0 (LC (by kernel_rfl))
    have h1 : PZ _ (fv 1) w1 := hp 1 (LC (by kernel_rfl))
    refine tyAt_none rfl ?_
    refine ty_call (f := 60) (args := #[.agg #[.bool (zs lq.num), .slice g4 (tln lq.num.natAbs) d4], fv 1]) (by simp [execOp, go_sem, Act.eval, h0]) ?_
    exact (HA.out (.agg #[.bool (zs lq.num), .slice g4 (tln lq.num.natAbs) d4]) (fv 1) w1 (rz_of (Sl.below (hS.get (mK (mK mZ))) (below_drew hb1))) h1).mono fun e w2 ⟨pv, h1, h2, h3⟩ => ⟨pv, h1, h2, h3⟩
   ·exact tyAt_new rfl rfl new_rz (below_drew hb1).size
  ·intro j hj u w2 hT
   simp only [List.contains_iff_mem, List.mem_cons, List.not_mem_nil, or_false] at hj
   rcases hj with rfl <;> exact NewB.ptr hT
  ·exact ⟨⟨_, _, _, _, rfl, rfl, rfl, new_rz⟩, trivial⟩
  ·intro fv x11 hb1 hv hne
   have e0 : fv 0 = _ := hv 0 (by omega)
   have q1 : RZ x11 (fv 1) o1 := hv 1 (by omega)
   obtain ⟨g7, d7, e1⟩ := rz_form q1
   rw [e1] at q1
   have q2 : RZ x11 (fv 2) hh := hv 2 (by omega)
   obtain ⟨g8, d8, e2⟩ := rz_form q2
   rw [e2] at q2
   obtain ⟨kb3, e3, n3, m3⟩ : NewB x10.heap.size [.bool false, .slice none 0 0] (fv 3) x11 := hv 3 (by omega)
   simp only [List.take_succ_cons, List.take_zero, putsV, Act.put, zP, List.drop_succ_cons, List.drop_zero, Nat.zero_add, Nat.reduceAdd, e0, e1, e2, e3]
   have hx0 := hL0
   replace hL0 := hL0.call (below_drew hb1)
   replace hS := hS.call (below_drew hb1)
   replace hL0 := GL.tnew (M := []) hL0 hx0 n3 m3 (fun p hp => by cases hp)
   simp only [List.cons_append, List.nil_append] at hL0
   replace hS := hS.cons (rz_rn q1)
   replace hS := hS.cons (rz_rn q2)
   clear e0 e1 e2 e3 hb1 hv hne hx0 n3 m3 q1 q2 fv
   have hS1 := hS.put (((Upd.refl kb3 x11).setCell 0 (.bool (zs hh))).setCell 1 (.slice g8 (tln hh.natAbs) d8)) (hL0.get _ _ mZ) (by intro v hv n; simp only [List.mem_cons, List.not_mem_nil, or_false] at hv; rcases hv with rfl | rfl <;> simp)
   have hA := hL0.fc
   simp only [zF, Nat.reduceAdd] at hA
   have hP := hL0.put 0 (kb3) _ rfl [.bool (zs hh), .slice g8 (tln hh.natAbs) d8] rfl
   simp only [setAll, List.set_cons_zero, List.set_cons_succ] at hP
   generalize hput1 : ((x11.setCell ⟨kb3, 0, none⟩ (.bool (zs hh))).setCell ⟨kb3, 1, none⟩ (.slice g8 (tln hh.natAbs) d8)) = x12 at hP hS1
   have hB1 := hP.fc
   simp only [zF, Nat.reduceAdd] at hB1
   replace hL0 := hP
   replace hS := hS1
   clear hS1
   rcases (h14.out ga gb) with ⟨gc, hr⟩ | gc
   ·clear h14
    subst hr
    have hS1 := hS.put (((Upd.refl (w.heap.size + 1) x12).setCell 0 (.bool (zs hh))).setCell 1 (.slice g8 (tln hh.natAbs) d8)) (hL0.get _ _ (mK (mK (mK (mK (mK mZ)))))) (by intro v hv n; simp only [List.mem_cons, List.not_mem_nil, or_false] at hv; rcases hv with rfl | rfl <;> simp)
    have hP := hL0.put 5 (w.heap.size + 1) _ rfl [.bool (zs hh), .slice g8 (tln hh.natAbs) d8] rfl
    simp only [setAll, List.set_cons_zero, List.set_cons_succ] at hP
    generalize hput2 : ((x12.setCell ⟨w.heap.size + 1, 0, none⟩ (.bool (zs hh))).setCell ⟨w.heap.size + 1, 1, none⟩ (.slice g8 (tln hh.natAbs) d8)) = x13 at hP hS1
    have hB2 := hP.fc
    simp only [zF, Nat.reduceAdd] at hB2
    replace hL0 := hP
    replace hS := hS1
    clear hS1
    go_wp2_with fail
    exact bodyPost_ret (v := .tuple #[.agg #[.bool (zs hh), .slice g8 (tln hh.natAbs) d8], .int .i64 0]) (by simp [results, Tryz.results54, go_sem, hB2]) rfl ⟨_, rfl, (rz_of (hS.get mZ)), hL0.bl⟩
   ·clear h14
    go_upto_region 16 with fail
    clear hput1 hB1
    clear hA
    refine region_tl 4 [EV (.agg #[.bool (zs rs.num), .slice g5 (tln rs.num.natAbs) d5, .slice g6 (tln (fd rs)) d6]), PF hf, EV (.int .i64 c), EV (.int .i64 c)] (by kernel_rfl) (by kernel_rfl) ?_ ?_ ?_
    ·repeat' first | exact stays_nil | apply stays_cons | exact stays_eq _ | exact stays_rf _
    ·simp only [List.take_succ_cons, List.take_zero, hopsR, and_true]
     refine ⟨?_, ?_, ?_, ?_⟩ <;> intro fv w1 hb1 hp
     all_goals (have hc := (hL0.call (below_drew hb1)).fc; simp only [zF, Nat.reduceAdd] at hc; simp only [putsV, Act.put, zP, Nat.zero_add, Nat.reduceAdd])
     ·refine tyAt_none rfl ?_
      simp [tyUpon, execOp, go_sem, Act.eval, hc, Below.refl]
     ·refine tyAt_none rfl ?_
      refine ty_call (f := 81) (args := #[.int .i64 1, .int .i64 2]) (by simp [execOp, go_sem, Act.eval]) ?_
      exact (HH.out w1).mono fun e w2 ⟨pv, h1, h2, h3⟩ => ⟨pv, h1, h2, h3⟩
     ·have h0 : EV _ (fv 0) w1 := hp 0 (LC (by kernel_rfl))
      have h1 : PF _ (fv 1) w1 := hp 1 (LC (by kernel_rfl))
      refine tyAt_none rfl ?_
      refine ty_call (f := 114) (args := #[.agg #[.bool (zs rs.num), .slice g5 (tln rs.num.natAbs) d5, .slice g6 (tln (fd rs)) d6], fv 1]) (by simp [execOp, go_sem, Act.eval, h0]) ?_
      exact (HC.out (.agg #[.bool (zs rs.num), .slice g5 (tln rs.num.natAbs) d5, .slice g6 (tln (fd rs)) d6]) (fv 1) w1 (rf_of (Sl.below (hS.get (mK (mK (mK mZ)))) (below_drew hb1)) (Sl.below (hS.get (mK (mK mZ))) (below_drew hb1))) h1).mono fun e w2 ⟨h1, h2⟩ => ⟨_, h1, rfl, h2⟩
     ·have h2 : EV _ (fv 2) w1 := hp 2 (LC (by kernel_rfl))
      refine tyAt_none rfl ?_
      simp [tyUpon, execOp, go_sem, Act.eval, h2, Below.refl]
    ·intro fv x13 hb1 hv
     have e0 : fv 0 = _ := hv 0 (by omega)
     have q1 : RF x13 (fv 1) hf := hv 1 (by omega)
     obtain ⟨g9, d9, g10, d10, e1⟩ := rf_form q1
     rw [e1] at q1
     have e2 : fv 2 = _ := hv 2 (by omega)
     have e3 : fv 3 = _ := hv 3 (by omega)
     simp only [List.take_succ_cons, List.take_zero, putsV, Act.put, zP, List.drop_succ_cons, List.drop_zero, Nat.zero_add, Nat.reduceAdd, e0, e1, e2, e3]
     replace hL0 := hL0.call (below_drew hb1)
     replace hS := hS.call (below_drew hb1)
     replace hS := hS.cons (rf_rn1 q1)
     replace hS := hS.cons (rf_rn2 q1)
     clear e0 e1 e2 e3 hb1 hv q1 fv
     go_upto_region 17 with fail
     refine region_tbl 8 5 [EV (.agg #[.bool (zs lq.num), .slice g4 (tln lq.num.natAbs) d4]), PZ tw, fun pu pw => ∃ pa pb, pu = .tuple #[pa, pb] ∧ RZ pw pa qv ∧ RZ pw pb od, fun pu pw => ∃ pa pb, pu = .tuple #[pa, pb] ∧ RZ pw pa qv ∧ RZ pw pb od, PZ qv, PZ od, NewB x13.heap.size [.bool false, .slice none 0 0], NewB x13.heap.size [.bool false, .slice none 0 0]] [6, 7] (by kernel_rfl) (by kernel_rfl) ?_ ?_ ?_ ?_ ?_ (by rfl) ?_
     ·repeat' first | exact stays_nil | apply stays_cons | exact stays_eq _ | exact stays_rz _ | exact stays_rz2 _ _ | exact stays_new _ _
     ·simp only [List.take_succ_cons, List.take_zero, hopsR, and_true]
      refine ⟨?_, ?_, ?_, ?_, ?_, ?_, ?_, ?_⟩ <;> intro fv w1 hb1 hp
      all_goals (have hc := (hL0.call (below_drew hb1)).fc; simp only [zF, Nat.reduceAdd] at hc; simp only [putsV, Act.put, zP, Nat.zero_add, Nat.reduceAdd])
      ·refine tyAt_none rfl ?_
       simp [tyUpon, execOp, go_sem, Act.eval, hc, Below.refl]
      ·refine tyAt_none rfl ?_
       refine ty_call (f := 61) (args := #[.int .i64 2]) (by simp [execOp, go_sem, Act.eval]) ?_
       exact (HO2.out w1).mono fun e w2 ⟨pv, h1, h2, h3⟩ => ⟨pv, h1, h2, h3⟩
      ·have h0 : EV _ (fv 0) w1 := hp 0 (LC (by kernel_rfl))
       have h1 : PZ _ (fv 1) w1 := hp 1 (LC (by kernel_rfl))
       refine tyAt_none rfl ?_
       refine ty_call (f := 115) (args := #[.agg #[.bool (zs lq.num), .slice g4 (tln lq.num.natAbs) d4], fv 1]) (by simp [execOp, go_sem, Act.eval, h0]) ?_
       exact (HD.out (.agg #[.bool (zs lq.num), .slice g4 (tln lq.num.natAbs) d4]) (fv 1) w1 (rz_of (Sl.below (hS.get (mK (mK (mK (mK (mK (mK mZ))))))) (below_drew hb1))) h1).mono fun e w2 ⟨pa, pb, h1, h2, h3, h4⟩ => ⟨_, h1, ⟨pa, pb, rfl, h2, h3⟩, h4⟩
      ·have h2 : (fun pu pw => ∃ pa pb, pu = .tuple #[pa, pb] ∧ RZ pw pa qv ∧ RZ pw pb od) (fv 2) w1 := hp 2 (LC (by kernel_rfl))
       refine tyAt_none rfl ?_
       obtain ⟨pa, pb, pe, pz1, pz2⟩ := h2
       simp [tyUpon, execOp, go_sem, Act.eval, pe, Below.refl]
       first | exact ⟨pz1, pz2⟩ | exact ⟨_, _, ⟨rfl, rfl⟩, pz1, pz2⟩ | exact ⟨_, _, rfl, pz1, pz2⟩
      ·have h3 : (fun pu pw => ∃ pa pb, pu = .tuple #[pa, pb] ∧ RZ pw pa qv ∧ RZ pw pb od) (fv 3) w1 := hp 3 (LC (by kernel_rfl))
       refine tyAt_none rfl ?_
       obtain ⟨pa, pb, pe, pz0, pz1⟩ := h3
       simp [tyUpon, execOp, go_sem, Act.eval, pe, Below.refl]
       exact pz0
      ·have h3 : (fun pu pw => ∃ pa pb, pu = .tuple #[pa, pb] ∧ RZ pw pa qv ∧ RZ pw pb od) (fv 3) w1 := hp 3 (LC (by kernel_rfl))
       refine tyAt_none rfl ?_
       obtain ⟨pa, pb, pe, pz0, pz1⟩ := h3
       simp [tyUpon, execOp, go_sem, Act.eval, pe, Below.refl]
       exact pz1
      ·exact tyAt_new rfl rfl new_rz (below_drew hb1).size
      ·exact tyAt_new rfl rfl new_rz (below_drew hb1).size
     ·intro j hj u w2 hT
      simp only [List.contains_iff_mem, List.mem_cons, List.not_mem_nil, or_false] at hj
      rcases hj with rfl | rfl <;> exact NewB.ptr hT
     ·exact ⟨⟨_, _, _, _, rfl, rfl, rfl, new_rz⟩, ⟨_, _, _, _, rfl, rfl, rfl, new_rz⟩, trivial⟩
     ·intro fv wl hb1 hv
      have e0 : fv 0 = .agg #[.bool (zs lq.num), .slice g4 (tln lq.num.natAbs) d4] := hv 0 (by omega) (by omega)
      obtain ⟨lg1, ld1, e1⟩ := rz_form (show RZ wl (fv 1) tw from hv 1 (by omega) (by omega))
      obtain ⟨pa2, pb2, e2, qa2, qb2⟩ := hv 2 (by omega) (by omega)
      obtain ⟨pa3, pb3, e3, qa3, qb3⟩ := hv 3 (by omega) (by omega)
      obtain ⟨lg4, ld4, e4⟩ := rz_form (show RZ wl (fv 4) qv from hv 4 (by omega) (by omega))
      obtain ⟨kb6, e6, n6, m6⟩ : NewB x13.heap.size [.bool false, .slice none 0 0] (fv 6) wl := hv 6 (by omega) (by omega)
      obtain ⟨kb7, e7, n7, m7⟩ : NewB x13.heap.size [.bool false, .slice none 0 0] (fv 7) wl := hv 7 (by omega) (by omega)
      have hx0 := hL0
      replace hL0 := hL0.call (below_drew hb1)
      replace hL0 := GL.tnew (M := []) hL0 hx0 n6 m6 (fun p hp => by cases hp)
      simp only [List.cons_append, List.nil_append] at hL0
      have hA := hL0.fc
      simp only [zF, Nat.reduceAdd] at hA
      have hP := hL0.put 0 (kb6) _ rfl [.bool (zs qv), .slice lg4 (tln qv.natAbs) ld4] rfl
      simp only [setAll, List.set_cons_zero, List.set_cons_succ] at hP
      have hB1 := hP.fc
      simp only [zF, Nat.reduceAdd] at hB1
      refine ⟨((wl.setCell ⟨kb6, 0, none⟩ (.bool (zs qv))).setCell ⟨kb6, 1, none⟩ (.slice lg4 (tln qv.natAbs) ld4)), pb3, fun o ho => ?_, fun o ho => ?_, ?_⟩
      ·obtain rfl := Option.some.inj ho
       simp [execOp, go_sem, Act.eval, putsV, Act.put, List.take_succ_cons, List.take_zero, zP, Nat.zero_add, Nat.reduceAdd, hA, e0, e1, e2, e3, e4, e6, e7]
      ·obtain rfl := Option.some.inj ho
       simp [execOp, go_sem, Act.eval, putsV, Act.put, List.take_succ_cons, List.take_zero, zP, Nat.zero_add, Nat.reduceAdd, hB1, e0, e1, e2, e3, e4, e6, e7]
      ·exact qb3
     ·intro fv x14 hb1 hv hne
      have e0 : fv 0 = _ := hv 0 (by omega)
      have q1 : RZ x14 (fv 1) tw := hv 1 (by omega)
      obtain ⟨g11, d11, e1⟩ := rz_form q1
      rw [e1] at q1
      obtain ⟨pa2, pb2, e2, q2, -⟩ := hv 2 (by omega)
      obtain ⟨pa3, pb3, e3, q3, -⟩ := hv 3 (by omega)
      have q4 : RZ x14 (fv 4) qv := hv 4 (by omega)
      obtain ⟨g12, d12, e4⟩ := rz_form q4
      rw [e4] at q4
      have q5 : RZ x14 (fv 5) od := hv 5 (by omega)
      obtain ⟨g13, d13, e5⟩ := rz_form q5
      rw [e5] at q5
      obtain ⟨kb6, e6, n6, m6⟩ : NewB x13.heap.size [.bool false, .slice none 0 0] (fv 6) x14 := hv 6 (by omega)
      obtain ⟨kb7, e7, n7, m7⟩ : NewB x13.heap.size [.bool false, .slice none 0 0] (fv 7) x14 := hv 7 (by omega)
      simp only [List.take_succ_cons, List.take_zero, putsV, Act.put, zP, List.drop_succ_cons, List.drop_zero, Nat.zero_add, Nat.reduceAdd, e0, e1, e2, e3, e4, e5, e6, e7]
      have hx0 := hL0
      replace hL0 := hL0.call (below_drew hb1)
      replace hS := hS.call (below_drew hb1)
      replace hL0 := GL.tnew (M := []) hL0 hx0 n6 m6 (fun p hp => by cases hp)
      replace hL0 := GL.tnew (M := [(kb6, [.bool false, .slice none 0 0])]) hL0 hx0 n7 m7 (by intro p hp; simp only [List.mem_cons, List.not_mem_nil, or_false] at hp; rcases hp with rfl; exact ptr_ne e6 e7 (hne 6 7 (by omega) (by omega) (by omega) rfl rfl))
      simp only [List.cons_append, List.nil_append] at hL0
      replace hS := hS.cons (rz_rn q1)
      replace hS := hS.cons (rz_rn q4)
      replace hS := hS.cons (rz_rn q5)
      clear e0 e1 e2 e3 e4 e5 e6 e7 hb1 hv hne hx0 n6 m6 n7 m7 q1 q2 q3 q4 q5 fv
      have hS1 := hS.put (((Upd.refl kb6 x14).setCell 0 (.bool (zs qv))).setCell 1 (.slice g12 (tln qv.natAbs) d12)) (hL0.get _ _ (mK mZ)) (by intro v hv n; simp only [List.mem_cons, List.not_mem_nil, or_false] at hv; rcases hv with rfl | rfl <;> simp)
      have hA := hL0.fc
      simp only [zF, Nat.reduceAdd] at hA
      have hP := hL0.put 1 (kb6) _ rfl [.bool (zs qv), .slice g12 (tln qv.natAbs) d12] rfl
      simp only [setAll, List.set_cons_zero, List.set_cons_succ] at hP
      generalize hput2 : ((x14.setCell ⟨kb6, 0, none⟩ (.bool (zs qv))).setCell ⟨kb6, 1, none⟩ (.slice g12 (tln qv.natAbs) d12)) = x15 at hP hS1
      have hB2 := hP.fc
      simp only [zF, Nat.reduceAdd] at hB2
      replace hL0 := hP
      replace hS := hS1
      clear hS1
      have hS1 := hS.put (((Upd.refl kb7 x15).setCell 0 (.bool (zs od))).setCell 1 (.slice g13 (tln od.natAbs) d13)) (hL0.get _ _ mZ) (by intro v hv n; simp only [List.mem_cons, List.not_mem_nil, or_false] at hv; rcases hv with rfl | rfl <;> simp)
      have hP := hL0.put 0 (kb7) _ rfl [.bool (zs od), .slice g13 (tln od.natAbs) d13] rfl
      simp only [setAll, List.set_cons_zero, List.set_cons_succ] at hP
      generalize hput3 : ((x15.setCell ⟨kb7, 0, none⟩ (.bool (zs od))).setCell ⟨kb7, 1, none⟩ (.slice g13 (tln od.natAbs) d13)) = x16 at hP hS1
      have hB3 := hP.fc
      simp only [zF, Nat.reduceAdd] at hB3
      replace hL0 := hP
      replace hS := hS1
      clear hS1
      rcases (h18.out ga gb gc) with ⟨gd, hr⟩ | ⟨gd, gf, hr⟩ | ⟨gd, gf, gg, hr⟩ | ⟨gd, gf, gg, hr⟩
      ·clear h18
       subst hr
       have hS1 := hS.put (((Upd.refl (w.heap.size + 1) x16).setCell 0 (.bool (zs lq.num))).setCell 1 (.slice g4 (tln lq.num.natAbs) d4)) (hL0.get _ _ (mK (mK (mK (mK (mK (mK (mK mZ)))))))) (by intro v hv n; simp only [List.mem_cons, List.not_mem_nil, or_false] at hv; rcases hv with rfl | rfl <;> simp)
       have hP := hL0.put 7 (w.heap.size + 1) _ rfl [.bool (zs lq.num), .slice g4 (tln lq.num.natAbs) d4] rfl
       simp only [setAll, List.set_cons_zero, List.set_cons_succ] at hP
       generalize hput4 : ((x16.setCell ⟨w.heap.size + 1, 0, none⟩ (.bool (zs lq.num))).setCell ⟨w.heap.size + 1, 1, none⟩ (.slice g4 (tln lq.num.natAbs) d4)) = x17 at hP hS1
       have hB4 := hP.fc
       simp only [zF, Nat.reduceAdd] at hB4
       replace hL0 := hP
       replace hS := hS1
       clear hS1
       go_wp2_with fail
       exact bodyPost_ret (v := .tuple #[.agg #[.bool (zs lq.num), .slice g4 (tln lq.num.natAbs) d4], .int .i64 0]) (by simp [results, Tryz.results54, go_sem, hB4]) rfl ⟨_, rfl, (rz_of (hS.get (mK (mK (mK (mK (mK (mK (mK (mK (mK mZ))))))))))), hL0.bl⟩
      ·clear h18
       subst hr
       have hS1 := hS.put (((Upd.refl (w.heap.size + 1) x16).setCell 0 (.bool (zs hh))).setCell 1 (.slice g8 (tln hh.natAbs) d8)) (hL0.get _ _ (mK (mK (mK (mK (mK (mK (mK mZ)))))))) (by intro v hv n; simp only [List.mem_cons, List.not_mem_nil, or_false] at hv; rcases hv with rfl | rfl <;> simp)
       have hP := hL0.put 7 (w.heap.size + 1) _ rfl [.bool (zs hh), .slice g8 (tln hh.natAbs) d8] rfl
       simp only [setAll, List.set_cons_zero, List.set_cons_succ] at hP
       generalize hput4 : ((x16.setCell ⟨w.heap.size + 1, 0, none⟩ (.bool (zs hh))).setCell ⟨w.heap.size + 1, 1, none⟩ (.slice g8 (tln hh.natAbs) d8)) = x17 at hP hS1
       have hB4 := hP.fc
       simp only [zF, Nat.reduceAdd] at hB4
       replace hL0 := hP
       replace hS := hS1
       clear hS1
       go_wp2_with fail
       exact bodyPost_ret (v := .tuple #[.agg #[.bool (zs hh), .slice g8 (tln hh.natAbs) d8], .int .i64 0]) (by simp [results, Tryz.results54, go_sem, hB4]) rfl ⟨_, rfl, (rz_of (hS.get (mK (mK (mK (mK (mK mZ))))))), hL0.bl⟩
      ·clear h18
       subst hr
       go_wp2_with fail
       clear hA
       with_reducible refine Calls.mono (HU.out (.agg #[.bool (zs od), .slice g13 (tln od.natAbs) d13]) _ (rz_of (hS.get mZ))) ?_
       rintro e x17 ⟨rfl, hb⟩
       replace hL0 := hL0.call hb
       replace hS := hS.call hb
       clear hb hput2 hB2 hput3 hB3
       have hS1 := hS.put (((Upd.refl (w.heap.size + 1) x17).setCell 0 (.bool (zs lq.num))).setCell 1 (.slice g4 (tln lq.num.natAbs) d4)) (hL0.get _ _ (mK (mK (mK (mK (mK (mK (mK mZ)))))))) (by intro v hv n; simp only [List.mem_cons, List.not_mem_nil, or_false] at hv; rcases hv with rfl | rfl <;> simp)
       have hA := hL0.fc
       simp only [zF, Nat.reduceAdd] at hA
       have hP := hL0.put 7 (w.heap.size + 1) _ rfl [.bool (zs lq.num), .slice g4 (tln lq.num.natAbs) d4] rfl
       simp only [setAll, List.set_cons_zero, List.set_cons_succ] at hP
       generalize hput4 : ((x17.setCell ⟨w.heap.size + 1, 0, none⟩ (.bool (zs lq.num))).setCell ⟨w.heap.size + 1, 1, none⟩ (.slice g4 (tln lq.num.natAbs) d4)) = x18 at hP hS1
       have hB4 := hP.fc
       simp only [zF, Nat.reduceAdd] at hB4
       replace hL0 := hP
       replace hS := hS1
       clear hS1
       go_wp2_with fail
       exact bodyPost_ret (v := .tuple #[.agg #[.bool (zs lq.num), .slice g4 (tln lq.num.natAbs) d4], .int .i64 0]) (by simp [results, Tryz.results54, go_sem, hB4]) rfl ⟨_, rfl, (rz_of (hS.get (mK (mK (mK (mK (mK (mK (mK (mK (mK mZ))))))))))), hL0.bl⟩
      ·clear h18
       subst hr
       go_wp2_with fail
       clear hA
       with_reducible refine Calls.mono (HU.out (.agg #[.bool (zs od), .slice g13 (tln od.natAbs) d13]) _ (rz_of (hS.get mZ))) ?_
       rintro e x17 ⟨rfl, hb⟩
       replace hL0 := hL0.call hb
       replace hS := hS.call hb
       clear hb hput2 hB2 hput3 hB3
       have hS1 := hS.put (((Upd.refl (w.heap.size + 1) x17).setCell 0 (.bool (zs hh))).setCell 1 (.slice g8 (tln hh.natAbs) d8)) (hL0.get _ _ (mK (mK (mK (mK (mK (mK (mK mZ)))))))) (by intro v hv n; simp only [List.mem_cons, List.not_mem_nil, or_false] at hv; rcases hv with rfl | rfl <;> simp)
       have hA := hL0.fc
       simp only [zF, Nat.reduceAdd] at hA
       have hP := hL0.put 7 (w.heap.size + 1) _ rfl [.bool (zs hh), .slice g8 (tln hh.natAbs) d8] rfl
       simp only [setAll, List.set_cons_zero, List.set_cons_succ] at hP
       generalize hput4 : ((x17.setCell ⟨w.heap.size + 1, 0, none⟩ (.bool (zs hh))).setCell ⟨w.heap.size + 1, 1, none⟩ (.slice g8 (tln hh.natAbs) d8)) = x18 at hP hS1
       have hB4 := hP.fc
       simp only [zF, Nat.reduceAdd] at hB4
       replace hL0 := hP
       replace hS := hS1
       clear hS1
       go_wp2_with fail
       exact bodyPost_ret (v := .tuple #[.agg #[.bool (zs hh), .slice g8 (tln hh.natAbs) d8], .int .i64 0]) (by simp [results, Tryz.results54, go_sem, hB4]) rfl ⟨_, rfl, (rz_of (hS.get (mK (mK (mK (mK (mK mZ))))))), hL0.bl⟩
theorem rrd_err (q : Rat) (n v z c : Int) (HW : ∀ (p0 : Value) (w : World), RF w p0 q → Calls Tryz.prog 54 #[p0, .int .i64 n, .int .i64 v] w fun e w' => ∃ pv, e = .returned (.tuple #[pv, .int .i64 c]) ∧ RZ w' pv z ∧ Below w.heap.size w w') (hc : (c == 0) = false) (p0 : Value) (w : World) (r0 : RF w p0 q) :
  Calls Tryz.prog 15 #[p0, .int .i64 n, .int .i64 v] w fun e w' => ∃ pv, e = .returned (.tuple #[pv, .int .i64 c]) ∧ RF w' pv 0 ∧ Below w.heap.size w w' := by
 obtain ⟨xa0, xc0, xb0, xd0, rfl⟩ := rf_form r0
 have xf0 := Lib.hid (rf_rn1 r0)
 have xk0 := Lib.hid (rf_rn2 r0)
 clear r0
 replace HW := Lib.hid HW
 have hL0 : GL w w [] := GL.start w
 have hS : SS w [] := SS.nil w
 have hc2 : (c != 0) = true := by rw [bne, hc]; rfl
 obtain ⟨x1, hweq, hL0, hS⟩ := GL.named2 ((hL0.new rfl [.bool (zs q.num), .slice xa0 (tln q.num.natAbs) xc0, .slice xb0 (tln (fd q)) xd0] 46).new (K := w.heap.size + 1) (szA _ _) [.bool false, .slice none 0 0, .slice none 0 0] 46) ((hS.new (.cells #[.bool (zs q.num), .slice xa0 (tln q.num.natAbs) xc0, .slice xb0 (tln (fd q)) xd0] 46)).new (.cells #[.bool false, .slice none 0 0, .slice none 0 0] 46))
 go_enter Tryz.func15, Tryz.ntmps15
 have hN0 := cells_of _ 0 [] rfl (hL0.get _ _ (mK mZ))
 simp only [zF, Nat.reduceAdd] at hN0
 go_wp2_with fail
 clear hN0
 with_reducible refine Calls.mono (HW.out (.agg #[.bool (zs q.num), .slice xa0 (tln q.num.natAbs) xc0, .slice xb0 (tln (fd q)) xd0]) _ (rf_of (Sl.below xf0.out hL0.bl) (Sl.below xk0.out hL0.bl))) ?_
 rintro e x2 ⟨v0, rfl, q0, hb⟩
 replace hL0 := hL0.call hb
 replace hS := hS.call hb
 clear hb hweq
 obtain ⟨g1, d1, rfl⟩ := rz_form q0
 replace hS := hS.cons (rz_rn q0)
 clear q0
 obtain ⟨x3, hweq, hL0, hS⟩ := GL.named2 (hL0.new rfl [.bool (zs z), .slice g1 (tln z.natAbs) d1] 44) (hS.new (.cells #[.bool (zs z), .slice g1 (tln z.natAbs) d1] 44))
 have hS1 := hS.put ((((Upd.refl (w.heap.size + 1) x3).setCell 0 (.bool false)).setCell 1 (.slice none 0 0)).setCell 2 (.slice none 0 0)) (hL0.get _ _ (mK mZ)) (by intro v hv n; simp only [List.mem_cons, List.not_mem_nil, or_false] at hv; rcases hv with rfl | rfl | rfl <;> simp)
 have hA := hL0.fc
 simp only [zF, Nat.reduceAdd] at hA
 have hP := hL0.put 1 (w.heap.size + 1) _ rfl [.bool false, .slice none 0 0, .slice none 0 0] rfl
 simp only [setAll, List.set_cons_zero, List.set_cons_succ] at hP
 generalize hput1 : (((x3.setCell ⟨w.heap.size + 1, 0, none⟩ (.bool false)).setCell ⟨w.heap.size + 1, 1, none⟩ (.slice none 0 0)).setCell ⟨w.heap.size + 1, 2, none⟩ (.slice none 0 0)) = x4 at hP hS1
 have hB1 := hP.fc
 simp only [zF, Nat.reduceAdd] at hB1
 replace hL0 := hP
 replace hS := hS1
 clear hS1
 go_wp2_with fail
 exact bodyPost_ret (v := .tuple #[.agg #[.bool false, .slice none 0 0, .slice none 0 0], .int .i64 c]) (by simp [results, Tryz.results15, go_sem, hB1]) rfl ⟨_, rfl, (rf_nil _), hL0.bl⟩
theorem rrd_ok (q kq on tq r : Rat) (n v : Int) (HW : ∀ (p0 : Value) (w : World), RF w p0 q → Calls Tryz.prog 54 #[p0, .int .i64 n, .int .i64 v] w fun e w' => ∃ pv, e = .returned (.tuple #[pv, .int .i64 0]) ∧ RZ w' pv kq.num ∧ Below w.heap.size w w') (HI1 : ∀ (w : World), Calls Tryz.prog 57 #[.int .i64 1] w fun e w' => ∃ pv, e = .returned pv ∧ RF w' pv on ∧ Below w.heap.size w w') (HT : ∀ (p0 : Value) (w : World), RF w p0 on → Calls Tryz.prog 56 #[p0, .int .i64 n] w fun e w' => ∃ pv, e = .returned pv ∧ RF w' pv tq ∧ Below w.heap.size w w') (HD : ∀ (p0 p1 : Value) (w : World), RF w p0 kq → RF w p1 tq → Calls Tryz.prog 55 #[p0, p1] w fun e w' => ∃ pv, e = .returned pv ∧ RF w' pv r ∧ Below w.heap.size w w') (hkq : fd kq = 0) (p0 : Value) (w : World) (r0 : RF w p0 q) :
  Calls Tryz.prog 15 #[p0, .int .i64 n, .int .i64 v] w fun e w' => ∃ pv, e = .returned (.tuple #[pv, .int .i64 0]) ∧ RF w' pv r ∧ Below w.heap.size w w' := by
 obtain ⟨xa0, xc0, xb0, xd0, rfl⟩ := rf_form r0
 have xf0 := Lib.hid (rf_rn1 r0)
 have xk0 := Lib.hid (rf_rn2 r0)
 clear r0
 replace HW := Lib.hid HW
 replace HI1 := Lib.hid HI1
 replace HT := Lib.hid HT
 replace HD := Lib.hid HD
 have hL0 : GL w w [] := GL.start w
 have hS : SS w [] := SS.nil w
 replace hkq := Lib.hid hkq
 obtain ⟨x1, hweq, hL0, hS⟩ := GL.named2 ((hL0.new rfl [.bool (zs q.num), .slice xa0 (tln q.num.natAbs) xc0, .slice xb0 (tln (fd q)) xd0] 46).new (K := w.heap.size + 1) (szA _ _) [.bool false, .slice none 0 0, .slice none 0 0] 46) ((hS.new (.cells #[.bool (zs q.num), .slice xa0 (tln q.num.natAbs) xc0, .slice xb0 (tln (fd q)) xd0] 46)).new (.cells #[.bool false, .slice none 0 0, .slice none 0 0] 46))
 go_enter Tryz.func15, Tryz.ntmps15
 have hN0 := cells_of _ 0 [] rfl (hL0.get _ _ (mK mZ))
 simp only [zF, Nat.reduceAdd] at hN0
 go_wp2_with fail
 clear hN0
 with_reducible refine Calls.mono (HW.out (.agg #[.bool (zs q.num), .slice xa0 (tln q.num.natAbs) xc0, .slice xb0 (tln (fd q)) xd0]) _ (rf_of (Sl.below xf0.out hL0.bl) (Sl.below xk0.out hL0.bl))) ?_
 rintro e x2 ⟨v0, rfl, q0, hb⟩
 replace hL0 := hL0.call hb
 replace hS := hS.call hb
 clear hb hweq
 obtain ⟨g1, d1, rfl⟩ := rz_form q0
 replace hS := hS.cons (rz_rn q0)
 clear q0
 obtain ⟨x3, hweq, hL0, hS⟩ := GL.named2 (hL0.new rfl [.bool (zs kq.num), .slice g1 (tln kq.num.natAbs) d1] 44) (hS.new (.cells #[.bool (zs kq.num), .slice g1 (tln kq.num.natAbs) d1] 44))
 go_upto_region 4 with fail
 clear hweq
 refine region_tl 6 [EV (.agg #[.bool (zs kq.num), .slice g1 (tln kq.num.natAbs) d1]), EV (.agg #[.bool (zs kq.num), .slice g1 (tln kq.num.natAbs) d1, .slice none 0 0]), PF on, EV (.int .i64 n), PF tq, PF r] (by kernel_rfl) (by kernel_rfl) ?_ ?_ ?_
 ·repeat' first | exact stays_nil | apply stays_cons | exact stays_eq _ | exact stays_rf _
 ·simp only [List.take_succ_cons, List.take_zero, hopsR, and_true]
  refine ⟨?_, ?_, ?_, ?_, ?_, ?_⟩ <;> intro fv w1 hb1 hp
  all_goals (have hc := (hL0.call (below_drew hb1)).fc; simp only [zF, Nat.reduceAdd] at hc; simp only [putsV, Act.put, zP, Nat.zero_add, Nat.reduceAdd])
  ·refine tyAt_none rfl ?_
   simp [tyUpon, execOp, go_sem, Act.eval, hc, Below.refl]
  ·have h0 : EV _ (fv 0) w1 := hp 0 (LC (by kernel_rfl))
   refine tyAt_none rfl ?_
   simp [tyUpon, execOp, go_sem, Act.eval, h0, Below.refl]
  ·refine tyAt_none rfl ?_
   refine ty_call (f := 57) (args := #[.int .i64 1]) (by simp [execOp, go_sem, Act.eval]) ?_
   exact (HI1.out w1).mono fun e w2 ⟨pv, h1, h2, h3⟩ => ⟨pv, h1, h2, h3⟩
  ·refine tyAt_none rfl ?_
   simp [tyUpon, execOp, go_sem, Act.eval, Below.refl]
  ·have h2 : PF _ (fv 2) w1 := hp 2 (LC (by kernel_rfl))
   have h3 : EV _ (fv 3) w1 := hp 3 (LC (by kernel_rfl))
   refine tyAt_none rfl ?_
   refine ty_call (f := 56) (args := #[fv 2, .int .i64 n]) (by simp [execOp, go_sem, Act.eval, h3]) ?_
   exact (HT.out (fv 2) w1 h2).mono fun e w2 ⟨pv, h1, h2, h3⟩ => ⟨pv, h1, h2, h3⟩
  ·have h1 : EV _ (fv 1) w1 := hp 1 (LC (by kernel_rfl))
   have h4 : PF _ (fv 4) w1 := hp 4 (LC (by kernel_rfl))
   refine tyAt_none rfl ?_
   refine ty_call (f := 55) (args := #[.agg #[.bool (zs kq.num), .slice g1 (tln kq.num.natAbs) d1, .slice none 0 0], fv 4]) (by simp [execOp, go_sem, Act.eval, h1]) ?_
   exact (HD.out (.agg #[.bool (zs kq.num), .slice g1 (tln kq.num.natAbs) d1, .slice none 0 0]) (fv 4) w1 (rf_of (Sl.below (hS.get mZ) (below_drew hb1)) (by rw [hkq.out]; exact (rn_nil _))) h4).mono fun e w2 ⟨pv, h1, h2, h3⟩ => ⟨pv, h1, h2, h3⟩
 ·intro fv x4 hb1 hv
  have e0 : fv 0 = _ := hv 0 (by omega)
  have e1 : fv 1 = _ := hv 1 (by omega)
  have q2 : RF x4 (fv 2) on := hv 2 (by omega)
  obtain ⟨g2, d2, g3, d3, e2⟩ := rf_form q2
  rw [e2] at q2
  have e3 : fv 3 = _ := hv 3 (by omega)
  have q4 : RF x4 (fv 4) tq := hv 4 (by omega)
  obtain ⟨g4, d4, g5, d5, e4⟩ := rf_form q4
  rw [e4] at q4
  have q5 : RF x4 (fv 5) r := hv 5 (by omega)
  obtain ⟨g6, d6, g7, d7, e5⟩ := rf_form q5
  rw [e5] at q5
  simp only [List.take_succ_cons, List.take_zero, putsV, Act.put, zP, List.drop_succ_cons, List.drop_zero, Nat.zero_add, Nat.reduceAdd, e0, e1, e2, e3, e4, e5]
  replace hL0 := hL0.call (below_drew hb1)
  replace hS := hS.call (below_drew hb1)
  replace hS := hS.cons (rf_rn1 q2)
  replace hS := hS.cons (rf_rn2 q2)
  replace hS := hS.cons (rf_rn1 q4)
  replace hS := hS.cons (rf_rn2 q4)
  replace hS := hS.cons (rf_rn1 q5)
  replace hS := hS.cons (rf_rn2 q5)
  clear e0 e1 e2 e3 e4 e5 hb1 hv q2 q4 q5 fv
  have hS1 := hS.put ((((Upd.refl (w.heap.size + 1) x4).setCell 0 (.bool (zs r.num))).setCell 1 (.slice g6 (tln r.num.natAbs) d6)).setCell 2 (.slice g7 (tln (fd r)) d7)) (hL0.get _ _ (mK mZ)) (by intro v hv n; simp only [List.mem_cons, List.not_mem_nil, or_false] at hv; rcases hv with rfl | rfl | rfl <;> simp)
  have hA := hL0.fc
  simp only [zF, Nat.reduceAdd] at hA
  have hP := hL0.put 1 (w.heap.size + 1) _ rfl [.bool (zs r.num), .slice g6 (tln r.num.natAbs) d6, .slice g7 (tln (fd r)) d7] rfl
  simp only [setAll, List.set_cons_zero, List.set_cons_succ] at hP
  generalize hput1 : (((x4.setCell ⟨w.heap.size + 1, 0, none⟩ (.bool (zs r.num))).setCell ⟨w.heap.size + 1, 1, none⟩ (.slice g6 (tln r.num.natAbs) d6)).setCell ⟨w.heap.size + 1, 2, none⟩ (.slice g7 (tln (fd r)) d7)) = x5 at hP hS1
  have hB1 := hP.fc
  simp only [zF, Nat.reduceAdd] at hB1
  replace hL0 := hP
  replace hS := hS1
  clear hS1
  go_wp2_with fail
  exact bodyPost_ret (v := .tuple #[.agg #[.bool (zs r.num), .slice g6 (tln r.num.natAbs) d6, .slice g7 (tln (fd r)) d7], .int .i64 0]) (by simp [results, Tryz.results15, go_sem, hB1]) rfl ⟨_, rfl, (rf_of (hS.get (mK mZ)) (hS.get mZ)), hL0.bl⟩
end Go.Proofs.YtahfcciihkkegaaGreatDoor
namespace Go.Proofs.YtahfcciihkkegaaGreatDoor
open Go.RowKit Go.Proofs.YtahfcciihkkegaaGreatDoor.Rx
attribute [local irreducible] lo hs sm s64 c64 d64 b64 mh ml pd pc qd qc val hiB str cmpI srD lz nb isq decB zl zh zs dval tln fd
theorem rtx_err (q : Rat) (n v z c : Int) (HW : ∀ (p0 : Value) (w : World), RF w p0 q → Calls Tryz.prog 54 #[p0, .int .i64 n, .int .i64 v] w fun e w' => ∃ pv, e = .returned (.tuple #[pv, .int .i64 c]) ∧ RZ w' pv z ∧ Below w.heap.size w w') (hc : (c == 0) = false) (p0 : Value) (w : World) (r0 : RF w p0 q) :
  Calls Tryz.prog 17 #[p0, .int .i64 n, .int .i64 v] w fun e w' => e = .returned (.tuple #[.string ⟨#[]⟩, .int .i64 c]) ∧ Below w.heap.size w w' := by
 obtain ⟨xa0, xc0, xb0, xd0, rfl⟩ := rf_form r0
 have xf0 := Lib.hid (rf_rn1 r0)
 have xk0 := Lib.hid (rf_rn2 r0)
 clear r0
 replace HW := Lib.hid HW
 have hL0 : GL w w [] := GL.start w
 have hS : SS w [] := SS.nil w
 have hc2 : (c != 0) = true := by rw [bne, hc]; rfl
 obtain ⟨x1, hweq, hL0, hS⟩ := GL.named2 (hL0.new rfl [.bool (zs q.num), .slice xa0 (tln q.num.natAbs) xc0, .slice xb0 (tln (fd q)) xd0] 46) (hS.new (.cells #[.bool (zs q.num), .slice xa0 (tln q.num.natAbs) xc0, .slice xb0 (tln (fd q)) xd0] 46))
 go_enter Tryz.func17, Tryz.ntmps17
 have hN0 := cells_of _ 0 [] rfl (hL0.get _ _ mZ)
 simp only [zF, Nat.reduceAdd] at hN0
 go_wp2_with fail
 clear hN0
 with_reducible refine Calls.mono (HW.out (.agg #[.bool (zs q.num), .slice xa0 (tln q.num.natAbs) xc0, .slice xb0 (tln (fd q)) xd0]) _ (rf_of (Sl.below xf0.out hL0.bl) (Sl.below xk0.out hL0.bl))) ?_
 rintro e x2 ⟨v0, rfl, q0, hb⟩
 replace hL0 := hL0.call hb
 replace hS := hS.call hb
 clear hb hweq
 obtain ⟨g1, d1, rfl⟩ := rz_form q0
 replace hS := hS.cons (rz_rn q0)
 clear q0
 obtain ⟨x3, hweq, hL0, hS⟩ := GL.named2 (hL0.new rfl [.bool (zs z), .slice g1 (tln z.natAbs) d1] 44) (hS.new (.cells #[.bool (zs z), .slice g1 (tln z.natAbs) d1] 44))
 go_wp2_with fail
 exact bodyPost_ret (v := .tuple #[.string ⟨#[]⟩, .int .i64 c]) (by simp [results, Tryz.results17, go_sem]) rfl ⟨rfl, hL0.bl⟩
theorem rtx_zp (q : Rat) (n v z n1 dd1 : Int) (m l9 d2 : Nat) (pd : Nat → ByteArray) (s0 s9 : ByteArray) (HW : ∀ (p0 : Value) (w : World), RF w p0 q → Calls Tryz.prog 54 #[p0, .int .i64 n, .int .i64 v] w fun e w' => ∃ pv, e = .returned (.tuple #[pv, .int .i64 0]) ∧ RZ w' pv z ∧ Below w.heap.size w w') (HX : ∀ (p0 : Value) (w : World), Rn w p0 z.natAbs → Calls Tryz.prog 62 #[p0] w fun e w' => e = .returned (.string s0) ∧ Below w.heap.size w w') (h0 : pd 0 = s0) (h9 : pd m = s9) (hn1 : IntKind.i64.wrap (n + 1) = n1) (hn2 : wrap64 (n + 1) = n1) (hl : ∀ i, i < m → ∃ l : Nat, (pd i).size = l ∧ l ≤ 100000 ∧ ((l : Int) < n1) ∧ decide ((l : Int) < n1) = true) (hst : ∀ i, i < m → (ByteArray.mk #[48]) ++ pd i = pd (i + 1)) (hs9 : s9.size = l9) (hs9b : l9 ≤ 100000) (hl9 : ¬ (l9 : Int) < n1) (hl9b : decide ((l9 : Int) < n1) = false) (gp : decide (0 < n) = false) (hz : zs z = false) (p0 : Value) (w : World) (r0 : RF w p0 q) :
  Calls Tryz.prog 17 #[p0, .int .i64 n, .int .i64 v] w fun e w' => e = .returned (.tuple #[.string s9, .int .i64 0]) ∧ Below w.heap.size w w' := by
 obtain ⟨xa0, xc0, xb0, xd0, rfl⟩ := rf_form r0
 have xf0 := Lib.hid (rf_rn1 r0)
 have xk0 := Lib.hid (rf_rn2 r0)
 clear r0
 replace HW := Lib.hid HW
 replace HX := Lib.hid HX
 have hL0 : GL w w [] := GL.start w
 have hS : SS w [] := SS.nil w
 replace h0 := Lib.hid h0
 replace h9 := Lib.hid h9
 replace hl := Lib.hid hl
 replace hst := Lib.hid hst
 replace hz := Lib.hid hz
 obtain ⟨x1, hweq, hL0, hS⟩ := GL.named2 (hL0.new rfl [.bool (zs q.num), .slice xa0 (tln q.num.natAbs) xc0, .slice xb0 (tln (fd q)) xd0] 46) (hS.new (.cells #[.bool (zs q.num), .slice xa0 (tln q.num.natAbs) xc0, .slice xb0 (tln (fd q)) xd0] 46))
 go_enter Tryz.func17, Tryz.ntmps17
 have hN0 := cells_of _ 0 [] rfl (hL0.get _ _ mZ)
 simp only [zF, Nat.reduceAdd] at hN0
 go_wp2_with fail
 clear hN0
 with_reducible refine Calls.mono (HW.out (.agg #[.bool (zs q.num), .slice xa0 (tln q.num.natAbs) xc0, .slice xb0 (tln (fd q)) xd0]) _ (rf_of (Sl.below xf0.out hL0.bl) (Sl.below xk0.out hL0.bl))) ?_
 rintro e x2 ⟨v0, rfl, q0, hb⟩
 replace hL0 := hL0.call hb
 replace hS := hS.call hb
 clear hb hweq
 obtain ⟨g1, d1, rfl⟩ := rz_form q0
 replace hS := hS.cons (rz_rn q0)
 clear q0
 obtain ⟨x3, hweq, hL0, hS⟩ := GL.named2 (hL0.new rfl [.bool (zs z), .slice g1 (tln z.natAbs) d1] 44) (hS.new (.cells #[.bool (zs z), .slice g1 (tln z.natAbs) d1] 44))
 have hN0 := cells_of _ 0 [] rfl (hL0.get _ _ mZ)
 simp only [zF, Nat.reduceAdd] at hN0
 go_wp2_with fail
 clear hN0
 with_reducible refine Calls.mono (HX.out (.slice g1 (tln z.natAbs) d1) _ (hS.get mZ)) ?_
 rintro e x4 ⟨rfl, hb⟩
 replace hL0 := hL0.call hb
 replace hS := hS.call hb
 clear hb hweq
 go_wp2_with fail
 go_loopg [10] m (fun gk u wr => ∃ i : Nat, i + gk = m ∧ u = .string (pd i) ∧ x4 = wr)
 case atStart => exact ⟨0, Nat.zero_add m, by rw [h0.out], rfl⟩
 case round =>
  obtain ⟨i, hik, rfl, rfl⟩ := hrel
  by_cases hin : i < m
  ·obtain ⟨l, e1, e0, e2, e3⟩ := hl.out i hin
   have hcat := hst.out i hin
   obtain ⟨s1, hs1⟩ : ∃ x, x = pd i := ⟨_, rfl⟩
   obtain ⟨s2, hs2⟩ : ∃ x, x = pd (i + 1) := ⟨_, rfl⟩
   rw [← hs1] at e1 hcat ⊢
   rw [← hs2] at hcat
   replace hs1 := Lib.hid hs1
   replace hs2 := Lib.hid hs2
   go_wp2_with fail
   go_roundg (gk - 1)
   case measure => omega
   case rel => exact ⟨i + 1, by omega, by rw [hs2.out], rfl⟩
  ·obtain rfl : i = m := by omega
   rw [h9.out]
   clear hik hin
   have hz2 := hz.out
   have hN0 := cells_of _ 0 [] rfl (hL0.get _ _ mZ)
   simp only [zF, Nat.reduceAdd] at hN0
   go_wp2_with fail
   exact bodyPost_ret (v := .tuple #[.string s9, .int .i64 0]) (by simp [results, Tryz.results17, go_sem, hN0]) rfl ⟨rfl, hL0.bl⟩
theorem rtx_zn (q : Rat) (n v z n1 dd1 : Int) (m l9 d2 : Nat) (pd : Nat → ByteArray) (s0 s9 he : ByteArray) (HW : ∀ (p0 : Value) (w : World), RF w p0 q → Calls Tryz.prog 54 #[p0, .int .i64 n, .int .i64 v] w fun e w' => ∃ pv, e = .returned (.tuple #[pv, .int .i64 0]) ∧ RZ w' pv z ∧ Below w.heap.size w w') (HX : ∀ (p0 : Value) (w : World), Rn w p0 z.natAbs → Calls Tryz.prog 62 #[p0] w fun e w' => e = .returned (.string s0) ∧ Below w.heap.size w w') (h0 : pd 0 = s0) (h9 : pd m = s9) (hn1 : IntKind.i64.wrap (n + 1) = n1) (hn2 : wrap64 (n + 1) = n1) (hl : ∀ i, i < m → ∃ l : Nat, (pd i).size = l ∧ l ≤ 100000 ∧ ((l : Int) < n1) ∧ decide ((l : Int) < n1) = true) (hst : ∀ i, i < m → (ByteArray.mk #[48]) ++ pd i = pd (i + 1)) (hs9 : s9.size = l9) (hs9b : l9 ≤ 100000) (hl9 : ¬ (l9 : Int) < n1) (hl9b : decide ((l9 : Int) < n1) = false) (gp : decide (0 < n) = false) (hz : zs z = true) (hhe : (ByteArray.mk #[45]) ++ s9 = he) (p0 : Value) (w : World) (r0 : RF w p0 q) :
  Calls Tryz.prog 17 #[p0, .int .i64 n, .int .i64 v] w fun e w' => e = .returned (.tuple #[.string he, .int .i64 0]) ∧ Below w.heap.size w w' := by
 obtain ⟨xa0, xc0, xb0, xd0, rfl⟩ := rf_form r0
 have xf0 := Lib.hid (rf_rn1 r0)
 have xk0 := Lib.hid (rf_rn2 r0)
 clear r0
 replace HW := Lib.hid HW
 replace HX := Lib.hid HX
 have hL0 : GL w w [] := GL.start w
 have hS : SS w [] := SS.nil w
 replace h0 := Lib.hid h0
 replace h9 := Lib.hid h9
 replace hl := Lib.hid hl
 replace hst := Lib.hid hst
 replace hz := Lib.hid hz
 obtain ⟨x1, hweq, hL0, hS⟩ := GL.named2 (hL0.new rfl [.bool (zs q.num), .slice xa0 (tln q.num.natAbs) xc0, .slice xb0 (tln (fd q)) xd0] 46) (hS.new (.cells #[.bool (zs q.num), .slice xa0 (tln q.num.natAbs) xc0, .slice xb0 (tln (fd q)) xd0] 46))
 go_enter Tryz.func17, Tryz.ntmps17
 have hN0 := cells_of _ 0 [] rfl (hL0.get _ _ mZ)
 simp only [zF, Nat.reduceAdd] at hN0
 go_wp2_with fail
 clear hN0
 with_reducible refine Calls.mono (HW.out (.agg #[.bool (zs q.num), .slice xa0 (tln q.num.natAbs) xc0, .slice xb0 (tln (fd q)) xd0]) _ (rf_of (Sl.below xf0.out hL0.bl) (Sl.below xk0.out hL0.bl))) ?_
 rintro e x2 ⟨v0, rfl, q0, hb⟩
 replace hL0 := hL0.call hb
 replace hS := hS.call hb
 clear hb hweq
 obtain ⟨g1, d1, rfl⟩ := rz_form q0
 replace hS := hS.cons (rz_rn q0)
 clear q0
 obtain ⟨x3, hweq, hL0, hS⟩ := GL.named2 (hL0.new rfl [.bool (zs z), .slice g1 (tln z.natAbs) d1] 44) (hS.new (.cells #[.bool (zs z), .slice g1 (tln z.natAbs) d1] 44))
 have hN0 := cells_of _ 0 [] rfl (hL0.get _ _ mZ)
 simp only [zF, Nat.reduceAdd] at hN0
 go_wp2_with fail
 clear hN0
 with_reducible refine Calls.mono (HX.out (.slice g1 (tln z.natAbs) d1) _ (hS.get mZ)) ?_
 rintro e x4 ⟨rfl, hb⟩
 replace hL0 := hL0.call hb
 replace hS := hS.call hb
 clear hb hweq
 go_wp2_with fail
 go_loopg [10] m (fun gk u wr => ∃ i : Nat, i + gk = m ∧ u = .string (pd i) ∧ x4 = wr)
 case atStart => exact ⟨0, Nat.zero_add m, by rw [h0.out], rfl⟩
 case round =>
  obtain ⟨i, hik, rfl, rfl⟩ := hrel
  by_cases hin : i < m
  ·obtain ⟨l, e1, e0, e2, e3⟩ := hl.out i hin
   have hcat := hst.out i hin
   obtain ⟨s1, hs1⟩ : ∃ x, x = pd i := ⟨_, rfl⟩
   obtain ⟨s2, hs2⟩ : ∃ x, x = pd (i + 1) := ⟨_, rfl⟩
   rw [← hs1] at e1 hcat ⊢
   rw [← hs2] at hcat
   replace hs1 := Lib.hid hs1
   replace hs2 := Lib.hid hs2
   go_wp2_with fail
   go_roundg (gk - 1)
   case measure => omega
   case rel => exact ⟨i + 1, by omega, by rw [hs2.out], rfl⟩
  ·obtain rfl : i = m := by omega
   rw [h9.out]
   clear hik hin
   have hz2 := hz.out
   have hN0 := cells_of _ 0 [] rfl (hL0.get _ _ mZ)
   simp only [zF, Nat.reduceAdd] at hN0
   go_wp2_with fail
   exact bodyPost_ret (v := .tuple #[.string he, .int .i64 0]) (by simp [results, Tryz.results17, go_sem, hN0]) rfl ⟨rfl, hL0.bl⟩
theorem rtx_pp (q : Rat) (n v z n1 dd1 : Int) (m l9 d2 ja jb jc jd : Nat) (pd : Nat → ByteArray) (s0 s9 ha hb hc hd : ByteArray) (HW : ∀ (p0 : Value) (w : World), RF w p0 q → Calls Tryz.prog 54 #[p0, .int .i64 n, .int .i64 v] w fun e w' => ∃ pv, e = .returned (.tuple #[pv, .int .i64 0]) ∧ RZ w' pv z ∧ Below w.heap.size w w') (HX : ∀ (p0 : Value) (w : World), Rn w p0 z.natAbs → Calls Tryz.prog 62 #[p0] w fun e w' => e = .returned (.string s0) ∧ Below w.heap.size w w') (h0 : pd 0 = s0) (h9 : pd m = s9) (hn1 : IntKind.i64.wrap (n + 1) = n1) (hn2 : wrap64 (n + 1) = n1) (hl : ∀ i, i < m → ∃ l : Nat, (pd i).size = l ∧ l ≤ 100000 ∧ ((l : Int) < n1) ∧ decide ((l : Int) < n1) = true) (hst : ∀ i, i < m → (ByteArray.mk #[48]) ++ pd i = pd (i + 1)) (hs9 : s9.size = l9) (hs9b : l9 ≤ 100000) (hl9 : ¬ (l9 : Int) < n1) (hl9b : decide ((l9 : Int) < n1) = false) (gp : decide (0 < n) = true) (hz : zs z = false) (hd1 : IntKind.i64.wrap ((l9 : Int) - n) = dd1) (hd1b : wrap64 ((l9 : Int) - n) = dd1) (hd2 : dd1 = (d2 : Int)) (hd3 : d2 ≤ l9) (hha : s9.extract 0 d2 = ha) (hhb : ha ++ (ByteArray.mk #[46]) = hb) (hhc : s9.extract d2 l9 = hc) (hhd : hb ++ hc = hd) (za : ha.size = ja) (zb : hb.size = jb) (zc : hc.size = jc) (zd : hd.size = jd) (ya : ja ≤ 100000) (yb : jb ≤ 100000) (yc : jc ≤ 100000) (yd : jd ≤ 100000) (p0 : Value) (w : World) (r0 : RF w p0 q) :
  Calls Tryz.prog 17 #[p0, .int .i64 n, .int .i64 v] w fun e w' => e = .returned (.tuple #[.string hd, .int .i64 0]) ∧ Below w.heap.size w w' := by
 obtain ⟨xa0, xc0, xb0, xd0, rfl⟩ := rf_form r0
 have xf0 := Lib.hid (rf_rn1 r0)
 have xk0 := Lib.hid (rf_rn2 r0)
 clear r0
 replace HW := Lib.hid HW
 replace HX := Lib.hid HX
 have hL0 : GL w w [] := GL.start w
 have hS : SS w [] := SS.nil w
 replace h0 := Lib.hid h0
 replace h9 := Lib.hid h9
 replace hl := Lib.hid hl
 replace hst := Lib.hid hst
 replace hz := Lib.hid hz
 subst hd2
 have kd1 : (0 : Int) ≤ (d2 : Int) := Int.natCast_nonneg _
 have kd2 : (d2 : Int) ≤ (l9 : Int) := by omega
 have kd3 : min d2 l9 = d2 := by omega
 obtain ⟨x1, hweq, hL0, hS⟩ := GL.named2 (hL0.new rfl [.bool (zs q.num), .slice xa0 (tln q.num.natAbs) xc0, .slice xb0 (tln (fd q)) xd0] 46) (hS.new (.cells #[.bool (zs q.num), .slice xa0 (tln q.num.natAbs) xc0, .slice xb0 (tln (fd q)) xd0] 46))
 go_enter Tryz.func17, Tryz.ntmps17
 have hN0 := cells_of _ 0 [] rfl (hL0.get _ _ mZ)
 simp only [zF, Nat.reduceAdd] at hN0
 go_wp2_with fail
 clear hN0
 with_reducible refine Calls.mono (HW.out (.agg #[.bool (zs q.num), .slice xa0 (tln q.num.natAbs) xc0, .slice xb0 (tln (fd q)) xd0]) _ (rf_of (Sl.below xf0.out hL0.bl) (Sl.below xk0.out hL0.bl))) ?_
 rintro e x2 ⟨v0, rfl, q0, hb⟩
 replace hL0 := hL0.call hb
 replace hS := hS.call hb
 clear hb hweq
 obtain ⟨g1, d1, rfl⟩ := rz_form q0
 replace hS := hS.cons (rz_rn q0)
 clear q0
 obtain ⟨x3, hweq, hL0, hS⟩ := GL.named2 (hL0.new rfl [.bool (zs z), .slice g1 (tln z.natAbs) d1] 44) (hS.new (.cells #[.bool (zs z), .slice g1 (tln z.natAbs) d1] 44))
 have hN0 := cells_of _ 0 [] rfl (hL0.get _ _ mZ)
 simp only [zF, Nat.reduceAdd] at hN0
 go_wp2_with fail
 clear hN0
 with_reducible refine Calls.mono (HX.out (.slice g1 (tln z.natAbs) d1) _ (hS.get mZ)) ?_
 rintro e x4 ⟨rfl, hb⟩
 replace hL0 := hL0.call hb
 replace hS := hS.call hb
 clear hb hweq
 go_wp2_with fail
 go_loopg [10] m (fun gk u wr => ∃ i : Nat, i + gk = m ∧ u = .string (pd i) ∧ x4 = wr)
 case atStart => exact ⟨0, Nat.zero_add m, by rw [h0.out], rfl⟩
 case round =>
  obtain ⟨i, hik, rfl, rfl⟩ := hrel
  by_cases hin : i < m
  ·obtain ⟨l, e1, e0, e2, e3⟩ := hl.out i hin
   have hcat := hst.out i hin
   obtain ⟨s1, hs1⟩ : ∃ x, x = pd i := ⟨_, rfl⟩
   obtain ⟨s2, hs2⟩ : ∃ x, x = pd (i + 1) := ⟨_, rfl⟩
   rw [← hs1] at e1 hcat ⊢
   rw [← hs2] at hcat
   replace hs1 := Lib.hid hs1
   replace hs2 := Lib.hid hs2
   go_wp2_with fail
   go_roundg (gk - 1)
   case measure => omega
   case rel => exact ⟨i + 1, by omega, by rw [hs2.out], rfl⟩
  ·obtain rfl : i = m := by omega
   rw [h9.out]
   clear hik hin
   go_upto_region 8 with fail
   obtain ⟨α, iα, F, hF1, hF2⟩ := cls x4
   refine region_qs 15 (C := fun w' => ∃ x, w' = F x) (by kernel_rfl) (by kernel_rfl) (cls_drew hF2) ?_
   simp only [zT]
   repeat (go_big_quiet_step (first | fail))
   refine wpQuiet_nil ?_
   rintro wq ⟨xq, rfl⟩
   replace hL0 := hL0.call (hF1 xq)
   replace hS := hS.call (hF1 xq)
   clear  hF2
   generalize F xq = x5 at hL0 hS ⊢
   clear hF1 xq iα F α
   have hz2 := hz.out
   have hN0 := cells_of _ 0 [] rfl (hL0.get _ _ mZ)
   simp only [zF, Nat.reduceAdd] at hN0
   go_wp2_with fail
   exact bodyPost_ret (v := .tuple #[.string hd, .int .i64 0]) (by simp [results, Tryz.results17, go_sem, hN0]) rfl ⟨rfl, hL0.bl⟩
theorem rtx_pn (q : Rat) (n v z n1 dd1 : Int) (m l9 d2 ja jb jc jd : Nat) (pd : Nat → ByteArray) (s0 s9 ha hb hc hd he : ByteArray) (HW : ∀ (p0 : Value) (w : World), RF w p0 q → Calls Tryz.prog 54 #[p0, .int .i64 n, .int .i64 v] w fun e w' => ∃ pv, e = .returned (.tuple #[pv, .int .i64 0]) ∧ RZ w' pv z ∧ Below w.heap.size w w') (HX : ∀ (p0 : Value) (w : World), Rn w p0 z.natAbs → Calls Tryz.prog 62 #[p0] w fun e w' => e = .returned (.string s0) ∧ Below w.heap.size w w') (h0 : pd 0 = s0) (h9 : pd m = s9) (hn1 : IntKind.i64.wrap (n + 1) = n1) (hn2 : wrap64 (n + 1) = n1) (hl : ∀ i, i < m → ∃ l : Nat, (pd i).size = l ∧ l ≤ 100000 ∧ ((l : Int) < n1) ∧ decide ((l : Int) < n1) = true) (hst : ∀ i, i < m → (ByteArray.mk #[48]) ++ pd i = pd (i + 1)) (hs9 : s9.size = l9) (hs9b : l9 ≤ 100000) (hl9 : ¬ (l9 : Int) < n1) (hl9b : decide ((l9 : Int) < n1) = false) (gp : decide (0 < n) = true) (hz : zs z = true) (hd1 : IntKind.i64.wrap ((l9 : Int) - n) = dd1) (hd1b : wrap64 ((l9 : Int) - n) = dd1) (hd2 : dd1 = (d2 : Int)) (hd3 : d2 ≤ l9) (hha : s9.extract 0 d2 = ha) (hhb : ha ++ (ByteArray.mk #[46]) = hb) (hhc : s9.extract d2 l9 = hc) (hhd : hb ++ hc = hd) (za : ha.size = ja) (zb : hb.size = jb) (zc : hc.size = jc) (zd : hd.size = jd) (ya : ja ≤ 100000) (yb : jb ≤ 100000) (yc : jc ≤ 100000) (yd : jd ≤ 100000) (hhe : (ByteArray.mk #[45]) ++ hd = he) (p0 : Value) (w : World) (r0 : RF w p0 q) :
  Calls Tryz.prog 17 #[p0, .int .i64 n, .int .i64 v] w fun e w' => e = .returned (.tuple #[.string he, .int .i64 0]) ∧ Below w.heap.size w w' := by
 obtain ⟨xa0, xc0, xb0, xd0, rfl⟩ := rf_form r0
 have xf0 := Lib.hid (rf_rn1 r0)
 have xk0 := Lib.hid (rf_rn2 r0)
 clear r0
 replace HW := Lib.hid HW
 replace HX := Lib.hid HX
 have hL0 : GL w w [] := GL.start w
 have hS : SS w [] := SS.nil w
 replace h0 := Lib.hid h0
 replace h9 := Lib.hid h9
 replace hl := Lib.hid hl
 replace hst := Lib.hid hst
 replace hz := Lib.hid hz
 subst hd2
 have kd1 : (0 : Int) ≤ (d2 : Int) := Int.natCast_nonneg _
 have kd2 : (d2 : Int) ≤ (l9 : Int) := by omega
 have kd3 : min d2 l9 = d2 := by omega
 obtain ⟨x1, hweq, hL0, hS⟩ := GL.named2 (hL0.new rfl [.bool (zs q.num), .slice xa0 (tln q.num.natAbs) xc0, .slice xb0 (tln (fd q)) xd0] 46) (hS.new (.cells #[.bool (zs q.num), .slice xa0 (tln q.num.natAbs) xc0, .slice xb0 (tln (fd q)) xd0] 46))
 go_enter Tryz.func17, Tryz.ntmps17
 have hN0 := cells_of _ 0 [] rfl (hL0.get _ _ mZ)
 simp only [zF, Nat.reduceAdd] at hN0
 go_wp2_with fail
 clear hN0
 with_reducible refine Calls.mono (HW.out (.agg #[.bool (zs q.num), .slice xa0 (tln q.num.natAbs) xc0, .slice xb0 (tln (fd q)) xd0]) _ (rf_of (Sl.below xf0.out hL0.bl) (Sl.below xk0.out hL0.bl))) ?_
 rintro e x2 ⟨v0, rfl, q0, hb⟩
 replace hL0 := hL0.call hb
 replace hS := hS.call hb
 clear hb hweq
 obtain ⟨g1, d1, rfl⟩ := rz_form q0
 replace hS := hS.cons (rz_rn q0)
 clear q0
 obtain ⟨x3, hweq, hL0, hS⟩ := GL.named2 (hL0.new rfl [.bool (zs z), .slice g1 (tln z.natAbs) d1] 44) (hS.new (.cells #[.bool (zs z), .slice g1 (tln z.natAbs) d1] 44))
 have hN0 := cells_of _ 0 [] rfl (hL0.get _ _ mZ)
 simp only [zF, Nat.reduceAdd] at hN0
 go_wp2_with fail
 clear hN0
 with_reducible refine Calls.mono (HX.out (.slice g1 (tln z.natAbs) d1) _ (hS.get mZ)) ?_
 rintro e x4 ⟨rfl, hb⟩
 replace hL0 := hL0.call hb
 replace hS := hS.call hb
 clear hb hweq
 go_wp2_with fail
 go_loopg [10] m (fun gk u wr => ∃ i : Nat, i + gk = m ∧ u = .string (pd i) ∧ x4 = wr)
 case atStart => exact ⟨0, Nat.zero_add m, by rw [h0.out], rfl⟩
 case round =>
  obtain ⟨i, hik, rfl, rfl⟩ := hrel
  by_cases hin : i < m
  ·obtain ⟨l, e1, e0, e2, e3⟩ := hl.out i hin
   have hcat := hst.out i hin
   obtain ⟨s1, hs1⟩ : ∃ x, x = pd i := ⟨_, rfl⟩
   obtain ⟨s2, hs2⟩ : ∃ x, x = pd (i + 1) := ⟨_, rfl⟩
   rw [← hs1] at e1 hcat ⊢
   rw [← hs2] at hcat
   replace hs1 := Lib.hid hs1
   replace hs2 := Lib.hid hs2
   go_wp2_with fail
   go_roundg (gk - 1)
   case measure => omega
   case rel => exact ⟨i + 1, by omega, by rw [hs2.out], rfl⟩
  ·obtain rfl : i = m := by omega
   rw [h9.out]
   clear hik hin
   go_upto_region 8 with fail
   obtain ⟨α, iα, F, hF1, hF2⟩ := cls x4
   refine region_qs 15 (C := fun w' => ∃ x, w' = F x) (by kernel_rfl) (by kernel_rfl) (cls_drew hF2) ?_
   simp only [zT]
   repeat (go_big_quiet_step (first | fail))
   refine wpQuiet_nil ?_
   rintro wq ⟨xq, rfl⟩
   replace hL0 := hL0.call (hF1 xq)
   replace hS := hS.call (hF1 xq)
   clear  hF2
   generalize F xq = x5 at hL0 hS ⊢
   clear hF1 xq iα F α
   have hz2 := hz.out
   have hN0 := cells_of _ 0 [] rfl (hL0.get _ _ mZ)
   simp only [zF, Nat.reduceAdd] at hN0
   go_wp2_with fail
   exact bodyPost_ret (v := .tuple #[.string he, .int .i64 0]) (by simp [results, Tryz.results17, go_sem, hN0]) rfl ⟨rfl, hL0.bl⟩
end Go.Proofs.YtahfcciihkkegaaGreatDoor
namespace Go.Proofs.YtahfcciihkkegaaGreatDoor
open Go.RowKit
attribute [local irreducible] lo hs sm s64 c64 d64 b64 mh ml pd pc qd qc val hiB str cmpI srD lz nb isq decB zl zh zs fe
theorem dwhole_w (z c : Int) (q : Rat) (HO : RT 52 #[.int .u64 1] (natV 1)) (HF : RT 46 #[intV z, natV 1] (.tuple #[fracV q, .int .i64 c])) (w : World) :
  Calls Tryz.prog 98 #[intV z] w fun xe w' => xe = .returned (fracV q) ∧ Below w.heap.size w w' := by
 have hL0 : GL w w [] := GL.start w
 replace HO := Lib.hid HO
 replace HF := Lib.hid HF
 obtain ⟨x1, hweq, hL0⟩ := GL.named ((hL0.new rfl [.int .u64 ((zl z : Nat) : Int), .string (zh z), .bool (zs z)] 32).new (K := w.heap.size + 1) (szA _ _) [.int .u64 0, .string ⟨#[]⟩, .bool false, .int .u64 0, .string ⟨#[]⟩] 34)
 go_enter Tryz.func98, Tryz.ntmps98
 go_upto_region 1 with fail
 clear hweq
 refine region_gh (by kernel_rfl) (by kernel_rfl) ?_
 refine lex_seg (gl := []) 6 (by kernel_rfl) ?_
 intro α iα F hF1 hF2
 have hq := GL.seg hF1 hL0
 simp only [zC, Nat.reduceAdd] at hq
 simp only [zT]
 repeat (go_big_quiet_step (first | fail | (go_at_call 52; with_reducible exact seg_call hF2 HO.out _) | (go_at_call 46; with_reducible exact seg_call hF2 HF.out _)))
 refine wpQuiet_nil ?_
 clear hq hF1 hF2 iα F α
 refine lex_new [.int .u64 0, .string ⟨#[]⟩, .bool false, .int .u64 0, .string ⟨#[]⟩] 3 34 34 rfl rfl (of_decide_eq_true (by kernel_rfl)) (by kernel_rfl) rfl new_frac ?_
 simp only [Act.put, zP]
 refine lex_put [.int .u64 ((zl q.num : Nat) : Int), .string (zh q.num), .bool (zs q.num), .int .u64 ((lo (fe q) : Nat) : Int), .string (hs (fe q))] [.int .u64 0, .string ⟨#[]⟩, .bool false, .int .u64 0, .string ⟨#[]⟩] 3 34 (.tmp 9) rfl (by kernel_rfl) (by simp [toG, upd]) rfl (fun w k h => put_frac _ _ _ _ _ _ _ _ _ _ w k h) ?_
 simp only [Act.put]
 refine lex_seg (gl := [(3, [.int .u64 ((zl q.num : Nat) : Int), .string (zh q.num), .bool (zs q.num), .int .u64 ((lo (fe q) : Nat) : Int), .string (hs (fe q))], true), (3, [.int .u64 0, .string ⟨#[]⟩, .bool false, .int .u64 0, .string ⟨#[]⟩], false)]) 1 (by kernel_rfl) ?_
 intro α iα F hF1 hF2
 have hq := GL.seg hF1 hL0
 simp only [zC, Nat.reduceAdd] at hq
 simp only [zT]
 repeat (go_big_quiet_step (first | fail | (go_at_call 52; with_reducible exact seg_call hF2 HO.out _) | (go_at_call 46; with_reducible exact seg_call hF2 HF.out _)))
 refine wpQuiet_nil ?_
 clear hq hF1 hF2 iα F α
 refine lexG_nil ?_
 intro κ x2 hS
 replace hL0 := hL0.ghs hS [(3, [.int .u64 ((zl q.num : Nat) : Int), .string (zh q.num), .bool (zs q.num), .int .u64 ((lo (fe q) : Nat) : Int), .string (hs (fe q))])] (by simp) (by intro p hp; simp only [List.mem_cons, List.not_mem_nil, or_false] at hp; rcases hp with rfl <;> exact ⟨_, by simp only [toG, upd]; rfl⟩)
 simp only [List.map_cons, List.map_nil, List.cons_append, List.nil_append] at hL0
 simp only [over_toG, over_nil, Act.put, zP]
 clear hS
 generalize κ 3 = k2_3 at *
 have hA := hL0.fc
 simp only [zF, Nat.reduceAdd] at hA
 obtain ⟨x3, hput1, hP⟩ := GL.named (hL0.put 1 (w.heap.size + 1) _ rfl [.int .u64 ((zl q.num : Nat) : Int), .string (zh q.num), .bool (zs q.num), .int .u64 ((lo (fe q) : Nat) : Int), .string (hs (fe q))] rfl)
 simp only [setAll] at hput1
 simp only [List.set_cons_zero, List.set_cons_succ] at hP
 have hB1 := hP.fc
 simp only [zF, Nat.reduceAdd] at hB1
 replace hL0 := hP
 go_wp2_with fail
 exact bodyPost_ret (v := fracV q) (by simp [results, Tryz.results98, go_sem, hB1]) rfl ⟨rfl, hL0.bl⟩
theorem dtens_w (n c : Int) (u : Nat) (HO : RT 52 #[.int .u64 10] (natV 10)) (HP : RT 99 #[natV 10, .int .i64 n] (.tuple #[natV u, .int .i64 c])) (w : World) :
  Calls Tryz.prog 47 #[.int .i64 n] w fun xe w' => xe = .returned (natV u) ∧ Below w.heap.size w w' := by
 have hL0 : GL w w [] := GL.start w
 replace HO := Lib.hid HO
 replace HP := Lib.hid HP
 obtain ⟨x1, hweq, hL0⟩ := GL.named (hL0.new rfl [.int .u64 0, .string ⟨#[]⟩] 30)
 go_enter Tryz.func47, Tryz.ntmps47
 go_wp2_with fail
 with_reducible refine Calls.mono (HO.out _) ?_
 rintro e x2 ⟨rfl, hb⟩
 replace hL0 := hL0.call hb
 clear hb hweq
 go_wp2_with fail
 with_reducible refine Calls.mono (HP.out _) ?_
 rintro e x3 ⟨rfl, hb⟩
 replace hL0 := hL0.call hb
 clear hb
 obtain ⟨x4, hweq, hL0⟩ := GL.named (hL0.new rfl [.int .u64 ((lo u : Nat) : Int), .string (hs u)] 30)
 have hA := hL0.fc
 simp only [zF, Nat.reduceAdd] at hA
 obtain ⟨x5, hput1, hP⟩ := GL.named (hL0.put 1 (w.heap.size) _ rfl [.int .u64 ((lo u : Nat) : Int), .string (hs u)] rfl)
 simp only [setAll] at hput1
 simp only [List.set_cons_zero, List.set_cons_succ] at hP
 have hB1 := hP.fc
 simp only [zF, Nat.reduceAdd] at hB1
 replace hL0 := hP
 go_wp2_with fail
 exact bodyPost_ret (v := natV u) (by simp [results, Tryz.results47, go_sem, hB1]) rfl ⟨rfl, hL0.bl⟩
theorem dnear_lt (a h p r : Rat) (z c : Int) (HF : RT 152 #[fracV a] (intV z)) (HH : RT 37 #[.int .i64 1, .int .i64 2] (.tuple #[fracV h, .int .i64 c])) (HW : RT 98 #[intV z] (fracV p)) (HB : RT 30 #[fracV a, fracV p] (fracV r)) (HC : RT 29 #[fracV r, fracV h] (.int .i64 (-1))) (w : World) :
  Calls Tryz.prog 151 #[fracV a] w fun xe w' => xe = .returned (.bool false) ∧ Below w.heap.size w w' := by
 have hL0 : GL w w [] := GL.start w
 replace HF := Lib.hid HF
 replace HH := Lib.hid HH
 replace HW := Lib.hid HW
 replace HB := Lib.hid HB
 replace HC := Lib.hid HC
 obtain ⟨x1, hweq, hL0⟩ := GL.named (hL0.new rfl [.int .u64 ((zl a.num : Nat) : Int), .string (zh a.num), .bool (zs a.num), .int .u64 ((lo (fe a) : Nat) : Int), .string (hs (fe a))] 34)
 go_enter Tryz.func151, Tryz.ntmps151
 have hN0 := cells_of _ 0 [] rfl (hL0.get _ _ mZ)
 simp only [zF, Nat.reduceAdd] at hN0
 go_wp2_with fail
 clear hN0
 with_reducible refine Calls.mono (HF.out _) ?_
 rintro e x2 ⟨rfl, hb⟩
 replace hL0 := hL0.call hb
 clear hb hweq
 obtain ⟨x3, hweq, hL0⟩ := GL.named (hL0.new rfl [.int .u64 ((zl z : Nat) : Int), .string (zh z), .bool (zs z)] 32)
 go_wp2_with fail
 with_reducible refine Calls.mono (HH.out _) ?_
 rintro e x4 ⟨rfl, hb⟩
 replace hL0 := hL0.call hb
 clear hb hweq
 obtain ⟨x5, hweq, hL0⟩ := GL.named (hL0.new rfl [.int .u64 ((zl h.num : Nat) : Int), .string (zh h.num), .bool (zs h.num), .int .u64 ((lo (fe h) : Nat) : Int), .string (hs (fe h))] 34)
 go_upto_region 3 with fail
 clear hweq
 obtain ⟨α, iα, F, hF1, hF2⟩ := cls x5
 have hq0 := cls_box hF1 hL0 _ _ mZ
 simp only [zC, Nat.reduceAdd] at hq0
 have hq1 := cls_box hF1 hL0 _ _ (mK mZ)
 simp only [zC, Nat.reduceAdd] at hq1
 have hq2 := cls_box hF1 hL0 _ _ (mK (mK mZ))
 simp only [zC, Nat.reduceAdd] at hq2
 refine region_qs 6 (C := fun w' => ∃ x, w' = F x) (by kernel_rfl) (by kernel_rfl) (cls_drew hF2) ?_
 simp only [zT]
 repeat (go_big_quiet_step (first | fail | (go_at_call 98; with_reducible exact cls_call hF1 hF2 HW.out _) | (go_at_call 30; with_reducible exact cls_call hF1 hF2 HB.out _) | (go_at_call 29; with_reducible exact cls_call hF1 hF2 HC.out _)))
 refine wpQuiet_nil ?_
 rintro wq ⟨xq, rfl⟩
 replace hL0 := hL0.call (hF1 xq)
 clear  hq0 hq1 hq2 hF2
 generalize F xq = x6 at hL0 ⊢
 clear hF1 xq iα F α
 go_wp2_with fail
 exact bodyPost_ret (v := .bool false) (by simp [results, Tryz.results151, go_sem]) rfl ⟨rfl, hL0.bl⟩
theorem dnear_gt (a h p r : Rat) (z c : Int) (HF : RT 152 #[fracV a] (intV z)) (HH : RT 37 #[.int .i64 1, .int .i64 2] (.tuple #[fracV h, .int .i64 c])) (HW : RT 98 #[intV z] (fracV p)) (HB : RT 30 #[fracV a, fracV p] (fracV r)) (HC : RT 29 #[fracV r, fracV h] (.int .i64 1)) (w : World) :
  Calls Tryz.prog 151 #[fracV a] w fun xe w' => xe = .returned (.bool true) ∧ Below w.heap.size w w' := by
 have hL0 : GL w w [] := GL.start w
 replace HF := Lib.hid HF
 replace HH := Lib.hid HH
 replace HW := Lib.hid HW
 replace HB := Lib.hid HB
 replace HC := Lib.hid HC
 obtain ⟨x1, hweq, hL0⟩ := GL.named (hL0.new rfl [.int .u64 ((zl a.num : Nat) : Int), .string (zh a.num), .bool (zs a.num), .int .u64 ((lo (fe a) : Nat) : Int), .string (hs (fe a))] 34)
 go_enter Tryz.func151, Tryz.ntmps151
 have hN0 := cells_of _ 0 [] rfl (hL0.get _ _ mZ)
 simp only [zF, Nat.reduceAdd] at hN0
 go_wp2_with fail
 clear hN0
 with_reducible refine Calls.mono (HF.out _) ?_
 rintro e x2 ⟨rfl, hb⟩
 replace hL0 := hL0.call hb
 clear hb hweq
 obtain ⟨x3, hweq, hL0⟩ := GL.named (hL0.new rfl [.int .u64 ((zl z : Nat) : Int), .string (zh z), .bool (zs z)] 32)
 go_wp2_with fail
 with_reducible refine Calls.mono (HH.out _) ?_
 rintro e x4 ⟨rfl, hb⟩
 replace hL0 := hL0.call hb
 clear hb hweq
 obtain ⟨x5, hweq, hL0⟩ := GL.named (hL0.new rfl [.int .u64 ((zl h.num : Nat) : Int), .string (zh h.num), .bool (zs h.num), .int .u64 ((lo (fe h) : Nat) : Int), .string (hs (fe h))] 34)
 go_upto_region 3 with fail
 clear hweq
 obtain ⟨α, iα, F, hF1, hF2⟩ := cls x5
 have hq0 := cls_box hF1 hL0 _ _ mZ
 simp only [zC, Nat.reduceAdd] at hq0
 have hq1 := cls_box hF1 hL0 _ _ (mK mZ)
 simp only [zC, Nat.reduceAdd] at hq1
 have hq2 := cls_box hF1 hL0 _ _ (mK (mK mZ))
 simp only [zC, Nat.reduceAdd] at hq2
 refine region_qs 6 (C := fun w' => ∃ x, w' = F x) (by kernel_rfl) (by kernel_rfl) (cls_drew hF2) ?_
 simp only [zT]
 repeat (go_big_quiet_step (first | fail | (go_at_call 98; with_reducible exact cls_call hF1 hF2 HW.out _) | (go_at_call 30; with_reducible exact cls_call hF1 hF2 HB.out _) | (go_at_call 29; with_reducible exact cls_call hF1 hF2 HC.out _)))
 refine wpQuiet_nil ?_
 rintro wq ⟨xq, rfl⟩
 replace hL0 := hL0.call (hF1 xq)
 clear  hq0 hq1 hq2 hF2
 generalize F xq = x6 at hL0 ⊢
 clear hF1 xq iα F α
 go_wp2_with fail
 exact bodyPost_ret (v := .bool true) (by simp [results, Tryz.results151, go_sem]) rfl ⟨rfl, hL0.bl⟩
theorem dnear_eq (a h p r : Rat) (z c : Int) (b : Bool) (HF : RT 152 #[fracV a] (intV z)) (HH : RT 37 #[.int .i64 1, .int .i64 2] (.tuple #[fracV h, .int .i64 c])) (HW : RT 98 #[intV z] (fracV p)) (HB : RT 30 #[fracV a, fracV p] (fracV r)) (HC : RT 29 #[fracV r, fracV h] (.int .i64 0)) (HO : RT 175 #[intV z] (.bool b)) (w : World) :
  Calls Tryz.prog 151 #[fracV a] w fun xe w' => xe = .returned (.bool b) ∧ Below w.heap.size w w' := by
 have hL0 : GL w w [] := GL.start w
 replace HF := Lib.hid HF
 replace HH := Lib.hid HH
 replace HW := Lib.hid HW
 replace HB := Lib.hid HB
 replace HC := Lib.hid HC
 replace HO := Lib.hid HO
 obtain ⟨x1, hweq, hL0⟩ := GL.named (hL0.new rfl [.int .u64 ((zl a.num : Nat) : Int), .string (zh a.num), .bool (zs a.num), .int .u64 ((lo (fe a) : Nat) : Int), .string (hs (fe a))] 34)
 go_enter Tryz.func151, Tryz.ntmps151
 have hN0 := cells_of _ 0 [] rfl (hL0.get _ _ mZ)
 simp only [zF, Nat.reduceAdd] at hN0
 go_wp2_with fail
 clear hN0
 with_reducible refine Calls.mono (HF.out _) ?_
 rintro e x2 ⟨rfl, hb⟩
 replace hL0 := hL0.call hb
 clear hb hweq
 obtain ⟨x3, hweq, hL0⟩ := GL.named (hL0.new rfl [.int .u64 ((zl z : Nat) : Int), .string (zh z), .bool (zs z)] 32)
 go_wp2_with fail
 with_reducible refine Calls.mono (HH.out _) ?_
 rintro e x4 ⟨rfl, hb⟩
 replace hL0 := hL0.call hb
 clear hb hweq
 obtain ⟨x5, hweq, hL0⟩ := GL.named (hL0.new rfl [.int .u64 ((zl h.num : Nat) : Int), .string (zh h.num), .bool (zs h.num), .int .u64 ((lo (fe h) : Nat) : Int), .string (hs (fe h))] 34)
 go_upto_region 3 with fail
 clear hweq
 obtain ⟨α, iα, F, hF1, hF2⟩ := cls x5
 have hq0 := cls_box hF1 hL0 _ _ mZ
 simp only [zC, Nat.reduceAdd] at hq0
 have hq1 := cls_box hF1 hL0 _ _ (mK mZ)
 simp only [zC, Nat.reduceAdd] at hq1
 have hq2 := cls_box hF1 hL0 _ _ (mK (mK mZ))
 simp only [zC, Nat.reduceAdd] at hq2
 refine region_qs 6 (C := fun w' => ∃ x, w' = F x) (by kernel_rfl) (by kernel_rfl) (cls_drew hF2) ?_
 simp only [zT]
 repeat (go_big_quiet_step (first | fail | (go_at_call 98; with_reducible exact cls_call hF1 hF2 HW.out _) | (go_at_call 30; with_reducible exact cls_call hF1 hF2 HB.out _) | (go_at_call 29; with_reducible exact cls_call hF1 hF2 HC.out _)))
 refine wpQuiet_nil ?_
 rintro wq ⟨xq, rfl⟩
 replace hL0 := hL0.call (hF1 xq)
 clear  hq0 hq1 hq2 hF2
 generalize F xq = x6 at hL0 ⊢
 clear hF1 xq iα F α
 have hN0 := cells_of _ 0 [] rfl (hL0.get _ _ (mK mZ))
 simp only [zF, Nat.reduceAdd] at hN0
 go_wp2_with fail
 clear hN0
 with_reducible refine Calls.mono (HO.out _) ?_
 rintro e x7 ⟨rfl, hb⟩
 replace hL0 := hL0.call hb
 clear hb
 go_wp2_with fail
 exact bodyPost_ret (v := .bool b) (by simp [results, Tryz.results151, go_sem]) rfl ⟨rfl, hL0.bl⟩
theorem dtoi_down (a : Rat) (z : Int) (HF : RT 152 #[fracV a] (intV z)) (w : World) :
  Calls Tryz.prog 97 #[fracV a, .int .i64 1] w fun xe w' => xe = .returned (intV z) ∧ Below w.heap.size w w' := by
 have hL0 : GL w w [] := GL.start w
 replace HF := Lib.hid HF
 obtain ⟨x1, hweq, hL0⟩ := GL.named ((hL0.new rfl [.int .u64 ((zl a.num : Nat) : Int), .string (zh a.num), .bool (zs a.num), .int .u64 ((lo (fe a) : Nat) : Int), .string (hs (fe a))] 34).new (K := w.heap.size + 1) (szA _ _) [.int .u64 0, .string ⟨#[]⟩, .bool false] 32)
 go_enter Tryz.func97, Tryz.ntmps97
 have hN0 := cells_of _ 0 [] rfl (hL0.get _ _ (mK mZ))
 simp only [zF, Nat.reduceAdd] at hN0
 go_wp2_with fail
 clear hN0
 with_reducible refine Calls.mono (HF.out _) ?_
 rintro e x2 ⟨rfl, hb⟩
 replace hL0 := hL0.call hb
 clear hb hweq
 have hA := hL0.fc
 simp only [zF, Nat.reduceAdd] at hA
 obtain ⟨x3, hput1, hP⟩ := GL.named (hL0.put 0 (w.heap.size + 1) _ rfl [.int .u64 ((zl z : Nat) : Int), .string (zh z), .bool (zs z)] rfl)
 simp only [setAll] at hput1
 simp only [List.set_cons_zero, List.set_cons_succ] at hP
 have hB1 := hP.fc
 simp only [zF, Nat.reduceAdd] at hB1
 replace hL0 := hP
 go_wp2_with fail
 exact bodyPost_ret (v := intV z) (by simp [results, Tryz.results97, go_sem, hB1]) rfl ⟨rfl, hL0.bl⟩
theorem dtoi_up (a : Rat) (z : Int) (HC : RT 153 #[fracV a] (intV z)) (w : World) :
  Calls Tryz.prog 97 #[fracV a, .int .i64 2] w fun xe w' => xe = .returned (intV z) ∧ Below w.heap.size w w' := by
 have hL0 : GL w w [] := GL.start w
 replace HC := Lib.hid HC
 obtain ⟨x1, hweq, hL0⟩ := GL.named ((hL0.new rfl [.int .u64 ((zl a.num : Nat) : Int), .string (zh a.num), .bool (zs a.num), .int .u64 ((lo (fe a) : Nat) : Int), .string (hs (fe a))] 34).new (K := w.heap.size + 1) (szA _ _) [.int .u64 0, .string ⟨#[]⟩, .bool false] 32)
 go_enter Tryz.func97, Tryz.ntmps97
 have hN0 := cells_of _ 0 [] rfl (hL0.get _ _ (mK mZ))
 simp only [zF, Nat.reduceAdd] at hN0
 go_wp2_with fail
 clear hN0
 with_reducible refine Calls.mono (HC.out _) ?_
 rintro e x2 ⟨rfl, hb⟩
 replace hL0 := hL0.call hb
 clear hb hweq
 have hA := hL0.fc
 simp only [zF, Nat.reduceAdd] at hA
 obtain ⟨x3, hput1, hP⟩ := GL.named (hL0.put 0 (w.heap.size + 1) _ rfl [.int .u64 ((zl z : Nat) : Int), .string (zh z), .bool (zs z)] rfl)
 simp only [setAll] at hput1
 simp only [List.set_cons_zero, List.set_cons_succ] at hP
 have hB1 := hP.fc
 simp only [zF, Nat.reduceAdd] at hB1
 replace hL0 := hP
 go_wp2_with fail
 exact bodyPost_ret (v := intV z) (by simp [results, Tryz.results97, go_sem, hB1]) rfl ⟨rfl, hL0.bl⟩
theorem dtoi_low (a : Rat) (z : Int) (HN : RT 151 #[fracV a] (.bool false)) (HF : RT 152 #[fracV a] (intV z)) (w : World) :
  Calls Tryz.prog 97 #[fracV a, .int .i64 3] w fun xe w' => xe = .returned (intV z) ∧ Below w.heap.size w w' := by
 have hL0 : GL w w [] := GL.start w
 replace HN := Lib.hid HN
 replace HF := Lib.hid HF
 obtain ⟨x1, hweq, hL0⟩ := GL.named ((hL0.new rfl [.int .u64 ((zl a.num : Nat) : Int), .string (zh a.num), .bool (zs a.num), .int .u64 ((lo (fe a) : Nat) : Int), .string (hs (fe a))] 34).new (K := w.heap.size + 1) (szA _ _) [.int .u64 0, .string ⟨#[]⟩, .bool false] 32)
 go_enter Tryz.func97, Tryz.ntmps97
 have hN0 := cells_of _ 0 [] rfl (hL0.get _ _ (mK mZ))
 simp only [zF, Nat.reduceAdd] at hN0
 go_wp2_with fail
 clear hN0
 with_reducible refine Calls.mono (HN.out _) ?_
 rintro e x2 ⟨rfl, hb⟩
 replace hL0 := hL0.call hb
 clear hb hweq
 have hN0 := cells_of _ 0 [] rfl (hL0.get _ _ (mK mZ))
 simp only [zF, Nat.reduceAdd] at hN0
 go_wp2_with fail
 clear hN0
 with_reducible refine Calls.mono (HF.out _) ?_
 rintro e x3 ⟨rfl, hb⟩
 replace hL0 := hL0.call hb
 clear hb
 have hA := hL0.fc
 simp only [zF, Nat.reduceAdd] at hA
 obtain ⟨x4, hput1, hP⟩ := GL.named (hL0.put 0 (w.heap.size + 1) _ rfl [.int .u64 ((zl z : Nat) : Int), .string (zh z), .bool (zs z)] rfl)
 simp only [setAll] at hput1
 simp only [List.set_cons_zero, List.set_cons_succ] at hP
 have hB1 := hP.fc
 simp only [zF, Nat.reduceAdd] at hB1
 replace hL0 := hP
 go_wp2_with fail
 exact bodyPost_ret (v := intV z) (by simp [results, Tryz.results97, go_sem, hB1]) rfl ⟨rfl, hL0.bl⟩
theorem dtoi_high (a : Rat) (z : Int) (HN : RT 151 #[fracV a] (.bool true)) (HC : RT 153 #[fracV a] (intV z)) (w : World) :
  Calls Tryz.prog 97 #[fracV a, .int .i64 3] w fun xe w' => xe = .returned (intV z) ∧ Below w.heap.size w w' := by
 have hL0 : GL w w [] := GL.start w
 replace HN := Lib.hid HN
 replace HC := Lib.hid HC
 obtain ⟨x1, hweq, hL0⟩ := GL.named ((hL0.new rfl [.int .u64 ((zl a.num : Nat) : Int), .string (zh a.num), .bool (zs a.num), .int .u64 ((lo (fe a) : Nat) : Int), .string (hs (fe a))] 34).new (K := w.heap.size + 1) (szA _ _) [.int .u64 0, .string ⟨#[]⟩, .bool false] 32)
 go_enter Tryz.func97, Tryz.ntmps97
 have hN0 := cells_of _ 0 [] rfl (hL0.get _ _ (mK mZ))
 simp only [zF, Nat.reduceAdd] at hN0
 go_wp2_with fail
 clear hN0
 with_reducible refine Calls.mono (HN.out _) ?_
 rintro e x2 ⟨rfl, hb⟩
 replace hL0 := hL0.call hb
 clear hb hweq
 have hN0 := cells_of _ 0 [] rfl (hL0.get _ _ (mK mZ))
 simp only [zF, Nat.reduceAdd] at hN0
 go_wp2_with fail
 clear hN0
 with_reducible refine Calls.mono (HC.out _) ?_
 rintro e x3 ⟨rfl, hb⟩
 replace hL0 := hL0.call hb
 clear hb
 have hA := hL0.fc
 simp only [zF, Nat.reduceAdd] at hA
 obtain ⟨x4, hput1, hP⟩ := GL.named (hL0.put 0 (w.heap.size + 1) _ rfl [.int .u64 ((zl z : Nat) : Int), .string (zh z), .bool (zs z)] rfl)
 simp only [setAll] at hput1
 simp only [List.set_cons_zero, List.set_cons_succ] at hP
 have hB1 := hP.fc
 simp only [zF, Nat.reduceAdd] at hB1
 replace hL0 := hP
 go_wp2_with fail
 exact bodyPost_ret (v := intV z) (by simp [results, Tryz.results97, go_sem, hB1]) rfl ⟨rfl, hL0.bl⟩
theorem drnd_neg (a : Rat) (n v : Int) (h1 : decide (n < 0) = true) (w : World) :
  Calls Tryz.prog 45 #[fracV a, .int .i64 n, .int .i64 v] w fun xe w' => xe = .returned (.tuple #[.agg #[.int .u64 0, .string ⟨#[]⟩, .bool false], .int .i64 1]) ∧ Below w.heap.size w w' := by
 have hL0 : GL w w [] := GL.start w
 obtain ⟨x1, hweq, hL0⟩ := GL.named ((hL0.new rfl [.int .u64 ((zl a.num : Nat) : Int), .string (zh a.num), .bool (zs a.num), .int .u64 ((lo (fe a) : Nat) : Int), .string (hs (fe a))] 34).new (K := w.heap.size + 1) (szA _ _) [.int .u64 0, .string ⟨#[]⟩, .bool false] 32)
 go_enter Tryz.func45, Tryz.ntmps45
 have hA := hL0.fc
 simp only [zF, Nat.reduceAdd] at hA
 obtain ⟨x2, hput1, hP⟩ := GL.named (hL0.put 0 (w.heap.size + 1) _ rfl [.int .u64 0, .string ⟨#[]⟩, .bool false] rfl)
 simp only [setAll] at hput1
 simp only [List.set_cons_zero, List.set_cons_succ] at hP
 have hB1 := hP.fc
 simp only [zF, Nat.reduceAdd] at hB1
 replace hL0 := hP
 go_wp2_with fail
 exact bodyPost_ret (v := .tuple #[.agg #[.int .u64 0, .string ⟨#[]⟩, .bool false], .int .i64 1]) (by simp [results, Tryz.results45, go_sem, hB1]) rfl ⟨rfl, hL0.bl⟩
theorem drnd_big (a : Rat) (n v : Int) (h1 : decide (n < 0) = false) (h2 : decide (100 < n) = true) (w : World) :
  Calls Tryz.prog 45 #[fracV a, .int .i64 n, .int .i64 v] w fun xe w' => xe = .returned (.tuple #[.agg #[.int .u64 0, .string ⟨#[]⟩, .bool false], .int .i64 3]) ∧ Below w.heap.size w w' := by
 have hL0 : GL w w [] := GL.start w
 obtain ⟨x1, hweq, hL0⟩ := GL.named ((hL0.new rfl [.int .u64 ((zl a.num : Nat) : Int), .string (zh a.num), .bool (zs a.num), .int .u64 ((lo (fe a) : Nat) : Int), .string (hs (fe a))] 34).new (K := w.heap.size + 1) (szA _ _) [.int .u64 0, .string ⟨#[]⟩, .bool false] 32)
 go_enter Tryz.func45, Tryz.ntmps45
 have hA := hL0.fc
 simp only [zF, Nat.reduceAdd] at hA
 obtain ⟨x2, hput1, hP⟩ := GL.named (hL0.put 0 (w.heap.size + 1) _ rfl [.int .u64 0, .string ⟨#[]⟩, .bool false] rfl)
 simp only [setAll] at hput1
 simp only [List.set_cons_zero, List.set_cons_succ] at hP
 have hB1 := hP.fc
 simp only [zF, Nat.reduceAdd] at hB1
 replace hL0 := hP
 go_wp2_with fail
 exact bodyPost_ret (v := .tuple #[.agg #[.int .u64 0, .string ⟨#[]⟩, .bool false], .int .i64 3]) (by simp [results, Tryz.results45, go_sem, hB1]) rfl ⟨rfl, hL0.bl⟩
theorem drnd_way0 (a : Rat) (n v : Int) (h1 : decide (n < 0) = false) (h2 : decide (100 < n) = false) (h3 : decide (v < 1) = true) (w : World) :
  Calls Tryz.prog 45 #[fracV a, .int .i64 n, .int .i64 v] w fun xe w' => xe = .returned (.tuple #[.agg #[.int .u64 0, .string ⟨#[]⟩, .bool false], .int .i64 1]) ∧ Below w.heap.size w w' := by
 have hL0 : GL w w [] := GL.start w
 obtain ⟨x1, hweq, hL0⟩ := GL.named ((hL0.new rfl [.int .u64 ((zl a.num : Nat) : Int), .string (zh a.num), .bool (zs a.num), .int .u64 ((lo (fe a) : Nat) : Int), .string (hs (fe a))] 34).new (K := w.heap.size + 1) (szA _ _) [.int .u64 0, .string ⟨#[]⟩, .bool false] 32)
 go_enter Tryz.func45, Tryz.ntmps45
 have hA := hL0.fc
 simp only [zF, Nat.reduceAdd] at hA
 obtain ⟨x2, hput1, hP⟩ := GL.named (hL0.put 0 (w.heap.size + 1) _ rfl [.int .u64 0, .string ⟨#[]⟩, .bool false] rfl)
 simp only [setAll] at hput1
 simp only [List.set_cons_zero, List.set_cons_succ] at hP
 have hB1 := hP.fc
 simp only [zF, Nat.reduceAdd] at hB1
 replace hL0 := hP
 go_wp2_with fail
 exact bodyPost_ret (v := .tuple #[.agg #[.int .u64 0, .string ⟨#[]⟩, .bool false], .int .i64 1]) (by simp [results, Tryz.results45, go_sem, hB1]) rfl ⟨rfl, hL0.bl⟩
theorem drnd_way4 (a : Rat) (n v : Int) (h1 : decide (n < 0) = false) (h2 : decide (100 < n) = false) (h3 : decide (v < 1) = false) (h4 : decide (3 < v) = true) (w : World) :
  Calls Tryz.prog 45 #[fracV a, .int .i64 n, .int .i64 v] w fun xe w' => xe = .returned (.tuple #[.agg #[.int .u64 0, .string ⟨#[]⟩, .bool false], .int .i64 1]) ∧ Below w.heap.size w w' := by
 have hL0 : GL w w [] := GL.start w
 obtain ⟨x1, hweq, hL0⟩ := GL.named ((hL0.new rfl [.int .u64 ((zl a.num : Nat) : Int), .string (zh a.num), .bool (zs a.num), .int .u64 ((lo (fe a) : Nat) : Int), .string (hs (fe a))] 34).new (K := w.heap.size + 1) (szA _ _) [.int .u64 0, .string ⟨#[]⟩, .bool false] 32)
 go_enter Tryz.func45, Tryz.ntmps45
 have hA := hL0.fc
 simp only [zF, Nat.reduceAdd] at hA
 obtain ⟨x2, hput1, hP⟩ := GL.named (hL0.put 0 (w.heap.size + 1) _ rfl [.int .u64 0, .string ⟨#[]⟩, .bool false] rfl)
 simp only [setAll] at hput1
 simp only [List.set_cons_zero, List.set_cons_succ] at hP
 have hB1 := hP.fc
 simp only [zF, Nat.reduceAdd] at hB1
 replace hL0 := hP
 go_wp2_with fail
 exact bodyPost_ret (v := .tuple #[.agg #[.int .u64 0, .string ⟨#[]⟩, .bool false], .int .i64 1]) (by simp [results, Tryz.results45, go_sem, hB1]) rfl ⟨rfl, hL0.bl⟩
theorem drnd_ok (a p r : Rat) (n v t z : Int) (u : Nat) (HT : RT 47 #[.int .i64 n] (natV u)) (HF : RT 69 #[.bool false, natV u] (intV t)) (HW : RT 98 #[intV t] (fracV p)) (HM : RT 31 #[fracV a, fracV p] (fracV r)) (HI : RT 97 #[fracV r, .int .i64 v] (intV z)) (h1 : decide (n < 0) = false) (h2 : decide (100 < n) = false) (h3 : decide (v < 1) = false) (h4 : decide (3 < v) = false) (w : World) :
  Calls Tryz.prog 45 #[fracV a, .int .i64 n, .int .i64 v] w fun xe w' => xe = .returned (.tuple #[intV z, .int .i64 0]) ∧ Below w.heap.size w w' := by
 have hL0 : GL w w [] := GL.start w
 replace HT := Lib.hid HT
 replace HF := Lib.hid HF
 replace HW := Lib.hid HW
 replace HM := Lib.hid HM
 replace HI := Lib.hid HI
 obtain ⟨x1, hweq, hL0⟩ := GL.named ((hL0.new rfl [.int .u64 ((zl a.num : Nat) : Int), .string (zh a.num), .bool (zs a.num), .int .u64 ((lo (fe a) : Nat) : Int), .string (hs (fe a))] 34).new (K := w.heap.size + 1) (szA _ _) [.int .u64 0, .string ⟨#[]⟩, .bool false] 32)
 go_enter Tryz.func45, Tryz.ntmps45
 go_upto_region 8 with fail
 clear hweq
 obtain ⟨α, iα, F, hF1, hF2⟩ := cls x1
 have hq0 := cls_box hF1 hL0 _ _ (mK mZ)
 simp only [zC, Nat.reduceAdd] at hq0
 refine region_qs 8 (C := fun w' => ∃ x, w' = F x) (by kernel_rfl) (by kernel_rfl) (cls_drew hF2) ?_
 simp only [zT]
 repeat (go_big_quiet_step (first | fail | (go_at_call 47; with_reducible exact cls_call hF1 hF2 HT.out _) | (go_at_call 69; with_reducible exact cls_call hF1 hF2 HF.out _) | (go_at_call 98; with_reducible exact cls_call hF1 hF2 HW.out _) | (go_at_call 31; with_reducible exact cls_call hF1 hF2 HM.out _) | (go_at_call 97; with_reducible exact cls_call hF1 hF2 HI.out _)))
 refine wpQuiet_nil ?_
 rintro wq ⟨xq, rfl⟩
 replace hL0 := hL0.call (hF1 xq)
 clear  hq0 hF2
 generalize F xq = x2 at hL0 ⊢
 clear hF1 xq iα F α
 have hA := hL0.fc
 simp only [zF, Nat.reduceAdd] at hA
 obtain ⟨x3, hput1, hP⟩ := GL.named (hL0.put 0 (w.heap.size + 1) _ rfl [.int .u64 ((zl z : Nat) : Int), .string (zh z), .bool (zs z)] rfl)
 simp only [setAll] at hput1
 simp only [List.set_cons_zero, List.set_cons_succ] at hP
 have hB1 := hP.fc
 simp only [zF, Nat.reduceAdd] at hB1
 replace hL0 := hP
 go_wp2_with fail
 exact bodyPost_ret (v := .tuple #[intV z, .int .i64 0]) (by simp [results, Tryz.results45, go_sem, hB1]) rfl ⟨rfl, hL0.bl⟩
theorem dround_err (a : Rat) (n v z c : Int) (HR : RT 45 #[fracV a, .int .i64 n, .int .i64 v] (.tuple #[intV z, .int .i64 c])) (h1 : (c != 0) = true) (w : World) :
  Calls Tryz.prog 12 #[fracV a, .int .i64 n, .int .i64 v] w fun xe w' => xe = .returned (.tuple #[.agg #[.int .u64 0, .string ⟨#[]⟩, .bool false, .int .u64 0, .string ⟨#[]⟩], .int .i64 c]) ∧ Below w.heap.size w w' := by
 have hL0 : GL w w [] := GL.start w
 replace HR := Lib.hid HR
 obtain ⟨x1, hweq, hL0⟩ := GL.named ((hL0.new rfl [.int .u64 ((zl a.num : Nat) : Int), .string (zh a.num), .bool (zs a.num), .int .u64 ((lo (fe a) : Nat) : Int), .string (hs (fe a))] 34).new (K := w.heap.size + 1) (szA _ _) [.int .u64 0, .string ⟨#[]⟩, .bool false, .int .u64 0, .string ⟨#[]⟩] 34)
 go_enter Tryz.func12, Tryz.ntmps12
 have hN0 := cells_of _ 0 [] rfl (hL0.get _ _ (mK mZ))
 simp only [zF, Nat.reduceAdd] at hN0
 go_wp2_with fail
 clear hN0
 with_reducible refine Calls.mono (HR.out _) ?_
 rintro e x2 ⟨rfl, hb⟩
 replace hL0 := hL0.call hb
 clear hb hweq
 obtain ⟨x3, hweq, hL0⟩ := GL.named (hL0.new rfl [.int .u64 ((zl z : Nat) : Int), .string (zh z), .bool (zs z)] 32)
 have hA := hL0.fc
 simp only [zF, Nat.reduceAdd] at hA
 obtain ⟨x4, hput1, hP⟩ := GL.named (hL0.put 1 (w.heap.size + 1) _ rfl [.int .u64 0, .string ⟨#[]⟩, .bool false, .int .u64 0, .string ⟨#[]⟩] rfl)
 simp only [setAll] at hput1
 simp only [List.set_cons_zero, List.set_cons_succ] at hP
 have hB1 := hP.fc
 simp only [zF, Nat.reduceAdd] at hB1
 replace hL0 := hP
 go_wp2_with fail
 exact bodyPost_ret (v := .tuple #[.agg #[.int .u64 0, .string ⟨#[]⟩, .bool false, .int .u64 0, .string ⟨#[]⟩], .int .i64 c]) (by simp [results, Tryz.results12, go_sem, hB1]) rfl ⟨rfl, hL0.bl⟩
theorem dround_ok (a q : Rat) (n v z c : Int) (u : Nat) (HR : RT 45 #[fracV a, .int .i64 n, .int .i64 v] (.tuple #[intV z, .int .i64 0])) (HT : RT 47 #[.int .i64 n] (natV u)) (HF : RT 46 #[intV z, natV u] (.tuple #[fracV q, .int .i64 c])) (w : World) :
  Calls Tryz.prog 12 #[fracV a, .int .i64 n, .int .i64 v] w fun xe w' => xe = .returned (.tuple #[fracV q, .int .i64 c]) ∧ Below w.heap.size w w' := by
 have hL0 : GL w w [] := GL.start w
 replace HR := Lib.hid HR
 replace HT := Lib.hid HT
 replace HF := Lib.hid HF
 obtain ⟨x1, hweq, hL0⟩ := GL.named ((hL0.new rfl [.int .u64 ((zl a.num : Nat) : Int), .string (zh a.num), .bool (zs a.num), .int .u64 ((lo (fe a) : Nat) : Int), .string (hs (fe a))] 34).new (K := w.heap.size + 1) (szA _ _) [.int .u64 0, .string ⟨#[]⟩, .bool false, .int .u64 0, .string ⟨#[]⟩] 34)
 go_enter Tryz.func12, Tryz.ntmps12
 have hN0 := cells_of _ 0 [] rfl (hL0.get _ _ (mK mZ))
 simp only [zF, Nat.reduceAdd] at hN0
 go_wp2_with fail
 clear hN0
 with_reducible refine Calls.mono (HR.out _) ?_
 rintro e x2 ⟨rfl, hb⟩
 replace hL0 := hL0.call hb
 clear hb hweq
 obtain ⟨x3, hweq, hL0⟩ := GL.named (hL0.new rfl [.int .u64 ((zl z : Nat) : Int), .string (zh z), .bool (zs z)] 32)
 go_upto_region 4 with fail
 clear hweq
 obtain ⟨α, iα, F, hF1, hF2⟩ := cls x3
 have hq0 := cls_box hF1 hL0 _ _ mZ
 simp only [zC, Nat.reduceAdd] at hq0
 refine region_qs 6 (C := fun w' => ∃ x, w' = F x) (by kernel_rfl) (by kernel_rfl) (cls_drew hF2) ?_
 simp only [zT]
 repeat (go_big_quiet_step (first | fail | (go_at_call 47; with_reducible exact cls_call hF1 hF2 HT.out _) | (go_at_call 46; with_reducible exact cls_call hF1 hF2 HF.out _)))
 refine wpQuiet_nil ?_
 rintro wq ⟨xq, rfl⟩
 replace hL0 := hL0.call (hF1 xq)
 clear  hq0 hF2
 generalize F xq = x4 at hL0 ⊢
 clear hF1 xq iα F α
 have hA := hL0.fc
 simp only [zF, Nat.reduceAdd] at hA
 obtain ⟨x5, hput1, hP⟩ := GL.named (hL0.put 1 (w.heap.size + 1) _ rfl [.int .u64 ((zl q.num : Nat) : Int), .string (zh q.num), .bool (zs q.num), .int .u64 ((lo (fe q) : Nat) : Int), .string (hs (fe q))] rfl)
 simp only [setAll] at hput1
 simp only [List.set_cons_zero, List.set_cons_succ] at hP
 have hB1 := hP.fc
 simp only [zF, Nat.reduceAdd] at hB1
 replace hL0 := hP
 go_wp2_with fail
 exact bodyPost_ret (v := .tuple #[fracV q, .int .i64 c]) (by simp [results, Tryz.results12, go_sem, hB1]) rfl ⟨rfl, hL0.bl⟩
theorem dbetween_ok (a p q : Rat) (n c : Int) (H1 : RT 12 #[fracV a, .int .i64 n, .int .i64 1] (.tuple #[fracV p, .int .i64 0])) (H2 : RT 12 #[fracV a, .int .i64 n, .int .i64 2] (.tuple #[fracV q, .int .i64 c])) (w : World) :
  Calls Tryz.prog 26 #[fracV a, .int .i64 n] w fun xe w' => xe = .returned (.tuple #[fracV p, fracV q, .int .i64 c]) ∧ Below w.heap.size w w' := by
 have hL0 : GL w w [] := GL.start w
 replace H1 := Lib.hid H1
 replace H2 := Lib.hid H2
 obtain ⟨x1, hweq, hL0⟩ := GL.named (((hL0.new rfl [.int .u64 ((zl a.num : Nat) : Int), .string (zh a.num), .bool (zs a.num), .int .u64 ((lo (fe a) : Nat) : Int), .string (hs (fe a))] 34).new (K := w.heap.size + 1) (szA _ _) [.int .u64 0, .string ⟨#[]⟩, .bool false, .int .u64 0, .string ⟨#[]⟩] 34).new (K := w.heap.size + 1 + 1) (by simp only [World.size_alloc]) [.int .u64 0, .string ⟨#[]⟩, .bool false, .int .u64 0, .string ⟨#[]⟩] 34)
 go_enter Tryz.func26, Tryz.ntmps26
 have hN0 := cells_of _ 0 [] rfl (hL0.get _ _ (mK (mK mZ)))
 simp only [zF, Nat.reduceAdd] at hN0
 go_wp2_with fail
 clear hN0
 with_reducible refine Calls.mono (H1.out _) ?_
 rintro e x2 ⟨rfl, hb⟩
 replace hL0 := hL0.call hb
 clear hb hweq
 have hA := hL0.fc
 simp only [zF, Nat.reduceAdd] at hA
 obtain ⟨x3, hput1, hP⟩ := GL.named (hL0.put 1 (w.heap.size + 1) _ rfl [.int .u64 ((zl p.num : Nat) : Int), .string (zh p.num), .bool (zs p.num), .int .u64 ((lo (fe p) : Nat) : Int), .string (hs (fe p))] rfl)
 simp only [setAll] at hput1
 simp only [List.set_cons_zero, List.set_cons_succ] at hP
 have hB1 := hP.fc
 simp only [zF, Nat.reduceAdd] at hB1
 replace hL0 := hP
 go_wp2_with fail
 clear hA
 with_reducible refine Calls.mono (H2.out _) ?_
 rintro e x4 ⟨rfl, hb⟩
 replace hL0 := hL0.call hb
 clear hb hput1 hB1
 have hA := hL0.fc
 simp only [zF, Nat.reduceAdd] at hA
 obtain ⟨x5, hput2, hP⟩ := GL.named (hL0.put 0 (w.heap.size + 1 + 1) _ rfl [.int .u64 ((zl q.num : Nat) : Int), .string (zh q.num), .bool (zs q.num), .int .u64 ((lo (fe q) : Nat) : Int), .string (hs (fe q))] rfl)
 simp only [setAll] at hput2
 simp only [List.set_cons_zero, List.set_cons_succ] at hP
 have hB2 := hP.fc
 simp only [zF, Nat.reduceAdd] at hB2
 replace hL0 := hP
 go_upto_region 5 with fail
 clear hA
 clear hput2 hB2
 have hA := hL0.fc
 simp only [zF, Nat.reduceAdd] at hA
 obtain ⟨⟨c0, c1, c2, c3, c4⟩, cf0, cn0, ⟨c5, c6, c7, c8, c9⟩, cf1, cn1, ⟨c10, c11, c12, c13, c14⟩, cf2⟩ := id hA
 clear hA
 go_region
 have hP := ((hL0.put 1 (w.heap.size + 1) _ rfl [.int .u64 ((zl p.num : Nat) : Int), .string (zh p.num), .bool (zs p.num), .int .u64 ((lo (fe p) : Nat) : Int), .string (hs (fe p))] rfl).put 0 (w.heap.size + 1 + 1) _ rfl [.int .u64 ((zl q.num : Nat) : Int), .string (zh q.num), .bool (zs q.num), .int .u64 ((lo (fe q) : Nat) : Int), .string (hs (fe q))] rfl).drew
 simp only [setAll, List.set_cons_zero, List.set_cons_succ] at hP
 generalize ((((((((((x5.setCell ⟨w.heap.size + 1, 0, none⟩ (.int .u64 ((zl p.num : Nat) : Int))).setCell ⟨w.heap.size + 1, 1, none⟩ (.string (zh p.num))).setCell ⟨w.heap.size + 1, 2, none⟩ (.bool (zs p.num))).setCell ⟨w.heap.size + 1, 3, none⟩ (.int .u64 ((lo (fe p) : Nat) : Int))).setCell ⟨w.heap.size + 1, 4, none⟩ (.string (hs (fe p)))).setCell ⟨w.heap.size + 1 + 1, 0, none⟩ (.int .u64 ((zl q.num : Nat) : Int))).setCell ⟨w.heap.size + 1 + 1, 1, none⟩ (.string (zh q.num))).setCell ⟨w.heap.size + 1 + 1, 2, none⟩ (.bool (zs q.num))).setCell ⟨w.heap.size + 1 + 1, 3, none⟩ (.int .u64 ((lo (fe q) : Nat) : Int))).setCell ⟨w.heap.size + 1 + 1, 4, none⟩ (.string (hs (fe q)))).drew = x6 at hP ⊢
 clear hL0
 have hL0 := hP
 clear hP
 clear c0 c1 c2 c3 c4 cf0 cn0 c5 c6 c7 c8 c9 cf1 cn1 c10 c11 c12 c13 c14 cf2
 have hN0 := cells_of _ 0 [] rfl (hL0.get _ _ mZ)
 simp only [zF, Nat.reduceAdd] at hN0
 have hN1 := cells_of _ 0 [] rfl (hL0.get _ _ (mK mZ))
 simp only [zF, Nat.reduceAdd] at hN1
 go_wp2_with fail
 exact bodyPost_ret (v := .tuple #[fracV p, fracV q, .int .i64 c]) (by simp [results, Tryz.results26, go_sem, hN0 ,hN1]) rfl ⟨rfl, hL0.bl⟩
theorem dodd_yes (z q : Int) (HO : RT 91 #[.int .i64 2] (intV 2)) (HD : RT 176 #[intV z, intV 2] (.tuple #[intV q, intV 1, .bool true])) (H1 : RT 91 #[.int .i64 1] (intV 1)) (w : World) :
  Calls Tryz.prog 175 #[intV z] w fun xe w' => xe = .returned (.bool true) ∧ Below w.heap.size w w' := by
 have hL0 : GL w w [] := GL.start w
 replace HO := Lib.hid HO
 replace HD := Lib.hid HD
 replace H1 := Lib.hid H1
 obtain ⟨x1, hweq, hL0⟩ := GL.named (hL0.new rfl [.int .u64 ((zl z : Nat) : Int), .string (zh z), .bool (zs z)] 32)
 go_enter Tryz.func175, Tryz.ntmps175
 go_upto_region 1 with fail
 clear hweq
 refine region_gh (by kernel_rfl) (by kernel_rfl) ?_
 refine lex_seg (gl := []) 7 (by kernel_rfl) ?_
 intro α iα F hF1 hF2
 have hq := GL.seg hF1 hL0
 simp only [zC, Nat.reduceAdd] at hq
 simp only [zT]
 repeat (go_big_quiet_step (first | fail | (go_at_call 91; with_reducible exact seg_call hF2 HO.out _) | (go_at_call 176; with_reducible exact seg_call hF2 HD.out _)))
 refine wpQuiet_nil ?_
 clear hq hF1 hF2 iα F α
 refine lex_new [.int .u64 0, .string ⟨#[]⟩, .bool false] 3 32 32 rfl rfl (of_decide_eq_true (by kernel_rfl)) (by kernel_rfl) rfl new_int ?_
 simp only [Act.put, zP]
 refine lex_new [.int .u64 0, .string ⟨#[]⟩, .bool false] 4 32 32 rfl rfl (of_decide_eq_true (by kernel_rfl)) (by kernel_rfl) rfl new_int ?_
 simp only [Act.put, zP]
 refine lex_put [.int .u64 ((zl q : Nat) : Int), .string (zh q), .bool (zs q)] [.int .u64 0, .string ⟨#[]⟩, .bool false] 3 32 (.tmp 10) rfl (by kernel_rfl) (by simp [toG, upd]) rfl (fun w k h => put_int _ _ _ _ _ _ w k h) ?_
 simp only [Act.put]
 refine lex_put [.int .u64 ((zl 1 : Nat) : Int), .string (zh 1), .bool (zs 1)] [.int .u64 0, .string ⟨#[]⟩, .bool false] 4 32 (.tmp 11) rfl (by kernel_rfl) (by simp [toG, upd]) rfl (fun w k h => put_int _ _ _ _ _ _ w k h) ?_
 simp only [Act.put]
 refine lex_seg (gl := [(4, [.int .u64 ((zl 1 : Nat) : Int), .string (zh 1), .bool (zs 1)], true), (3, [.int .u64 ((zl q : Nat) : Int), .string (zh q), .bool (zs q)], true), (4, [.int .u64 0, .string ⟨#[]⟩, .bool false], false), (3, [.int .u64 0, .string ⟨#[]⟩, .bool false], false)]) 1 (by kernel_rfl) ?_
 intro α iα F hF1 hF2
 have hq := GL.seg hF1 hL0
 simp only [zC, Nat.reduceAdd] at hq
 simp only [zT]
 repeat (go_big_quiet_step (first | fail | (go_at_call 91; with_reducible exact seg_call hF2 HO.out _) | (go_at_call 176; with_reducible exact seg_call hF2 HD.out _)))
 refine wpQuiet_nil ?_
 clear hq hF1 hF2 iα F α
 refine lexG_nil ?_
 intro κ x2 hS
 replace hL0 := hL0.ghs hS [(4, [.int .u64 ((zl 1 : Nat) : Int), .string (zh 1), .bool (zs 1)]), (3, [.int .u64 ((zl q : Nat) : Int), .string (zh q), .bool (zs q)])] (by simp) (by intro p hp; simp only [List.mem_cons, List.not_mem_nil, or_false] at hp; rcases hp with rfl | rfl <;> exact ⟨_, by simp only [toG, upd]; rfl⟩)
 simp only [List.map_cons, List.map_nil, List.cons_append, List.nil_append] at hL0
 simp only [over_toG, over_nil, Act.put, zP]
 clear hS
 generalize κ 4 = k2_4 at *
 generalize κ 3 = k2_3 at *
 go_upto_region 2 with fail
 obtain ⟨α, iα, F, hF1, hF2⟩ := cls x2
 have hq0 := cls_box hF1 hL0 _ _ mZ
 simp only [zC, Nat.reduceAdd] at hq0
 refine region_qs 4 (C := fun w' => ∃ x, w' = F x) (by kernel_rfl) (by kernel_rfl) (cls_drew hF2) ?_
 simp only [zT]
 repeat (go_big_quiet_step (first | fail | (go_at_call 91; with_reducible exact cls_call hF1 hF2 H1.out _)))
 refine wpQuiet_nil ?_
 rintro wq ⟨xq, rfl⟩
 replace hL0 := hL0.call (hF1 xq)
 clear  hq0 hF2
 generalize F xq = x3 at hL0 ⊢
 clear hF1 xq iα F α
 go_wp2_with fail
 exact bodyPost_ret (v := .bool true) (by simp [results, Tryz.results175, go_sem]) rfl ⟨rfl, hL0.bl⟩
theorem dodd_no (z q r : Int) (HO : RT 91 #[.int .i64 2] (intV 2)) (HD : RT 176 #[intV z, intV 2] (.tuple #[intV q, intV r, .bool true])) (H1 : RT 91 #[.int .i64 1] (intV 1)) (h1 : (((zl r : Nat) : Int) == ((zl 1 : Nat) : Int)) = false) (h2 : (zl r == zl 1) = false) (h3 : ¬ zl r = zl 1) (w : World) :
  Calls Tryz.prog 175 #[intV z] w fun xe w' => xe = .returned (.bool false) ∧ Below w.heap.size w w' := by
 have hL0 : GL w w [] := GL.start w
 replace HO := Lib.hid HO
 replace HD := Lib.hid HD
 replace H1 := Lib.hid H1
 obtain ⟨x1, hweq, hL0⟩ := GL.named (hL0.new rfl [.int .u64 ((zl z : Nat) : Int), .string (zh z), .bool (zs z)] 32)
 go_enter Tryz.func175, Tryz.ntmps175
 go_upto_region 1 with fail
 clear hweq
 refine region_gh (by kernel_rfl) (by kernel_rfl) ?_
 refine lex_seg (gl := []) 7 (by kernel_rfl) ?_
 intro α iα F hF1 hF2
 have hq := GL.seg hF1 hL0
 simp only [zC, Nat.reduceAdd] at hq
 simp only [zT]
 repeat (go_big_quiet_step (first | fail | (go_at_call 91; with_reducible exact seg_call hF2 HO.out _) | (go_at_call 176; with_reducible exact seg_call hF2 HD.out _)))
 refine wpQuiet_nil ?_
 clear hq hF1 hF2 iα F α
 refine lex_new [.int .u64 0, .string ⟨#[]⟩, .bool false] 3 32 32 rfl rfl (of_decide_eq_true (by kernel_rfl)) (by kernel_rfl) rfl new_int ?_
 simp only [Act.put, zP]
 refine lex_new [.int .u64 0, .string ⟨#[]⟩, .bool false] 4 32 32 rfl rfl (of_decide_eq_true (by kernel_rfl)) (by kernel_rfl) rfl new_int ?_
 simp only [Act.put, zP]
 refine lex_put [.int .u64 ((zl q : Nat) : Int), .string (zh q), .bool (zs q)] [.int .u64 0, .string ⟨#[]⟩, .bool false] 3 32 (.tmp 10) rfl (by kernel_rfl) (by simp [toG, upd]) rfl (fun w k h => put_int _ _ _ _ _ _ w k h) ?_
 simp only [Act.put]
 refine lex_put [.int .u64 ((zl r : Nat) : Int), .string (zh r), .bool (zs r)] [.int .u64 0, .string ⟨#[]⟩, .bool false] 4 32 (.tmp 11) rfl (by kernel_rfl) (by simp [toG, upd]) rfl (fun w k h => put_int _ _ _ _ _ _ w k h) ?_
 simp only [Act.put]
 refine lex_seg (gl := [(4, [.int .u64 ((zl r : Nat) : Int), .string (zh r), .bool (zs r)], true), (3, [.int .u64 ((zl q : Nat) : Int), .string (zh q), .bool (zs q)], true), (4, [.int .u64 0, .string ⟨#[]⟩, .bool false], false), (3, [.int .u64 0, .string ⟨#[]⟩, .bool false], false)]) 1 (by kernel_rfl) ?_
 intro α iα F hF1 hF2
 have hq := GL.seg hF1 hL0
 simp only [zC, Nat.reduceAdd] at hq
 simp only [zT]
 repeat (go_big_quiet_step (first | fail | (go_at_call 91; with_reducible exact seg_call hF2 HO.out _) | (go_at_call 176; with_reducible exact seg_call hF2 HD.out _)))
 refine wpQuiet_nil ?_
 clear hq hF1 hF2 iα F α
 refine lexG_nil ?_
 intro κ x2 hS
 replace hL0 := hL0.ghs hS [(4, [.int .u64 ((zl r : Nat) : Int), .string (zh r), .bool (zs r)]), (3, [.int .u64 ((zl q : Nat) : Int), .string (zh q), .bool (zs q)])] (by simp) (by intro p hp; simp only [List.mem_cons, List.not_mem_nil, or_false] at hp; rcases hp with rfl | rfl <;> exact ⟨_, by simp only [toG, upd]; rfl⟩)
 simp only [List.map_cons, List.map_nil, List.cons_append, List.nil_append] at hL0
 simp only [over_toG, over_nil, Act.put, zP]
 clear hS
 generalize κ 4 = k2_4 at *
 generalize κ 3 = k2_3 at *
 go_upto_region 2 with fail
 obtain ⟨α, iα, F, hF1, hF2⟩ := cls x2
 have hq0 := cls_box hF1 hL0 _ _ mZ
 simp only [zC, Nat.reduceAdd] at hq0
 refine region_qs 4 (C := fun w' => ∃ x, w' = F x) (by kernel_rfl) (by kernel_rfl) (cls_drew hF2) ?_
 simp only [zT]
 repeat (go_big_quiet_step (first | fail | (go_at_call 91; with_reducible exact cls_call hF1 hF2 H1.out _)))
 refine wpQuiet_nil ?_
 rintro wq ⟨xq, rfl⟩
 replace hL0 := hL0.call (hF1 xq)
 clear  hq0 hF2
 generalize F xq = x3 at hL0 ⊢
 clear hF1 xq iα F α
 go_wp2_with fail
 exact bodyPost_ret (v := .bool false) (by simp [results, Tryz.results175, go_sem]) rfl ⟨rfl, hL0.bl⟩
end Go.Proofs.YtahfcciihkkegaaGreatDoor
namespace Go.Proofs.YtahfcciihkkegaaGreatDoor
open Go.RowKit
/-- Whether the integer nearest to x, of two the even one, lies above x. -/
def nearUp (x : Rat) : Bool := if x - (x.floor : Rat) < mkRat 1 2 then false else if x - (x.floor : Rat) = mkRat 1 2 then decide (x.floor % 2 = 1) else true
/-- x rounded to an integer: down (1), up (2), to the nearest (3). -/
def toI (way : Int) (x : Rat) : Int := if way = 3 then (if nearUp x then rceil x else x.floor) else if way = 2 then rceil x else x.floor
/-- 10^p as a fraction. -/
def tenQ (p : Nat) : Rat := ((10 ^ p : Nat) : Rat)
theorem tenN_pos (p : Nat) : 0 < 10 ^ p := Nat.pow_pos (by decide)
theorem tenQ_pos (p : Nat) : 0 < tenQ p := by
 unfold tenQ
 exact Rat.natCast_pos.2 (tenN_pos p)
theorem tenQ_ne (p : Nat) : tenQ p ≠ 0 := fun e => by have := tenQ_pos p; rw [e] at this; exact absurd this (by decide)
/-- q rounded to a multiple of 10^-p. -/
def rnd (way : Int) (p : Nat) (q : Rat) : Rat := (toI way (q * tenQ p) : Rat) / tenQ p
theorem int_ceil (z : Int) : rceil (z : Rat) = z := by
 unfold rceil
 rw [← Rat.intCast_neg, Rat.floor_intCast]; omega
theorem ceil_cases (x : Rat) : (x = (x.floor : Rat) ∧ rceil x = x.floor) ∨ (x ≠ (x.floor : Rat) ∧ rceil x = x.floor + 1) := by
 by_cases h : x = (x.floor : Rat)
 ·left
  refine ⟨h, ?_⟩
  conv => lhs; rw [h]
  exact int_ceil _
 ·right
  refine ⟨h, ?_⟩
  have f1 := Rat.floor_le x
  have f2 := Rat.lt_floor_add_one x
  have c1 := ceil_ge x
  have c2 := ceil_lt x
  have g1 : (x.floor : Rat) < (rceil x : Rat) := by grind
  have g2 : (rceil x : Rat) < ((x.floor + 2 : Int) : Rat) := by rw [Rat.intCast_add] at f2 ⊢; grind
  have g3 := Rat.intCast_lt_intCast.1 g1
  have g4 := Rat.intCast_lt_intCast.1 g2
  omega
end Go.Proofs.YtahfcciihkkegaaGreatDoor
namespace Go.Proofs.YtahfcciihkkegaaGreatDoor
open Go.RowKit
/-- 2^p as a fraction, and its inverse. -/
def twoQ (p : Nat) : Rat := ((2 ^ p : Nat) : Rat)
def stepR (p : Nat) : Rat := 1 / twoQ p
/-- The integer below the root of x; the one that is not below it. -/
def rtL (x : Rat) : Nat := isq x.floor.natAbs
def rtH (x : Rat) : Nat := if ((rtL x : Nat) : Rat) * ((rtL x : Nat) : Rat) = x then rtL x else rtL x + 1
end Go.Proofs.YtahfcciihkkegaaGreatDoor
namespace Go.Proofs.YtahfcciihkkegaaGreatDoor
open Go.RowKit
def scaleR (p : Nat) (a : Rat) : Rat := a * (twoQ p * twoQ p)
/-- The greatest multiple of 2^-p that is at most the root of a; the least one that is at least it. -/
def below (p : Nat) (a : Rat) : Rat := ((rtL (scaleR p a) : Nat) : Rat) * stepR p
def above (p : Nat) (a : Rat) : Rat := ((rtH (scaleR p a) : Nat) : Rat) * stepR p
end Go.Proofs.YtahfcciihkkegaaGreatDoor
namespace Go.Proofs.YtahfcciihkkegaaGreatDoor
open Go.RowKit
theorem floor_d {q : Rat} {k : Nat} (h : Sz q k) : dI q.floor ≤ k := by rw [rfloor]; exact Nat.le_trans (dI_mono (Int.natAbs_ediv_le_natAbs _ _)) h.1
theorem ceil_d {q : Rat} {k : Nat} (h : Sz q k) : dI (rceil q) ≤ k := by unfold rceil; rw [dI_neg]; exact floor_d h.neg
theorem toI_d {q : Rat} {k : Nat} (way : Int) (h : Sz q k) : dI (toI way q) ≤ k := by
 unfold toI
 split
 ·split
  ·exact ceil_d h
  ·exact floor_d h
 ·split
  ·exact ceil_d h
  ·exact floor_d h
theorem ten_d {p : Nat} (h : p ≤ 100) : (digs (10 ^ p)).length ≤ 6 := by
 refine digs_length_iff.2 (Nat.lt_of_le_of_lt (Nat.pow_le_pow_right (by decide) h) ?_)
 unfold Bs; decide +kernel
theorem two_d {p : Nat} (h : p ≤ 100) : (digs (2 ^ p)).length ≤ 2 := by
 refine digs_length_iff.2 (Nat.lt_of_le_of_lt (Nat.pow_le_pow_right (by decide) h) ?_)
 unfold Bs; decide +kernel
theorem nat_sz {n k : Nat} (h : (digs n).length ≤ k) (hk : 0 < k) : Sz ((n : Nat) : Rat) k := Sz.int (z := ((n : Nat) : Int)) (by rw [dI_nat]; exact h) hk
theorem ten_sz {p : Nat} (h : p ≤ 100) : Sz (tenQ p) 6 := nat_sz (ten_d h) (by decide)
theorem rnd_sz {q : Rat} {k p : Nat} (way : Int) (h : Sz q k) (hp : p ≤ 100) : Sz (rnd way p q) (k + 12) := by
 unfold rnd
 exact (Sz.int (toI_d way (h.mul (ten_sz hp))) (by omega)).div (ten_sz hp) (tenQ_ne p)
end Go.Proofs.YtahfcciihkkegaaGreatDoor
namespace Go.Proofs.YtahfcciihkkegaaGreatDoor
open Go.RowKit
theorem frV_q0' : fracV 0 = .agg #[.int .u64 0, .string ⟨#[]⟩, .bool false, .int .u64 0, .string ⟨#[]⟩] := frV_00
end Go.Proofs.YtahfcciihkkegaaGreatDoor
namespace Go.Proofs.YtahfcciihkkegaaGreatDoor
open Go.RowKit
theorem wholeD (z : Int) (hz : dI z ≤ 100000) (w : World) : Calls Tryz.prog 98 #[intV z] w fun e w' => e = .returned (fracV (z : Rat)) ∧ Below w.heap.size w w' := by
 have h := fun w => fromF z 1 (by omega) (by omega) (by have := two_d (p := 0) (by omega); exact Nat.le_trans this (by omega)) w
 rw [Rat.mkRat_one] at h
 exact dwhole_w z 0 (z : Rat) one_o h w
theorem ten_o (w : World) : Calls Tryz.prog 52 #[.int .u64 10] w fun e w' => e = .returned (natV 10) ∧ Below w.heap.size w w' := of_val 10 10 rfl (by unfold Bs; omega) w
theorem nb_ten : nb 10 ≤ 4 := by
 obtain ⟨k, h1, h2, -⟩ := nb_spec (n := 10) (by decide)
 rw [h1]
 rcases Nat.lt_or_ge k 4 with g | g
 ·omega
 ·exfalso
  have := Nat.pow_le_pow_right (show 0 < 2 by omega) g
  omega
theorem tensD (n : Nat) (h : n ≤ 100) (w : World) : Calls Tryz.prog 47 #[.int .i64 (n : Int)] w fun e w' => e = .returned (natV (10 ^ n)) ∧ Below w.heap.size w w' :=
 dtens_w n 0 (10 ^ n) ten_o (fun w => pow_ok 10 n (by omega) (by
  rcases Nat.eq_zero_or_pos n with g | g
  ·exact .inl g
  ·refine .inr (Nat.le_trans nb_ten ((Nat.le_div_iff_mul_le g).2 (by omega)))) (by have := ten_d (p := 1) (by omega); exact Nat.le_trans this (by omega)) w) w
theorem zl_one : zl 1 = 1 := by unfold zl; exact lo_small (by unfold Bs; decide)
theorem oddD (z : Int) (hz : dI z ≤ 100000) (w : World) : Calls Tryz.prog 175 #[intV z] w fun e w' => e = .returned (.bool (decide (z % 2 = 1))) ∧ Below w.heap.size w w' := by
 have H2 := fun w => ofI 2 (by decide) (by decide) w
 have H1 := fun w => ofI 1 (by decide) (by decide) w
 have HD := fun w => divI z 2 (by decide) (by omega) (by rw [show dI 2 = (digs 2).length from rfl]; have := two_d (p := 1) (by omega); exact Nat.le_trans this (by omega)) w
 rcases (show z % 2 = 1 ∨ z % 2 = 0 by omega) with h | h
 ·rw [h] at HD ⊢
  exact dodd_yes z _ H2 HD H1 w
 ·rw [h] at HD ⊢
  exact dodd_no z _ 0 H2 HD H1 (by rw [z0.1, zl_one]; rfl) (by rw [z0.1, zl_one]; rfl) (by rw [z0.1, zl_one]; decide) w
theorem nearD (a : Rat) (k : Nat) (ha : Sz a k) (hk : k ≤ 10000) (w : World) : Calls Tryz.prog 151 #[fracV a] w fun e w' => e = .returned (.bool (nearUp a)) ∧ Below w.heap.size w w' := by
 have HF := floorF a k ha (by omega)
 have hd := floor_d ha
 have HH := fun w => ofF 1 2 (by decide) (by decide) (by decide) (by decide) (by decide) w
 have eh : ((1 : Int) : Rat) / ((2 : Int) : Rat) = mkRat 1 2 := by decide +kernel
 rw [eh] at HH
 have HW := wholeD a.floor (by omega)
 have sf : Sz (a.floor : Rat) (k + 1) := Sz.int (Nat.le_trans hd (by omega)) (by omega)
 have HB := subF a (a.floor : Rat) (k + 1) (ha.mono (by omega)) sf (by omega)
 have HC := cmpF (a - (a.floor : Rat)) (mkRat 1 2) (k + k + 3) ((ha.sub sf).mono (by omega)) ((szc (mkRat 1 2) (by decide +kernel) (by decide +kernel)).mono (by omega)) (by omega)
 unfold nearUp
 by_cases h1 : a - (a.floor : Rat) < mkRat 1 2
 ·rw [if_pos h1]
  rw [show cmpQ (a - (a.floor : Rat)) (mkRat 1 2) = -1 by unfold cmpQ; rw [if_pos h1]] at HC
  exact dnear_lt a _ _ _ _ _ HF HH HW HB HC w
 ·rw [if_neg h1]
  by_cases h2 : a - (a.floor : Rat) = mkRat 1 2
  ·rw [if_pos h2]
   rw [show cmpQ (a - (a.floor : Rat)) (mkRat 1 2) = 0 by unfold cmpQ; rw [if_neg h1, if_pos h2]] at HC
   exact dnear_eq a _ _ _ _ _ _ HF HH HW HB HC (oddD a.floor (by omega)) w
  ·rw [if_neg h2]
   rw [show cmpQ (a - (a.floor : Rat)) (mkRat 1 2) = 1 by unfold cmpQ; rw [if_neg h1, if_neg h2]] at HC
   exact dnear_gt a _ _ _ _ _ HF HH HW HB HC w
theorem toID (a : Rat) (v : Int) (k : Nat) (ha : Sz a k) (hk : k ≤ 10000) (hv : 1 ≤ v ∧ v ≤ 3) (w : World) : Calls Tryz.prog 97 #[fracV a, .int .i64 v] w fun e w' => e = .returned (intV (toI v a)) ∧ Below w.heap.size w w' := by
 have HF := floorF a k ha (by omega)
 have HC := ceilF a k ha (by omega)
 have HN := nearD a k ha hk
 rcases (show v = 1 ∨ v = 2 ∨ v = 3 by omega) with rfl | rfl | rfl
 ·exact dtoi_down a _ HF w
 ·exact dtoi_up a _ HC w
 ·cases h : nearUp a with
  | false => rw [h] at HN; rw [show toI 3 a = a.floor by unfold toI; rw [if_pos rfl, h]; rfl]; exact dtoi_low a _ HN HF w
  | true => rw [h] at HN; rw [show toI 3 a = rceil a by unfold toI; rw [if_pos rfl, h]; rfl]; exact dtoi_high a _ HN HC w
/-- The code with which rounding to n places in the mode v ends. -/
def rdC (n v : Int) : Int := if n < 0 then 1 else if 100 < n then 3 else if v < 1 ∨ 3 < v then 1 else 0
theorem roundD (a : Rat) (p : Nat) (v : Int) (k : Nat) (ha : Sz a k) (hk : k ≤ 5000) (hp : p ≤ 100) (hv : 1 ≤ v ∧ v ≤ 3) (w : World) :
  Calls Tryz.prog 12 #[fracV a, .int .i64 (p : Int), .int .i64 v] w fun e w' => e = .returned (.tuple #[fracV (rnd v p a), .int .i64 0]) ∧ Below w.heap.size w w' := by
 have HT := tensD p hp
 have HI := fun w => fromI false (10 ^ p) ((10 ^ p : Nat) : Int) rfl w
 have hd : dI ((10 ^ p : Nat) : Int) ≤ 6 := by rw [dI_nat]; exact ten_d hp
 have HW := wholeD ((10 ^ p : Nat) : Int) (by omega)
 have et : (((10 ^ p : Nat) : Int) : Rat) = tenQ p := rfl
 rw [et] at HW
 have HM := mulF a (tenQ p) (k + 6) (ha.mono (by omega)) ((ten_sz hp).mono (by omega)) (by omega)
 have HN := toID (a * tenQ p) v (k + 6) (ha.mul (ten_sz hp)) (by omega) hv
 have HR := drnd_ok a _ _ (p : Int) v _ _ _ HT HI HW HM HN (decide_eq_false (by omega)) (decide_eq_false (by omega)) (decide_eq_false (by omega)) (decide_eq_false (by omega))
 have hz := toI_d v (ha.mul (ten_sz hp))
 have hpos := tenN_pos p
 have HF := fromF (toI v (a * tenQ p)) (10 ^ p) (by omega) (by omega) (by have := ten_d hp; omega)
 have e : mkRat (toI v (a * tenQ p)) (10 ^ p) = rnd v p a := by unfold rnd; rw [Rat.mkRat_eq_div]; rfl
 rw [e] at HF
 exact dround_ok a _ (p : Int) v _ 0 _ HR HT HF w
theorem intV_00 : intV 0 = .agg #[.int .u64 0, .string ⟨#[]⟩, .bool false] := by
 show Value.agg #[.int .u64 ((zl 0 : Nat) : Int), .string (zh 0), .bool (zs 0)] = _
 rw [z0.1, z0.2.1, z0.2.2]; rfl
theorem roundE (a : Rat) (n v : Int) (hc : rdC n v ≠ 0) (w : World) :
  Calls Tryz.prog 12 #[fracV a, .int .i64 n, .int .i64 v] w fun e w' => e = .returned (.tuple #[fracV 0, .int .i64 (rdC n v)]) ∧ Below w.heap.size w w' := by
 have HR : ∀ w, Calls Tryz.prog 45 #[fracV a, .int .i64 n, .int .i64 v] w fun e w' => e = .returned (.tuple #[intV 0, .int .i64 (rdC n v)]) ∧ Below w.heap.size w w' := by
  intro w
  rw [intV_00]
  unfold rdC at hc ⊢
  by_cases h1 : n < 0
  ·rw [if_pos h1]; exact drnd_neg a n v (decide_eq_true h1) w
  rw [if_neg h1] at hc ⊢
  by_cases h2 : 100 < n
  ·rw [if_pos h2]; exact drnd_big a n v (decide_eq_false h1) (decide_eq_true h2) w
  rw [if_neg h2] at hc ⊢
  by_cases h3 : v < 1
  ·rw [if_pos (.inl h3)]; exact drnd_way0 a n v (decide_eq_false h1) (decide_eq_false h2) (decide_eq_true h3) w
  by_cases h4 : 3 < v
  ·rw [if_pos (.inr h4)]; exact drnd_way4 a n v (decide_eq_false h1) (decide_eq_false h2) (decide_eq_false h3) (decide_eq_true h4) w
  rw [if_neg (by omega)] at hc
  exact absurd rfl hc
 rw [frV_q0']
 exact dround_err a n v 0 (rdC n v) HR (by simpa using hc) w
theorem betweenD (a : Rat) (p : Nat) (k : Nat) (ha : Sz a k) (hk : k ≤ 5000) (hp : p ≤ 100) (w : World) :
  Calls Tryz.prog 26 #[fracV a, .int .i64 (p : Int)] w fun e w' => e = .returned (.tuple #[fracV (rnd 1 p a), fracV (rnd 2 p a), .int .i64 0]) ∧ Below w.heap.size w w' :=
 dbetween_ok a _ _ (p : Int) 0 (roundD a p 1 k ha hk hp (by decide)) (roundD a p 2 k ha hk hp (by decide)) w
end Go.Proofs.YtahfcciihkkegaaGreatDoor
namespace Go.Proofs.YtahfcciihkkegaaGreatDoor
open Go.RowKit
attribute [local irreducible] lo hs sm s64 c64 d64 b64 mh ml pd pc qd qc val hiB str cmpI srD lz nb isq
theorem wbyte_any (B b : Nat) (bs : List Value) (c : Int) (w : World) (h : Lib.IsBuilderF 155 5 B b bs w) (hlen : bs.length + 1 ≤ 140737488355328) (hBw : B ≤ w.heap.size) :
  Calls Tryz.prog 108 #[.pointer (some ⟨b, 0, none⟩), .int .u8 c] w fun e w' => e = .returned .nilIface ∧ (Lib.IsBuilderF 155 5 B b (bs ++ [.int .u8 c]) w' ∧ Below B w w' ∧ Lib.OthersKept 5 (some b) w w') := by
 obtain ⟨i0, hi, hz0, hz1, hz2⟩ := info_parts infoU8
 go_enter Tryz.func108, Tryz.ntmps108
 go_wp2_with (go_at_call 158; refine (check_any B b bs _ h).mono ?_)
 rintro e w1 ⟨rfl, h1, hb1, hk1⟩
 obtain ⟨hB, v, hbk, hown, hne⟩ := h1
 have c0 : w1.cell? ⟨b, 0, none⟩ = some (.pointer (some ⟨b, 0, none⟩)) := by rw [Lib.cell_of_heap hbk]; rfl
 have c1 : w1.cell? ⟨b, 1, none⟩ = some v := by rw [Lib.cell_of_heap hbk]; rfl
 go_wp2_with (at_builtin; refine wpList_append_ownF _ rfl _ _ 153 rfl B 5 i0 (.int .u8 0) 1 1 Tryz.underlying153 hi hz0 hz1 hz2 rfl (by decide) _ _ _ rfl (hown.alloc _) ⟨w1.heap.size, 0, none⟩ 1 1 [.int .u8 c] rfl rfl ?c1 ?c2 ?c3 ?c4 ?c5 ?_)
 case c1 =>
  intro j u hj
  match j, hj with
  | 0, hj => simp at hj; subst hj; simp [Addr.add]
 case c2 => intro u hu; simp at hu; subst hu; rfl
 case c3 => unfold maxLen; omega
 case c4 => omega
 case c5 => have := hb1.size; simp; omega
 intro v' w2 hown' hgrow _
 have hlt : b < w1.heap.size := by
  rcases Nat.lt_or_ge b w1.heap.size with h' | h'
  ·exact h'
  ·simp [Array.getElem?_eq_none h'] at hbk
 have hb2 : w2.heap[b]? = some (.cells #[.pointer (some ⟨b, 0, none⟩), v] 155 (0, 0)) := by
  rw [hgrow.block b (by simp; omega) (fun e => hne e.symm), Lib.alloc_old w1 _ b hlt]
  exact hbk
 have d0 : w2.cell? ⟨b, 0, none⟩ = some (.pointer (some ⟨b, 0, none⟩)) := by rw [Lib.cell_of_heap hb2]; rfl
 have d1 : w2.cell? ⟨b, 1, none⟩ = some v := by rw [Lib.cell_of_heap hb2]; rfl
 have f1 : w2.frozen? ⟨b, 1, none⟩ = false := Lib.frozen_of_heap hb2 1
 obtain ⟨g, cap, rfl⟩ : ∃ g cap, v' = .slice (some ⟨g, 0, none⟩) (bs.length + 1) cap := by
  rcases hown'.2 with ⟨_, h0⟩ | ⟨g, cap, cur, fz, hv, _⟩
  ·omega
  ·exact ⟨g, cap, hv⟩
 go_wp2
 go_ret
 refine ⟨rfl, ?_, ?_, ((hk1.alloc _).grown hgrow (Lib.ownsRowF_kind (hown.alloc _))).setCell ⟨b, 1, none⟩ rfl _⟩
 ·exact .inr (Lib.BuilderAtF.put (T := 155) (e := 5) hB hb2 (bs' := bs ++ [.int .u8 c]) (by simpa using hown') (by decide))
 ·exact ((hb1.alloc (by have := hb1.size; omega) _).grown hgrow (by have := hb1.size; simp; omega) (fun k hk => (hown.lt k hk).1)).setCell (p := ⟨b, 1, none⟩) hB _
theorem kept_below {w0 w w' : World} {b : Nat} (h : Lib.OthersKept 5 (some b) w0 w) (hb : Below w.heap.size w w') : Lib.OthersKept 5 (some b) w0 w' := fun k o hk hkb ho => by
 have h1 := h k o hk hkb ho
 rw [hb.block k (Array.getElem?_eq_some_iff.1 h1).1]; exact h1
theorem wbyte_l (B b : Nat) (l : List UInt8) (c : UInt8) (w : World) (h : Lib.IsBuilderF 155 5 B b (Lib.byteCells l) w) (hlen : l.length + 1 ≤ 140737488355328) (hBw : B ≤ w.heap.size) :
  Calls Tryz.prog 108 #[.pointer (some ⟨b, 0, none⟩), .int .u8 c.toNat] w fun e w' => e = .returned .nilIface ∧ Lib.IsBuilderF 155 5 B b (Lib.byteCells (l ++ [c])) w' ∧ Below B w w' ∧ Lib.OthersKept 5 (some b) w w' := by
 refine (wbyte_any B b (Lib.byteCells l) c.toNat w h (by rw [Lib.byteCells_length]; exact hlen) hBw).mono ?_
 rintro e w' ⟨rfl, h1, h2, h3⟩
 refine ⟨rfl, ?_, h2, h3⟩
 rw [Lib.byteCells_append]; exact h1
theorem wstr_l (B b : Nat) (l m : List UInt8) (w : World) (h : Lib.IsBuilderF 155 5 B b (Lib.byteCells l) w) (hlen : l.length + m.length ≤ 140737488355328) (hBw : B ≤ w.heap.size) :
  Calls Tryz.prog 109 #[.pointer (some ⟨b, 0, none⟩), .string ⟨m.toArray⟩] w fun e w' => e = .returned (.tuple #[.int .i64 m.length, .nilIface]) ∧ Lib.IsBuilderF 155 5 B b (Lib.byteCells (l ++ m)) w' ∧ Below B w w' ∧ Lib.OthersKept 5 (some b) w w' := by
 refine (write_any B b (Lib.byteCells l) ⟨m.toArray⟩ w h (by rw [Lib.byteCells_length]; exact hlen) hBw).mono ?_
 rintro e w' ⟨rfl, h1, h2, h3⟩
 refine ⟨rfl, ?_, h2, h3⟩
 rw [Lib.byteCells_append]; exact h1
end Go.Proofs.YtahfcciihkkegaaGreatDoor
namespace Go.Proofs.YtahfcciihkkegaaGreatDoor
open Go.RowKit
theorem dvd_ten (m t c : Nat) (h0 : 0 < m) : m ∣ t * c ↔ m / Nat.gcd m t ∣ c := by
 have hg : 0 < Nat.gcd m t := Nat.gcd_pos_of_pos_left t h0
 have hm : Nat.gcd m t * (m / Nat.gcd m t) = m := Nat.mul_div_cancel' (Nat.gcd_dvd_left m t)
 have ht : Nat.gcd m t * (t / Nat.gcd m t) = t := Nat.mul_div_cancel' (Nat.gcd_dvd_right m t)
 have hc : Nat.Coprime (m / Nat.gcd m t) (t / Nat.gcd m t) := Nat.coprime_div_gcd_div_gcd hg
 constructor
 ·intro h
  have h1 : Nat.gcd m t * (m / Nat.gcd m t) ∣ Nat.gcd m t * (t / Nat.gcd m t * c) := by
   rw [hm, ← Nat.mul_assoc, ht]; exact h
  exact hc.dvd_of_dvd_mul_left (Nat.dvd_of_mul_dvd_mul_left hg h1)
 ·intro h
  have h1 : Nat.gcd m t * (m / Nat.gcd m t) ∣ t * c := by
   rw [← ht, Nat.mul_assoc]
   rw [ht]
   exact Nat.mul_dvd_mul_left _ (Nat.dvd_mul_left_of_dvd h _)
  rwa [hm] at h1
/-- What is left of a denominator behind n leading digits. -/
def Eden (D : Nat) : Nat → Nat
 | 0 => D
 | n + 1 => Eden D n / Nat.gcd (Eden D n) 10
theorem Eden_pos {D : Nat} (h : 0 < D) : ∀ n, 0 < Eden D n
 | 0 => h
 | n + 1 => Nat.div_pos (Nat.gcd_le_left 10 (Eden_pos h n)) (Nat.gcd_pos_of_pos_left 10 (Eden_pos h n))
theorem Eden_dvd {D : Nat} (h : 0 < D) (n : Nat) : ∀ c, D ∣ 10 ^ n * c ↔ Eden D n ∣ c := by
 induction n with
 | zero => intro c; simp [Eden]
 | succ n ih =>
  intro c
  rw [Nat.pow_succ, Nat.mul_assoc, ih, dvd_ten _ _ _ (Eden_pos h n)]; rfl
theorem Eden_le {D : Nat} : ∀ n, Eden D n ≤ D
 | 0 => Nat.le_refl _
 | n + 1 => Nat.le_trans (Nat.div_le_self _ _) (Eden_le n)
/-- k leading digits: what is left has nothing in common with 10, and not before. -/
structure Lead (D k : Nat) : Prop where
 one : Nat.gcd (Eden D k) 10 = 1
 bef : ∀ i, i < k → Nat.gcd (Eden D i) 10 ≠ 1
theorem Eden_stay {D k : Nat} (h : Nat.gcd (Eden D k) 10 = 1) : ∀ i, Eden D (k + i) = Eden D k
 | 0 => rfl
 | i + 1 => by
  show Eden D (k + i) / Nat.gcd (Eden D (k + i)) 10 = Eden D k
  rw [Eden_stay h i, h, Nat.div_one]
theorem Lead.stay {D k m : Nat} (h : Lead D k) (hm : k ≤ m) : Eden D m = Eden D k := by
 have := Eden_stay h.one (m - k)
 rwa [Nat.add_sub_cancel' hm] at this
theorem Lead.uniq {D k m : Nat} (h : Lead D k) (g : Lead D m) : k = m := by
 rcases Nat.lt_trichotomy k m with h1 | h1 | h1
 ·exact absurd h.one (g.bef k h1)
 ·exact h1
 ·exact absurd g.one (h.bef m h1)
theorem ten_dvd {n : Nat} (h : 0 < n) : 10 ∣ 10 ^ n := by
 obtain ⟨m, rfl⟩ : ∃ m, n = m + 1 := ⟨n - 1, by omega⟩
 rw [Nat.pow_succ]; exact Nat.dvd_mul_left _ _
theorem dvd_nines {e n : Nat} (h : 0 < n) (hd : e ∣ 10 ^ n - 1) : Nat.gcd e 10 = 1 := by
 have h1 : Nat.gcd e 10 ∣ 10 ^ n - 1 := Nat.dvd_trans (Nat.gcd_dvd_left _ _) hd
 have h2 : Nat.gcd e 10 ∣ 10 ^ n := Nat.dvd_trans (Nat.gcd_dvd_right _ _) (ten_dvd h)
 have hp : 0 < 10 ^ n := Nat.pow_pos (by decide)
 have h3 : Nat.gcd e 10 ∣ 10 ^ n - (10 ^ n - 1) := Nat.dvd_sub h2 h1
 have h4 : 10 ^ n - (10 ^ n - 1) = 1 := by omega
 rw [h4] at h3
 exact Nat.dvd_one.1 h3
/-- A number times 10^m times 10^n - 1 is an integer exactly behind the leading digits and for a multiple of the period. -/
theorem Lead.round {D k : Nat} (h0 : 0 < D) (h : Lead D k) (m n : Nat) (hn : 0 < n) : D ∣ 10 ^ m * (10 ^ n - 1) ↔ k ≤ m ∧ Eden D k ∣ 10 ^ n - 1 := by
 rw [Eden_dvd h0]
 constructor
 ·intro hd
  have hk : k ≤ m := by
   rcases Nat.lt_or_ge m k with h1 | h1
   ·exact absurd (dvd_nines hn hd) (h.bef m h1)
   ·exact h1
  rw [h.stay hk] at hd
  exact ⟨hk, hd⟩
 ·rintro ⟨hk, hd⟩
  rw [h.stay hk]; exact hd
theorem Lead.ends {D k : Nat} (h0 : 0 < D) (h : Lead D k) (m : Nat) : D ∣ 10 ^ m ↔ k ≤ m ∧ Eden D k = 1 := by
 have e := Eden_dvd h0 m 1
 rw [Nat.mul_one] at e
 rw [e, Nat.dvd_one]
 constructor
 ·intro hd
  have hk : k ≤ m := by
   rcases Nat.lt_or_ge m k with h1 | h1
   ·exact absurd (by rw [hd]; rfl) (h.bef m h1)
   ·exact h1
  rw [h.stay hk] at hd
  exact ⟨hk, hd⟩
 ·rintro ⟨hk, hd⟩
  rw [h.stay hk]; exact hd
end Go.Proofs.YtahfcciihkkegaaGreatDoor
namespace Go.Proofs.YtahfcciihkkegaaGreatDoor
open Go.RowKit
attribute [local irreducible] lo hs sm s64 c64 d64 b64 mh ml pd pc qd qc val hiB str cmpI srD lz nb isq decB zl zh zs fe
theorem dlead_w (D : Nat) (R : Value)
  (HT : ∀ w, Calls Tryz.prog 52 #[.int .u64 10] w fun xe w' => xe = .returned (natV 10) ∧ Below w.heap.size w w')
  (HO : ∀ w, Calls Tryz.prog 52 #[.int .u64 1] w fun xe w' => xe = .returned (natV 1) ∧ Below w.heap.size w w')
  (hsz : (digs D).length ≤ 1000000) (h1 : ∀ i d : Nat, i ≤ 100 → d = Eden D i → Nat.gcd d 10 = 1 → (∀ j, j < i → Nat.gcd (Eden D j) 10 ≠ 1) → R = .tuple #[.int .i64 (i : Int), natV d]) (h2 : (∀ j, j ≤ 100 → Nat.gcd (Eden D j) 10 ≠ 1) → R = .tuple #[.int .i64 101, natV (Eden D 101)]) (w : World) :
  Calls Tryz.prog 74 #[natV D] w fun xe w' => xe = .returned R ∧ Below w.heap.size w w' := by
 replace HT := Lib.hid HT
 replace HO := Lib.hid HO
 replace hsz := Lib.hid hsz
 replace h1 := Lib.hid h1
 replace h2 := Lib.hid h2
 have hL0 : GL w w [] := GL.start w
 obtain ⟨x1, hweq, hL0⟩ := GL.named ((hL0.new rfl [.int .u64 ((lo D : Nat) : Int), .string (hs D)] 30).new (K := w.heap.size + 1) (szA _ _) [.int .u64 0, .string ⟨#[]⟩] 30)
 go_enter Tryz.func74, Tryz.ntmps74
 go_wp2_with fail
 clear hweq
 go_loopg [6] 101 (fun gk iv wr => ∃ (i d : Nat), i + gk = 101 ∧ iv = .int .i64 (i : Int) ∧ d = Eden D i ∧ (∀ j, j < i → Nat.gcd (Eden D j) 10 ≠ 1) ∧ GL w wr [(w.heap.size + 1, [.int .u64 0, .string ⟨#[]⟩]), (w.heap.size, [.int .u64 ((lo d : Nat) : Int), .string (hs d)])])
 case atStart => exact ⟨0, _, rfl, by first | rfl | go_num, rfl, (fun j h => absurd h (Nat.not_lt_zero _)), hL0⟩
 case round =>
  clear hL0
  obtain ⟨i, d, hik, rfl, hd, hbef, hL0⟩ := hrel
  by_cases hin : i < 101
  ·have k1 : (i : Int) < 101 := by omega
   have kb : (i : Int) ≤ 101 := by omega
   have k0 : (0 : Int) ≤ (i : Int) := by omega
   have hdD : (digs d).length ≤ 1000000 := by rw [hd]; exact Nat.le_trans (digs_mono (Eden_le i)) hsz.out
   have HG := Lib.hid (fun w => gcd_any d 10 (by omega) (Nat.le_trans (digs_length_iff.2 (show 10 < Bs ^ 1 by rw [Nat.pow_one]; unfold Bs; decide)) (by omega)) w)
   obtain ⟨g, hg⟩ : ∃ g, g = Nat.gcd d 10 := ⟨_, rfl⟩
   rw [← hg] at HG
   have hg0 : 0 < g := by rw [hg]; exact Nat.gcd_pos_of_pos_right _ (by decide)
   by_cases hg1 : g = 1
   ·have hR := Lib.hid (h1.out i d (by omega) hd (by rw [← hg, hg1]) hbef)
    subst hg1
    clear hg hd hbef hg0
    go_upto_region 4 with fail
    refine region_gh (by kernel_rfl) (by kernel_rfl) ?_
    refine lex_seg (gl := []) 3 (by kernel_rfl) ?_
    intro α iα F hF1 hF2
    have hq := GL.seg hF1 hL0
    simp only [zC, Nat.reduceAdd] at hq
    simp only [zT]
    repeat (go_big_quiet_step (first | fail | (go_at_call 52; with_reducible exact seg_call hF2 HT.out _) | (go_at_call 136; with_reducible exact seg_call hF2 HG.out _)))
    refine wpQuiet_nil ?_
    clear hq hF1 hF2 iα F α
    refine lex_new [.int .u64 0, .string ⟨#[]⟩] 5 30 30 rfl rfl (of_decide_eq_true (by kernel_rfl)) (by kernel_rfl) rfl new_natc ?_
    simp only [Act.put, zP]
    refine lex_put [.int .u64 ((lo 1 : Nat) : Int), .string (hs 1)] [.int .u64 0, .string ⟨#[]⟩] 5 30 (.tmp 11) rfl (by kernel_rfl) (by simp [toG, upd]) rfl (fun w k h => put_natc _ _ _ _ w k h) ?_
    simp only [Act.put]
    refine lexG_nil ?_
    intro κ x2 hS
    replace hL0 := hL0.ghs hS [(5, [.int .u64 ((lo 1 : Nat) : Int), .string (hs 1)])] (by simp) (by intro p hp; simp only [List.mem_cons, List.not_mem_nil, or_false] at hp; rcases hp with rfl <;> exact ⟨_, by simp only [toG, upd]; rfl⟩)
    simp only [List.map_cons, List.map_nil, List.cons_append, List.nil_append] at hL0
    simp only [over_toG, over_nil, Act.put, zP]
    clear hS
    generalize κ 5 = k2_5 at *
    go_upto_region 5 with fail
    obtain ⟨α, iα, F, hF1, hF2⟩ := cls x2
    have hq0 := cls_box hF1 hL0 _ _ mZ
    simp only [zC, Nat.reduceAdd] at hq0
    refine region_qs 3 (C := fun w' => ∃ x, w' = F x) (by kernel_rfl) (by kernel_rfl) (cls_drew hF2) ?_
    simp only [zT]
    repeat (go_big_quiet_step (first | fail | (go_at_call 52; with_reducible exact cls_call hF1 hF2 HO.out _)))
    refine wpQuiet_nil ?_
    rintro wq ⟨xq, rfl⟩
    replace hL0 := hL0.call (hF1 xq)
    clear  hq0 hF2
    generalize F xq = x3 at hL0 ⊢
    clear hF1 xq iα F α
    go_upto_region 6 with fail
    obtain ⟨α, iα, F, hF1, hF2⟩ := cls x3
    have hq0 := cls_box hF1 hL0 _ _ (mK (mK mZ))
    simp only [zC, Nat.reduceAdd] at hq0
    refine region_qs 3 (C := fun w' => ∃ x, w' = F x) (by kernel_rfl) (by kernel_rfl) (cls_drew hF2) ?_
    simp only [zT]
    repeat (go_big_quiet_step (first | fail))
    refine wpQuiet_nil ?_
    rintro wq ⟨xq, rfl⟩
    replace hL0 := hL0.call (hF1 xq)
    clear  hq0 hF2
    generalize F xq = x4 at hL0 ⊢
    clear hF1 xq iα F α
    have hA := hL0.fc
    simp only [zF, Nat.reduceAdd] at hA
    obtain ⟨x5, hput1, hP⟩ := GL.named (hL0.put 1 (w.heap.size + 1) _ rfl [.int .u64 ((lo d : Nat) : Int), .string (hs d)] rfl)
    simp only [setAll] at hput1
    simp only [List.set_cons_zero, List.set_cons_succ] at hP
    have hB1 := hP.fc
    simp only [zF, Nat.reduceAdd] at hB1
    replace hL0 := hP
    go_wp2_with fail
    exact bodyPost_ret (v := .tuple #[.int .i64 (i : Int), natV d]) (by simp [results, Tryz.results74, go_sem, hB1]) rfl ⟨by rw [hR.out], hL0.bl⟩
   ·have hne := ne_nat hg1
    have HD := Lib.hid (fun w => div_pos d g hg0 (by omega) w)
    have hb2 := Lib.hid (show ∀ j, j < i + 1 → Nat.gcd (Eden D j) 10 ≠ 1 from fun j hj => by
      rcases Nat.lt_or_ge j i with q | q
      ·exact hbef j q
      ·obtain rfl : j = i := by omega
       rw [← hd, ← hg]; exact hg1)
    obtain ⟨e, he⟩ : ∃ e, e = d / g := ⟨_, rfl⟩
    have hnx := Lib.hid (show e = Eden D (i + 1) from by rw [he, hg, hd]; rfl)
    rw [← he] at HD
    obtain ⟨r, hr⟩ : ∃ r, r = d % g := ⟨_, rfl⟩
    rw [← hr] at HD
    clear he hr hg hd hbef hg0 hg1 hdD
    rcases hne with e0 | ⟨e0, e1⟩
    ·have kk : 0 ≤ i := Nat.zero_le _
     go_upto_region 4 with fail
     refine region_gh (by kernel_rfl) (by kernel_rfl) ?_
     refine lex_seg (gl := []) 3 (by kernel_rfl) ?_
     intro α iα F hF1 hF2
     have hq := GL.seg hF1 hL0
     simp only [zC, Nat.reduceAdd] at hq
     simp only [zT]
     repeat (go_big_quiet_step (first | fail | (go_at_call 52; with_reducible exact seg_call hF2 HT.out _) | (go_at_call 136; with_reducible exact seg_call hF2 HG.out _)))
     refine wpQuiet_nil ?_
     clear hq hF1 hF2 iα F α
     refine lex_new [.int .u64 0, .string ⟨#[]⟩] 5 30 30 rfl rfl (of_decide_eq_true (by kernel_rfl)) (by kernel_rfl) rfl new_natc ?_
     simp only [Act.put, zP]
     refine lex_put [.int .u64 ((lo g : Nat) : Int), .string (hs g)] [.int .u64 0, .string ⟨#[]⟩] 5 30 (.tmp 11) rfl (by kernel_rfl) (by simp [toG, upd]) rfl (fun w k h => put_natc _ _ _ _ w k h) ?_
     simp only [Act.put]
     refine lexG_nil ?_
     intro κ x2 hS
     replace hL0 := hL0.ghs hS [(5, [.int .u64 ((lo g : Nat) : Int), .string (hs g)])] (by simp) (by intro p hp; simp only [List.mem_cons, List.not_mem_nil, or_false] at hp; rcases hp with rfl <;> exact ⟨_, by simp only [toG, upd]; rfl⟩)
     simp only [List.map_cons, List.map_nil, List.cons_append, List.nil_append] at hL0
     simp only [over_toG, over_nil, Act.put, zP]
     clear hS
     generalize κ 5 = k2_5 at *
     go_upto_region 5 with fail
     obtain ⟨α, iα, F, hF1, hF2⟩ := cls x2
     have hq0 := cls_box hF1 hL0 _ _ mZ
     simp only [zC, Nat.reduceAdd] at hq0
     refine region_qs 3 (C := fun w' => ∃ x, w' = F x) (by kernel_rfl) (by kernel_rfl) (cls_drew hF2) ?_
     simp only [zT]
     repeat (go_big_quiet_step (first | fail | (go_at_call 52; with_reducible exact cls_call hF1 hF2 HO.out _)))
     refine wpQuiet_nil ?_
     rintro wq ⟨xq, rfl⟩
     replace hL0 := hL0.call (hF1 xq)
     clear  hq0 hF2
     generalize F xq = x3 at hL0 ⊢
     clear hF1 xq iα F α
     have hN0 := cells_of _ 0 [] rfl (hL0.get _ _ mZ)
     simp only [zF, Nat.reduceAdd] at hN0
     have hN1 := cells_of _ 0 [] rfl (hL0.get _ _ (mK (mK mZ)))
     simp only [zF, Nat.reduceAdd] at hN1
     go_wp2_with fail
     clear hN0 hN1
     with_reducible refine Calls.mono (HD.out _) ?_
     rintro e x4 ⟨rfl, hb⟩
     replace hL0 := hL0.call hb
     clear hb
     have hA := hL0.fc
     simp only [zF, Nat.reduceAdd] at hA
     obtain ⟨x5, hput1, hP⟩ := GL.named (hL0.put 2 (w.heap.size) _ rfl [.int .u64 ((lo e : Nat) : Int), .string (hs e)] rfl)
     simp only [setAll] at hput1
     simp only [List.set_cons_zero, List.set_cons_succ] at hP
     have hB1 := hP.fc
     simp only [zF, Nat.reduceAdd] at hB1
     replace hL0 := hP
     go_wp2_with fail
     go_roundg (gk - 1)
     case measure => omega
     case rel => exact ⟨i + 1, e, by omega, by first | rfl | go_num, hnx.out, hb2.out, hL0.weak (List.Sublist.cons _ (List.Sublist.refl _))⟩
    ·have kk : 0 ≤ i := Nat.zero_le _
     go_upto_region 4 with fail
     refine region_gh (by kernel_rfl) (by kernel_rfl) ?_
     refine lex_seg (gl := []) 3 (by kernel_rfl) ?_
     intro α iα F hF1 hF2
     have hq := GL.seg hF1 hL0
     simp only [zC, Nat.reduceAdd] at hq
     simp only [zT]
     repeat (go_big_quiet_step (first | fail | (go_at_call 52; with_reducible exact seg_call hF2 HT.out _) | (go_at_call 136; with_reducible exact seg_call hF2 HG.out _)))
     refine wpQuiet_nil ?_
     clear hq hF1 hF2 iα F α
     refine lex_new [.int .u64 0, .string ⟨#[]⟩] 5 30 30 rfl rfl (of_decide_eq_true (by kernel_rfl)) (by kernel_rfl) rfl new_natc ?_
     simp only [Act.put, zP]
     refine lex_put [.int .u64 ((lo g : Nat) : Int), .string (hs g)] [.int .u64 0, .string ⟨#[]⟩] 5 30 (.tmp 11) rfl (by kernel_rfl) (by simp [toG, upd]) rfl (fun w k h => put_natc _ _ _ _ w k h) ?_
     simp only [Act.put]
     refine lexG_nil ?_
     intro κ x2 hS
     replace hL0 := hL0.ghs hS [(5, [.int .u64 ((lo g : Nat) : Int), .string (hs g)])] (by simp) (by intro p hp; simp only [List.mem_cons, List.not_mem_nil, or_false] at hp; rcases hp with rfl <;> exact ⟨_, by simp only [toG, upd]; rfl⟩)
     simp only [List.map_cons, List.map_nil, List.cons_append, List.nil_append] at hL0
     simp only [over_toG, over_nil, Act.put, zP]
     clear hS
     generalize κ 5 = k2_5 at *
     go_upto_region 5 with fail
     obtain ⟨α, iα, F, hF1, hF2⟩ := cls x2
     have hq0 := cls_box hF1 hL0 _ _ mZ
     simp only [zC, Nat.reduceAdd] at hq0
     refine region_qs 3 (C := fun w' => ∃ x, w' = F x) (by kernel_rfl) (by kernel_rfl) (cls_drew hF2) ?_
     simp only [zT]
     repeat (go_big_quiet_step (first | fail | (go_at_call 52; with_reducible exact cls_call hF1 hF2 HO.out _)))
     refine wpQuiet_nil ?_
     rintro wq ⟨xq, rfl⟩
     replace hL0 := hL0.call (hF1 xq)
     clear  hq0 hF2
     generalize F xq = x3 at hL0 ⊢
     clear hF1 xq iα F α
     have hN0 := cells_of _ 0 [] rfl (hL0.get _ _ mZ)
     simp only [zF, Nat.reduceAdd] at hN0
     have hN1 := cells_of _ 0 [] rfl (hL0.get _ _ (mK (mK mZ)))
     simp only [zF, Nat.reduceAdd] at hN1
     go_wp2_with fail
     clear hN0 hN1
     with_reducible refine Calls.mono (HD.out _) ?_
     rintro e x4 ⟨rfl, hb⟩
     replace hL0 := hL0.call hb
     clear hb
     have hA := hL0.fc
     simp only [zF, Nat.reduceAdd] at hA
     obtain ⟨x5, hput1, hP⟩ := GL.named (hL0.put 2 (w.heap.size) _ rfl [.int .u64 ((lo e : Nat) : Int), .string (hs e)] rfl)
     simp only [setAll] at hput1
     simp only [List.set_cons_zero, List.set_cons_succ] at hP
     have hB1 := hP.fc
     simp only [zF, Nat.reduceAdd] at hB1
     replace hL0 := hP
     go_wp2_with fail
     go_roundg (gk - 1)
     case measure => omega
     case rel => exact ⟨i + 1, e, by omega, by first | rfl | go_num, hnx.out, hb2.out, hL0.weak (List.Sublist.cons _ (List.Sublist.refl _))⟩
  ·obtain rfl : i = 101 := by omega
   have k1 : ¬ ((101 : Nat) : Int) < 101 := by decide
   have hR := Lib.hid (h2.out (fun j hj => hbef j (by omega)))
   rw [← hd] at hR
   clear hd hbef hik
   go_upto_region 9 with fail
   obtain ⟨α, iα, F, hF1, hF2⟩ := cls wr
   have hq0 := cls_box hF1 hL0 _ _ (mK mZ)
   simp only [zC, Nat.reduceAdd] at hq0
   refine region_qs 2 (C := fun w' => ∃ x, w' = F x) (by kernel_rfl) (by kernel_rfl) (cls_drew hF2) ?_
   simp only [zT]
   repeat (go_big_quiet_step (first | fail))
   refine wpQuiet_nil ?_
   rintro wq ⟨xq, rfl⟩
   replace hL0 := hL0.call (hF1 xq)
   clear  hq0 hF2
   generalize F xq = x2 at hL0 ⊢
   clear hF1 xq iα F α
   have hA := hL0.fc
   simp only [zF, Nat.reduceAdd] at hA
   obtain ⟨x3, hput1, hP⟩ := GL.named (hL0.put 0 (w.heap.size + 1) _ rfl [.int .u64 ((lo d : Nat) : Int), .string (hs d)] rfl)
   simp only [setAll] at hput1
   simp only [List.set_cons_zero, List.set_cons_succ] at hP
   have hB1 := hP.fc
   simp only [zF, Nat.reduceAdd] at hB1
   replace hL0 := hP
   go_wp2_with fail
   exact bodyPost_ret (v := .tuple #[.int .i64 101, natV d]) (by simp [results, Tryz.results74, go_sem, hB1]) rfl ⟨by rw [hR.out], hL0.bl⟩
theorem dper_w (d n : Nat) (R : Value)
  (HT : ∀ w, Calls Tryz.prog 52 #[.int .u64 10] w fun xe w' => xe = .returned (natV 10) ∧ Below w.heap.size w w')
  (HO : ∀ w, Calls Tryz.prog 52 #[.int .u64 1] w fun xe w' => xe = .returned (natV 1) ∧ Below w.heap.size w w')
  (hsz : (digs d).length ≤ 1000000) (hd1 : 1 < d) (hn : n ≤ 100) (h1 : ∀ k : Nat, 1 ≤ k → k ≤ n → 10 ^ k % d = 1 → (∀ j, 1 ≤ j → j < k → 10 ^ j % d ≠ 1) → R = .tuple #[.int .i64 (k : Int), .bool true]) (h2 : (∀ j, 1 ≤ j → j ≤ n → 10 ^ j % d ≠ 1) → R = .tuple #[.int .i64 0, .bool false]) (w : World) :
  Calls Tryz.prog 76 #[natV d, .int .i64 (n : Int)] w fun xe w' => xe = .returned R ∧ Below w.heap.size w w' := by
 replace HT := Lib.hid HT
 replace HO := Lib.hid HO
 replace hsz := Lib.hid hsz
 replace hd1 := Lib.hid hd1
 replace hn := Lib.hid hn
 replace h1 := Lib.hid h1
 replace h2 := Lib.hid h2
 have hL0 : GL w w [] := GL.start w
 obtain ⟨x1, hweq, hL0⟩ := GL.named (hL0.new rfl [.int .u64 ((lo d : Nat) : Int), .string (hs d)] 30)
 go_enter Tryz.func76, Tryz.ntmps76
 go_wp2_with fail
 with_reducible refine Calls.mono (HO.out _) ?_
 rintro e x2 ⟨rfl, hb⟩
 replace hL0 := hL0.call hb
 clear hb hweq
 obtain ⟨x3, hweq, hL0⟩ := GL.named (hL0.new rfl [.int .u64 ((lo 1 : Nat) : Int), .string (hs 1)] 30)
 go_wp2_with fail
 clear hweq
 go_loopg [10] n (fun gk iv wr => ∃ (i r : Nat), i + gk = n ∧ iv = .int .i64 (i : Int) ∧ r = 10 ^ i % d ∧ (∀ j, 1 ≤ j → j ≤ i → 10 ^ j % d ≠ 1) ∧ GL w wr [(x2.heap.size, [.int .u64 ((lo r : Nat) : Int), .string (hs r)]), (w.heap.size, [.int .u64 ((lo d : Nat) : Int), .string (hs d)])])
 case atStart => exact ⟨0, 1, Nat.zero_add n, by first | rfl | go_num, by rw [Nat.pow_zero, Nat.mod_eq_of_lt hd1.out], (fun j h1 h2 => by omega), hL0⟩
 case round =>
  clear hL0
  obtain ⟨i, r, hik, rfl, hr, hbef, hL0⟩ := hrel
  by_cases hin : i < n
  ·have k1 : (i : Int) < (n : Int) := by omega
   have kb : (i : Int) ≤ 1000 := by have := hn.out; omega
   have k0 : (0 : Int) ≤ (i : Int) := by omega
   have hrd : r < d := by rw [hr]; exact Nat.mod_lt _ (by have := hd1.out; omega)
   have hrs : (digs r).length ≤ 1000000 := Nat.le_trans (digs_mono (Nat.le_of_lt hrd)) hsz.out
   have h10 : (digs 10).length ≤ 1 := digs_length_iff.2 (by rw [Nat.pow_one]; unfold Bs; decide)
   have HM := Lib.hid (fun w => mul_any r 10 (by omega) (by omega) w)
   have hms : (digs (r * 10)).length ≤ 1000001 := Nat.le_trans (digs_mul_le hrs h10) (by omega)
   obtain ⟨m, hm⟩ : ∃ m, m = r * 10 := ⟨_, rfl⟩
   rw [← hm] at HM hms
   have HD := Lib.hid (fun w => div_pos m d (by have := hd1.out; omega) (by omega) w)
   obtain ⟨q, hq⟩ : ∃ q, q = m / d := ⟨_, rfl⟩
   obtain ⟨t, ht⟩ : ∃ t, t = m % d := ⟨_, rfl⟩
   rw [← hq, ← ht] at HD
   have hnx : t = 10 ^ (i + 1) % d := by rw [ht, hm, hr, Nat.pow_succ, Nat.mod_mul_mod]
   clear hq ht hm hr hrd hrs h10 hms
   by_cases ht1 : t = 1
   ·have hR := Lib.hid (h1.out (i + 1) (by omega) (by omega) (by rw [← hnx, ht1]) (fun j q1 q2 => hbef j q1 (by omega)))
    subst ht1
    clear hnx hbef
    go_upto_region 5 with fail
    obtain ⟨α, iα, F, hF1, hF2⟩ := cls wr
    have hq0 := cls_box hF1 hL0 _ _ mZ
    simp only [zC, Nat.reduceAdd] at hq0
    have hq1 := cls_box hF1 hL0 _ _ (mK mZ)
    simp only [zC, Nat.reduceAdd] at hq1
    refine region_qa 6 (C := fun w' => ∃ x, w' = F x) (by kernel_rfl) (by kernel_rfl) (cls_drew hF2) ?_
    simp only [zT]
    repeat (go_big_quiet_step (first | fail | (go_at_call 52; with_reducible exact cls_call hF1 hF2 HT.out _) | (go_at_call 68; with_reducible exact cls_call hF1 hF2 HM.out _) | (go_at_call 110; with_reducible exact cls_call hF1 hF2 HD.out _)))
    refine wpQuiet_nil ?_
    rintro wq ⟨xq, rfl⟩
    replace hL0 := hL0.call (hF1 xq)
    clear  hq0 hq1 hF2
    generalize F xq = x4 at hL0 ⊢
    clear hF1 xq iα F α
    refine any_pure (i := 6) (m := 3) _ (natV q) rfl rfl (by kernel_rfl) (fun _ _ _ h => h) (fun w => by simp [execOp, go_sem]) ?_
    refine any_pure (i := 7) (m := 2) _ (natV 1) rfl rfl (by kernel_rfl) (fun _ _ _ h => h) (fun w => by simp [execOp, go_sem]) ?_
    refine any_pure (i := 8) (m := 1) _ (.bool true) rfl rfl (by kernel_rfl) (fun _ _ _ h => h) (fun w => by simp [execOp, go_sem]) ?_
    refine any_seq 9 rfl (by kernel_rfl) ?_
    simp only [zT]
    have hA := hL0.fc
    simp only [zF, Nat.reduceAdd] at hA
    obtain ⟨x5, hput1, hP⟩ := GL.named (hL0.put 0 (x2.heap.size) _ rfl [.int .u64 ((lo 1 : Nat) : Int), .string (hs 1)] rfl)
    simp only [setAll] at hput1
    simp only [List.set_cons_zero, List.set_cons_succ] at hP
    have hB1 := hP.fc
    simp only [zF, Nat.reduceAdd] at hB1
    replace hL0 := hP
    go_upto_region 6 with fail
    clear hA
    clear hput1 hB1
    obtain ⟨α, iα, F, hF1, hF2⟩ := cls x5
    have hq0 := cls_box hF1 hL0 _ _ mZ
    simp only [zC, Nat.reduceAdd] at hq0
    refine region_qs 3 (C := fun w' => ∃ x, w' = F x) (by kernel_rfl) (by kernel_rfl) (cls_drew hF2) ?_
    simp only [zT]
    repeat (go_big_quiet_step (first | fail | (go_at_call 52; with_reducible exact cls_call hF1 hF2 HO.out _)))
    refine wpQuiet_nil ?_
    rintro wq ⟨xq, rfl⟩
    replace hL0 := hL0.call (hF1 xq)
    clear  hq0 hF2
    generalize F xq = x6 at hL0 ⊢
    clear hF1 xq iα F α
    go_wp2_with fail
    exact bodyPost_ret (v := .tuple #[.int .i64 ((i : Int) + 1), .bool true]) (by simp [results, Tryz.results76, go_sem]) rfl ⟨by rw [hR.out]; rfl, hL0.bl⟩
   ·have hne := ne_nat ht1
    have hb2 := Lib.hid (show ∀ j, 1 ≤ j → j ≤ i + 1 → 10 ^ j % d ≠ 1 from fun j q1 q2 => by
      rcases Nat.lt_or_ge i j with q | q
      ·obtain rfl : j = i + 1 := by omega
       rw [← hnx]; exact ht1
      ·exact hbef j q1 q)
    replace hnx := Lib.hid hnx
    clear hbef ht1
    rcases hne with e0 | ⟨e0, e1⟩
    ·have kk : 0 ≤ i := Nat.zero_le _
     go_upto_region 5 with fail
     obtain ⟨α, iα, F, hF1, hF2⟩ := cls wr
     have hq0 := cls_box hF1 hL0 _ _ mZ
     simp only [zC, Nat.reduceAdd] at hq0
     have hq1 := cls_box hF1 hL0 _ _ (mK mZ)
     simp only [zC, Nat.reduceAdd] at hq1
     refine region_qa 6 (C := fun w' => ∃ x, w' = F x) (by kernel_rfl) (by kernel_rfl) (cls_drew hF2) ?_
     simp only [zT]
     repeat (go_big_quiet_step (first | fail | (go_at_call 52; with_reducible exact cls_call hF1 hF2 HT.out _) | (go_at_call 68; with_reducible exact cls_call hF1 hF2 HM.out _) | (go_at_call 110; with_reducible exact cls_call hF1 hF2 HD.out _)))
     refine wpQuiet_nil ?_
     rintro wq ⟨xq, rfl⟩
     replace hL0 := hL0.call (hF1 xq)
     clear  hq0 hq1 hF2
     generalize F xq = x4 at hL0 ⊢
     clear hF1 xq iα F α
     refine any_pure (i := 6) (m := 3) _ (natV q) rfl rfl (by kernel_rfl) (fun _ _ _ h => h) (fun w => by simp [execOp, go_sem]) ?_
     refine any_pure (i := 7) (m := 2) _ (natV t) rfl rfl (by kernel_rfl) (fun _ _ _ h => h) (fun w => by simp [execOp, go_sem]) ?_
     refine any_pure (i := 8) (m := 1) _ (.bool true) rfl rfl (by kernel_rfl) (fun _ _ _ h => h) (fun w => by simp [execOp, go_sem]) ?_
     refine any_seq 9 rfl (by kernel_rfl) ?_
     simp only [zT]
     have hA := hL0.fc
     simp only [zF, Nat.reduceAdd] at hA
     obtain ⟨x5, hput1, hP⟩ := GL.named (hL0.put 0 (x2.heap.size) _ rfl [.int .u64 ((lo t : Nat) : Int), .string (hs t)] rfl)
     simp only [setAll] at hput1
     simp only [List.set_cons_zero, List.set_cons_succ] at hP
     have hB1 := hP.fc
     simp only [zF, Nat.reduceAdd] at hB1
     replace hL0 := hP
     go_upto_region 6 with fail
     clear hA
     clear hput1 hB1
     obtain ⟨α, iα, F, hF1, hF2⟩ := cls x5
     have hq0 := cls_box hF1 hL0 _ _ mZ
     simp only [zC, Nat.reduceAdd] at hq0
     refine region_qs 3 (C := fun w' => ∃ x, w' = F x) (by kernel_rfl) (by kernel_rfl) (cls_drew hF2) ?_
     simp only [zT]
     repeat (go_big_quiet_step (first | fail | (go_at_call 52; with_reducible exact cls_call hF1 hF2 HO.out _)))
     refine wpQuiet_nil ?_
     rintro wq ⟨xq, rfl⟩
     replace hL0 := hL0.call (hF1 xq)
     clear  hq0 hF2
     generalize F xq = x6 at hL0 ⊢
     clear hF1 xq iα F α
     go_wp2_with fail
     go_roundg (gk - 1)
     case measure => omega
     case rel => exact ⟨i + 1, t, by omega, by first | rfl | go_num, hnx.out, hb2.out, hL0⟩
    ·have kk : 0 ≤ i := Nat.zero_le _
     go_upto_region 5 with fail
     obtain ⟨α, iα, F, hF1, hF2⟩ := cls wr
     have hq0 := cls_box hF1 hL0 _ _ mZ
     simp only [zC, Nat.reduceAdd] at hq0
     have hq1 := cls_box hF1 hL0 _ _ (mK mZ)
     simp only [zC, Nat.reduceAdd] at hq1
     refine region_qa 6 (C := fun w' => ∃ x, w' = F x) (by kernel_rfl) (by kernel_rfl) (cls_drew hF2) ?_
     simp only [zT]
     repeat (go_big_quiet_step (first | fail | (go_at_call 52; with_reducible exact cls_call hF1 hF2 HT.out _) | (go_at_call 68; with_reducible exact cls_call hF1 hF2 HM.out _) | (go_at_call 110; with_reducible exact cls_call hF1 hF2 HD.out _)))
     refine wpQuiet_nil ?_
     rintro wq ⟨xq, rfl⟩
     replace hL0 := hL0.call (hF1 xq)
     clear  hq0 hq1 hF2
     generalize F xq = x4 at hL0 ⊢
     clear hF1 xq iα F α
     refine any_pure (i := 6) (m := 3) _ (natV q) rfl rfl (by kernel_rfl) (fun _ _ _ h => h) (fun w => by simp [execOp, go_sem]) ?_
     refine any_pure (i := 7) (m := 2) _ (natV t) rfl rfl (by kernel_rfl) (fun _ _ _ h => h) (fun w => by simp [execOp, go_sem]) ?_
     refine any_pure (i := 8) (m := 1) _ (.bool true) rfl rfl (by kernel_rfl) (fun _ _ _ h => h) (fun w => by simp [execOp, go_sem]) ?_
     refine any_seq 9 rfl (by kernel_rfl) ?_
     simp only [zT]
     have hA := hL0.fc
     simp only [zF, Nat.reduceAdd] at hA
     obtain ⟨x5, hput1, hP⟩ := GL.named (hL0.put 0 (x2.heap.size) _ rfl [.int .u64 ((lo t : Nat) : Int), .string (hs t)] rfl)
     simp only [setAll] at hput1
     simp only [List.set_cons_zero, List.set_cons_succ] at hP
     have hB1 := hP.fc
     simp only [zF, Nat.reduceAdd] at hB1
     replace hL0 := hP
     go_upto_region 6 with fail
     clear hA
     clear hput1 hB1
     obtain ⟨α, iα, F, hF1, hF2⟩ := cls x5
     have hq0 := cls_box hF1 hL0 _ _ mZ
     simp only [zC, Nat.reduceAdd] at hq0
     refine region_qs 3 (C := fun w' => ∃ x, w' = F x) (by kernel_rfl) (by kernel_rfl) (cls_drew hF2) ?_
     simp only [zT]
     repeat (go_big_quiet_step (first | fail | (go_at_call 52; with_reducible exact cls_call hF1 hF2 HO.out _)))
     refine wpQuiet_nil ?_
     rintro wq ⟨xq, rfl⟩
     replace hL0 := hL0.call (hF1 xq)
     clear  hq0 hF2
     generalize F xq = x6 at hL0 ⊢
     clear hF1 xq iα F α
     go_wp2_with fail
     go_roundg (gk - 1)
     case measure => omega
     case rel => exact ⟨i + 1, t, by omega, by first | rfl | go_num, hnx.out, hb2.out, hL0⟩
  ·obtain rfl : i = n := by omega
   have k1 : ¬ (i : Int) < (i : Int) := by omega
   have hR := Lib.hid (h2.out hbef)
   clear hr hbef hik
   go_wp2_with fail
   exact bodyPost_ret (v := .tuple #[.int .i64 0, .bool false]) (by simp [results, Tryz.results76, go_sem]) rfl ⟨by rw [hR.out], hL0.bl⟩
theorem dcyc_far (a : Rat) (m d : Nat) (k : Int) (HN : RT 75 #[fracV a] (natV m)) (HL : RT 74 #[natV m] (.tuple #[.int .i64 k, natV d])) (hk : decide (100 < k) = true) (w : World) :
  Calls Tryz.prog 21 #[fracV a] w fun xe w' => xe = .returned (.tuple #[.int .i64 0, .int .i64 0, .int .i64 3]) ∧ Below w.heap.size w w' := by
 have hL0 : GL w w [] := GL.start w
 replace HN := Lib.hid HN
 replace HL := Lib.hid HL
 obtain ⟨x1, hweq, hL0⟩ := GL.named (hL0.new rfl [.int .u64 ((zl a.num : Nat) : Int), .string (zh a.num), .bool (zs a.num), .int .u64 ((lo (fe a) : Nat) : Int), .string (hs (fe a))] 34)
 go_enter Tryz.func21, Tryz.ntmps21
 have hN0 := cells_of _ 0 [] rfl (hL0.get _ _ mZ)
 simp only [zF, Nat.reduceAdd] at hN0
 go_wp2_with fail
 clear hN0
 with_reducible refine Calls.mono (HN.out _) ?_
 rintro e x2 ⟨rfl, hb⟩
 replace hL0 := hL0.call hb
 clear hb hweq
 go_wp2_with fail
 with_reducible refine Calls.mono (HL.out _) ?_
 rintro e x3 ⟨rfl, hb⟩
 replace hL0 := hL0.call hb
 clear hb
 obtain ⟨x4, hweq, hL0⟩ := GL.named (hL0.new rfl [.int .u64 ((lo d : Nat) : Int), .string (hs d)] 30)
 go_wp2_with fail
 exact bodyPost_ret (v := .tuple #[.int .i64 0, .int .i64 0, .int .i64 3]) (by simp [results, Tryz.results21, go_sem]) rfl ⟨rfl, hL0.bl⟩
theorem dcyc_end (a : Rat) (m : Nat) (k : Int) (HN : RT 75 #[fracV a] (natV m)) (HL : RT 74 #[natV m] (.tuple #[.int .i64 k, natV 1])) (HO : RT 52 #[.int .u64 1] (natV 1)) (hk : decide (100 < k) = false) (w : World) :
  Calls Tryz.prog 21 #[fracV a] w fun xe w' => xe = .returned (.tuple #[.int .i64 k, .int .i64 0, .int .i64 0]) ∧ Below w.heap.size w w' := by
 have hL0 : GL w w [] := GL.start w
 replace HN := Lib.hid HN
 replace HL := Lib.hid HL
 replace HO := Lib.hid HO
 obtain ⟨x1, hweq, hL0⟩ := GL.named (hL0.new rfl [.int .u64 ((zl a.num : Nat) : Int), .string (zh a.num), .bool (zs a.num), .int .u64 ((lo (fe a) : Nat) : Int), .string (hs (fe a))] 34)
 go_enter Tryz.func21, Tryz.ntmps21
 have hN0 := cells_of _ 0 [] rfl (hL0.get _ _ mZ)
 simp only [zF, Nat.reduceAdd] at hN0
 go_wp2_with fail
 clear hN0
 with_reducible refine Calls.mono (HN.out _) ?_
 rintro e x2 ⟨rfl, hb⟩
 replace hL0 := hL0.call hb
 clear hb hweq
 go_wp2_with fail
 with_reducible refine Calls.mono (HL.out _) ?_
 rintro e x3 ⟨rfl, hb⟩
 replace hL0 := hL0.call hb
 clear hb
 obtain ⟨x4, hweq, hL0⟩ := GL.named (hL0.new rfl [.int .u64 ((lo 1 : Nat) : Int), .string (hs 1)] 30)
 go_upto_region 4 with fail
 clear hweq
 obtain ⟨α, iα, F, hF1, hF2⟩ := cls x4
 have hq0 := cls_box hF1 hL0 _ _ mZ
 simp only [zC, Nat.reduceAdd] at hq0
 refine region_qs 3 (C := fun w' => ∃ x, w' = F x) (by kernel_rfl) (by kernel_rfl) (cls_drew hF2) ?_
 simp only [zT]
 repeat (go_big_quiet_step (first | fail | (go_at_call 52; with_reducible exact cls_call hF1 hF2 HO.out _)))
 refine wpQuiet_nil ?_
 rintro wq ⟨xq, rfl⟩
 replace hL0 := hL0.call (hF1 xq)
 clear  hq0 hF2
 generalize F xq = x5 at hL0 ⊢
 clear hF1 xq iα F α
 go_wp2_with fail
 exact bodyPost_ret (v := .tuple #[.int .i64 k, .int .i64 0, .int .i64 0]) (by simp [results, Tryz.results21, go_sem]) rfl ⟨rfl, hL0.bl⟩
theorem dcyc_round (a : Rat) (m d : Nat) (k l n : Int) (HN : RT 75 #[fracV a] (natV m)) (HL : RT 74 #[natV m] (.tuple #[.int .i64 k, natV d])) (HO : RT 52 #[.int .u64 1] (natV 1)) (HP : RT 76 #[natV d, .int .i64 l] (.tuple #[.int .i64 n, .bool true])) (hk : decide (100 < k) = false) (hl : IntKind.i64.wrap (100 - k) = l) (hl2 : wrap64 (100 - k) = l) (hd : d ≠ 1) (w : World) :
  Calls Tryz.prog 21 #[fracV a] w fun xe w' => xe = .returned (.tuple #[.int .i64 k, .int .i64 n, .int .i64 0]) ∧ Below w.heap.size w w' := by
 have hL0 : GL w w [] := GL.start w
 replace HN := Lib.hid HN
 replace HL := Lib.hid HL
 replace HO := Lib.hid HO
 replace HP := Lib.hid HP
 have hz := ne_nat hd
 clear hd
 rcases hz with e0 | ⟨e0, e1⟩
 all_goals (
  obtain ⟨x1, hweq, hL0⟩ := GL.named (hL0.new rfl [.int .u64 ((zl a.num : Nat) : Int), .string (zh a.num), .bool (zs a.num), .int .u64 ((lo (fe a) : Nat) : Int), .string (hs (fe a))] 34)
  go_enter Tryz.func21, Tryz.ntmps21
  have hN0 := cells_of _ 0 [] rfl (hL0.get _ _ mZ)
  simp only [zF, Nat.reduceAdd] at hN0
  go_wp2_with fail
  clear hN0
  with_reducible refine Calls.mono (HN.out _) ?_
  rintro e x2 ⟨rfl, hb⟩
  replace hL0 := hL0.call hb
  clear hb hweq
  go_wp2_with fail
  with_reducible refine Calls.mono (HL.out _) ?_
  rintro e x3 ⟨rfl, hb⟩
  replace hL0 := hL0.call hb
  clear hb
  obtain ⟨x4, hweq, hL0⟩ := GL.named (hL0.new rfl [.int .u64 ((lo d : Nat) : Int), .string (hs d)] 30)
  go_upto_region 4 with fail
  clear hweq
  obtain ⟨α, iα, F, hF1, hF2⟩ := cls x4
  have hq0 := cls_box hF1 hL0 _ _ mZ
  simp only [zC, Nat.reduceAdd] at hq0
  refine region_qs 3 (C := fun w' => ∃ x, w' = F x) (by kernel_rfl) (by kernel_rfl) (cls_drew hF2) ?_
  simp only [zT]
  repeat (go_big_quiet_step (first | fail | (go_at_call 52; with_reducible exact cls_call hF1 hF2 HO.out _)))
  refine wpQuiet_nil ?_
  rintro wq ⟨xq, rfl⟩
  replace hL0 := hL0.call (hF1 xq)
  clear  hq0 hF2
  generalize F xq = x5 at hL0 ⊢
  clear hF1 xq iα F α
  have hN0 := cells_of _ 0 [] rfl (hL0.get _ _ mZ)
  simp only [zF, Nat.reduceAdd] at hN0
  go_wp2_with fail
  clear hN0
  with_reducible refine Calls.mono (HP.out _) ?_
  rintro e x6 ⟨rfl, hb⟩
  replace hL0 := hL0.call hb
  clear hb
  go_wp2_with fail
  exact bodyPost_ret (v := .tuple #[.int .i64 k, .int .i64 n, .int .i64 0]) (by simp [results, Tryz.results21, go_sem]) rfl ⟨rfl, hL0.bl⟩)
theorem dcyc_none (a : Rat) (m d : Nat) (k l n : Int) (HN : RT 75 #[fracV a] (natV m)) (HL : RT 74 #[natV m] (.tuple #[.int .i64 k, natV d])) (HO : RT 52 #[.int .u64 1] (natV 1)) (HP : RT 76 #[natV d, .int .i64 l] (.tuple #[.int .i64 n, .bool false])) (hk : decide (100 < k) = false) (hl : IntKind.i64.wrap (100 - k) = l) (hl2 : wrap64 (100 - k) = l) (hd : d ≠ 1) (w : World) :
  Calls Tryz.prog 21 #[fracV a] w fun xe w' => xe = .returned (.tuple #[.int .i64 0, .int .i64 0, .int .i64 3]) ∧ Below w.heap.size w w' := by
 have hL0 : GL w w [] := GL.start w
 replace HN := Lib.hid HN
 replace HL := Lib.hid HL
 replace HO := Lib.hid HO
 replace HP := Lib.hid HP
 have hz := ne_nat hd
 clear hd
 rcases hz with e0 | ⟨e0, e1⟩
 all_goals (
  obtain ⟨x1, hweq, hL0⟩ := GL.named (hL0.new rfl [.int .u64 ((zl a.num : Nat) : Int), .string (zh a.num), .bool (zs a.num), .int .u64 ((lo (fe a) : Nat) : Int), .string (hs (fe a))] 34)
  go_enter Tryz.func21, Tryz.ntmps21
  have hN0 := cells_of _ 0 [] rfl (hL0.get _ _ mZ)
  simp only [zF, Nat.reduceAdd] at hN0
  go_wp2_with fail
  clear hN0
  with_reducible refine Calls.mono (HN.out _) ?_
  rintro e x2 ⟨rfl, hb⟩
  replace hL0 := hL0.call hb
  clear hb hweq
  go_wp2_with fail
  with_reducible refine Calls.mono (HL.out _) ?_
  rintro e x3 ⟨rfl, hb⟩
  replace hL0 := hL0.call hb
  clear hb
  obtain ⟨x4, hweq, hL0⟩ := GL.named (hL0.new rfl [.int .u64 ((lo d : Nat) : Int), .string (hs d)] 30)
  go_upto_region 4 with fail
  clear hweq
  obtain ⟨α, iα, F, hF1, hF2⟩ := cls x4
  have hq0 := cls_box hF1 hL0 _ _ mZ
  simp only [zC, Nat.reduceAdd] at hq0
  refine region_qs 3 (C := fun w' => ∃ x, w' = F x) (by kernel_rfl) (by kernel_rfl) (cls_drew hF2) ?_
  simp only [zT]
  repeat (go_big_quiet_step (first | fail | (go_at_call 52; with_reducible exact cls_call hF1 hF2 HO.out _)))
  refine wpQuiet_nil ?_
  rintro wq ⟨xq, rfl⟩
  replace hL0 := hL0.call (hF1 xq)
  clear  hq0 hF2
  generalize F xq = x5 at hL0 ⊢
  clear hF1 xq iα F α
  have hN0 := cells_of _ 0 [] rfl (hL0.get _ _ mZ)
  simp only [zF, Nat.reduceAdd] at hN0
  go_wp2_with fail
  clear hN0
  with_reducible refine Calls.mono (HP.out _) ?_
  rintro e x6 ⟨rfl, hb⟩
  replace hL0 := hL0.call hb
  clear hb
  go_wp2_with fail
  exact bodyPost_ret (v := .tuple #[.int .i64 0, .int .i64 0, .int .i64 3]) (by simp [results, Tryz.results21, go_sem]) rfl ⟨rfl, hL0.bl⟩)
theorem dcycles_w (a : Rat) (i j k n e : Int) (b : Bool) (HC : RT 21 #[fracV a] (.tuple #[.int .i64 i, .int .i64 j, .int .i64 0])) (w : World) :
  Calls Tryz.prog 44 #[fracV a, .int .i64 i, .int .i64 j] w fun xe w' => xe = .returned (.bool true) ∧ Below w.heap.size w w' := by
 have hL0 : GL w w [] := GL.start w
 replace HC := Lib.hid HC
 obtain ⟨x1, hweq, hL0⟩ := GL.named (hL0.new rfl [.int .u64 ((zl a.num : Nat) : Int), .string (zh a.num), .bool (zs a.num), .int .u64 ((lo (fe a) : Nat) : Int), .string (hs (fe a))] 34)
 go_enter Tryz.func44, Tryz.ntmps44
 have hN0 := cells_of _ 0 [] rfl (hL0.get _ _ mZ)
 simp only [zF, Nat.reduceAdd] at hN0
 go_wp2_with fail
 clear hN0
 with_reducible refine Calls.mono (HC.out _) ?_
 rintro e x2 ⟨rfl, hb⟩
 replace hL0 := hL0.call hb
 clear hb hweq
 go_wp2_with fail
 exact bodyPost_ret (v := .bool true) (by simp [results, Tryz.results44, go_sem]) rfl ⟨rfl, hL0.bl⟩
end Go.Proofs.YtahfcciihkkegaaGreatDoor
namespace Go.Proofs.YtahfcciihkkegaaGreatDoor
open Go.RowKit
attribute [local irreducible] lo hs sm s64 c64 d64 b64 mh ml pd pc qd qc val hiB str cmpI srD lz nb isq txt
/-- The builder at b holds l. -/
def Bd (B b : Nat) (l : List UInt8) (w : World) : Prop := Lib.IsBuilderF 155 5 B b (Lib.byteCells l) w
/-- What writes into the builder leave as it is. -/
def Wr (B b : Nat) (w w' : World) : Prop := Below B w w' ∧ Lib.OthersKept 5 (some b) w w'
theorem Wr.trans {B b : Nat} {u v w : World} (h : Wr B b u v) (k : Wr B b v w) : Wr B b u w := ⟨h.1.trans k.1, h.2.trans k.2⟩
theorem Wr.below {B b : Nat} {u v w : World} (h : Wr B b u v) (hB : B ≤ v.heap.size) (k : Below v.heap.size v w) : Wr B b u w := ⟨h.1.trans (k.mono hB), kept_below h.2 k⟩
theorem Wr.refl (B b : Nat) (w : World) : Wr B b w w := ⟨Below.refl B w, Lib.OthersKept.refl _ _ w⟩
theorem Bd.below {B b : Nat} {l : List UInt8} {w w' : World} (h : Bd B b l w) (hb : Below w.heap.size w w') : Bd B b l w' := bf_below h hb
theorem wb_any (B b : Nat) (l m : List UInt8) (w : World) (h : Bd B b l w) (hm : l ++ [48] = m) (hlen : m.length ≤ 140737488355328) (hBw : B ≤ w.heap.size) :
  Calls Tryz.prog 108 #[.pointer (some ⟨b, 0, none⟩), .int .u8 48] w fun e w' => e = .returned .nilIface ∧ Bd B b m w' ∧ Wr B b w w' := by
 subst hm
 refine (wbyte_l B b l 48 w h (by simpa using hlen) hBw).mono ?_
 rintro e w' ⟨rfl, h1, h2, h3⟩
 exact ⟨rfl, h1, h2, h3⟩
theorem ws_any (B b : Nat) (l m r : List UInt8) (s : ByteArray) (hs : s = ⟨m.toArray⟩) (hr : l ++ m = r) (w : World) (h : Bd B b l w) (hlen : r.length ≤ 140737488355328) (hBw : B ≤ w.heap.size) :
  Calls Tryz.prog 109 #[.pointer (some ⟨b, 0, none⟩), .string s] w fun e w' => (∃ v, e = .returned v) ∧ Bd B b r w' ∧ Wr B b w w' := by
 subst hs; subst hr
 refine (wstr_l B b l m w h (by simpa using hlen) hBw).mono ?_
 rintro e w' ⟨rfl, h1, h2, h3⟩
 exact ⟨⟨_, rfl⟩, h1, h2, h3⟩
theorem txt_size (n : Nat) : (txt n).size = (Lib.decDigits n).length := by unfold txt; simp [ByteArray.size]
theorem not1_any (B b part k : Nat) (l : List UInt8) (hl : (digs part).length ≤ 1000000) (hk : k ≤ 1000) (hll : l.length ≤ 1000000000) (w : World) (hB : Bd B b l w) (htab : Tab w) (hBw : B ≤ w.heap.size) :
  Calls Tryz.prog 107 #[natV part, .int .i64 (k : Int), .pointer (some ⟨b, 0, none⟩)] w fun e w' => e = .returned (.tuple #[]) ∧ Bd B b (l ++ (List.replicate (k - (Lib.decDigits part).length) 48 ++ Lib.decDigits part)) w' ∧ Wr B b w w' := by
 obtain ⟨w0, hw0, hA, hb0, hsz0⟩ := boxes1 w (.int .u64 ((lo part : Nat) : Int)) (.string (hs part)) 30
 obtain ⟨a0, a1, af⟩ := id hA
 have HT := Lib.hid (fun w ht => text_any part hl w ht)
 have hm0 := dec_len_bound hl (by decide)
 have hts := txt_size part
 have HW := Lib.hid (fun (l m r : List UInt8) s hs hr w h h2 h3 => ws_any B b l m r s hs hr w h h2 h3)
 obtain ⟨S, hS⟩ : ∃ S, S = txt part := ⟨_, rfl⟩
 obtain ⟨m, hm⟩ : ∃ m, m = (Lib.decDigits part).length := ⟨_, rfl⟩
 rw [← hS] at HT hts
 rw [← hm] at hts hm0 ⊢
 have hS2 : S = ⟨(Lib.decDigits part).toArray⟩ := by rw [hS]; unfold txt; rfl
 have hB0 := Lib.hid (Bd.below hB hb0)
 have hW0 := Lib.hid ((Wr.refl B b w).below hBw hb0)
 have ht0 := Lib.hid (htab.below hb0)
 replace hS2 := Lib.hid hS2
 replace hm := Lib.hid hm
 have hBw0 : B ≤ w0.heap.size := by omega
 clear hB htab hb0 hl hS
 go_enter Tryz.func107, Tryz.ntmps107
 go_wp2_with fail
 refine (HT.out _ ht0.out).mono ?_
 rintro e w1 ⟨rfl, hb1⟩
 have hB1 := Lib.hid (hB0.out.below hb1)
 have hW1 := Lib.hid (hW0.out.below hBw0 hb1)
 have hBw1 : B ≤ w1.heap.size := by have := hb1.size; omega
 clear a0 a1 af hA ht0 hb1 hB0 hW0
 have q1 : (m : Int) ≤ 1000000000 := by omega
 have q2 : (0 : Int) ≤ (m : Int) := by omega
 have q3 : (k : Int) ≤ 1000 := by omega
 have q4 : (0 : Int) ≤ (k : Int) := by omega
 go_wp2_with fail
 go_loopg [12] (k - m) (fun gk iv wr => ∃ i : Nat, i + gk = k - m ∧ iv = .int .i64 (i : Int) ∧ Bd B b (l ++ List.replicate i 48) wr ∧ Wr B b w wr ∧ B ≤ wr.heap.size)
 case atStart => exact ⟨0, Nat.zero_add _, by first | rfl | go_num, by simpa using hB1.out, hW1.out, hBw1⟩
 case round =>
  clear hB1 hW1 hBw1
  obtain ⟨i, hik, rfl, hBi, hWi, hBwi⟩ := hrel
  replace hBi := Lib.hid hBi
  replace hWi := Lib.hid hWi
  by_cases hin : i < k - m
  ·have k1 : (i : Int) < (k : Int) - (m : Int) := by omega
   have kb : (i : Int) ≤ 1000 := by omega
   have k0 : (0 : Int) ≤ (i : Int) := by omega
   go_wp2_with fail
   refine (wb_any B b _ (l ++ List.replicate (i + 1) 48) _ hBi.out (by rw [List.append_assoc, List.replicate_succ']) (by simp; omega) hBwi).mono ?_
   rintro e w2 ⟨rfl, hB2, hW2⟩
   replace hB2 := Lib.hid hB2
   replace hW2 := Lib.hid (hWi.out.trans hW2)
   go_wp2_with fail
   go_roundg (gk - 1)
   case measure => omega
   case rel => exact ⟨i + 1, by omega, by first | rfl | go_num, hB2.out, hW2.out, by have := hW2.out.1.size; omega⟩
  ·obtain rfl : i = k - m := by omega
   have k1 : ¬ ((k - m : Nat) : Int) < (k : Int) - (m : Int) := by omega
   go_wp2_with fail
   refine (HW.out _ (Lib.decDigits part) _ S hS2.out rfl _ hBi.out (by simp; have := hm.out; omega) hBwi).mono ?_
   rintro e w2 ⟨⟨v, rfl⟩, hB2, hW2⟩
   go_wp2_with fail
   go_end0
   exact ⟨rfl, by rw [← List.append_assoc]; exact hB2, hWi.out.trans hW2⟩
end Go.Proofs.YtahfcciihkkegaaGreatDoor
