/-
  The law answers true at every input, and leaves its arguments as they were: a part of the proof. CONDITIONS: the package-level tables start as the program's text lays them (the card ties them).
-/
import Derived.Test.YtdmoadfnogdfnaaGreatDoorVca
set_option linter.unusedVariables false
set_option linter.unusedSimpArgs false
namespace Go.Proofs.YtdmoadfnogdfnaaGreatDoor.Rx
open Go.RowKit
attribute [local irreducible] tv dg cmpI txt decB nb isq
theorem add_add (a : Addr) (i j : Nat) : (a.add i).add j = a.add (i + j) := by
 unfold Addr.add
 by_cases h : i = 0
 ·subst h; simp
 ·by_cases h2 : j = 0
  ·subst h2; simp [h]
  ·simp [h, h2, Nat.add_assoc]
theorem small_len {k : Nat} (hk : k ≤ 9999) : (td k).length ≤ 1 := td_length.2 (by rw [Nat.pow_one]; omega)
theorem own_one (w : World) (x : Int) : (w.alloc (.cells #[.int .i64 x] 3)).ownsRow w.heap.size 3 1 (.slice (some ⟨w.heap.size, 0, none⟩) 1 1) 1 [.int .i64 x] :=
 ⟨rfl, .inr ⟨w.heap.size, 1, #[.int .i64 x], rfl, Nat.le_refl _, heap_alloc_new w _, Nat.le_refl _, by unfold maxLen; omega, rfl, rfl⟩⟩
theorem slice_from (w : World) (aA : Addr) (L ca i1 : Nat) (h : i1 ≤ L) (hc : L ≤ ca) :
  (Instr.slice 42 (.slice (some aA) L ca) (some (.int .i64 (i1 : Int))) none none).run Tryz.prog w = .ok (.slice (some (if ca = i1 then aA else aA.add i1)) (L - i1) (ca - i1)) w := by
 obtain ⟨i0, hi, hz0, hz1, hz2⟩ := info_parts Tryz.infoI
 have h1 : (0 : Int) ≤ (i1 : Int) := by omega
 have h2 : (i1 : Int) ≤ (L : Int) := by omega
 by_cases hh : ca = i1
 ·simp [Instr.slice, Instr.sliceBounds, run_underlying Tryz.underlying42, run_sliceBound, h1, h2, hh, go_sem] <;> rfl
 ·simp [Instr.slice, Instr.sliceBounds, run_underlying Tryz.underlying42, run_sliceBound, h1, h2, hh, go_sem] <;> rfl
theorem made2 (w : World) (o : Obj) : ((w.alloc o).alloc (.cells #[] 3)).ownsRow (w.heap.size + 1) 3 1 (.slice (some ⟨w.heap.size + 1, 0, none⟩) 0 0) 0 [] := by
 have h := World.ownsRow_made (base := w.heap.size + 1) (e := 3) (size := 1) (w.alloc o) #[] 0 (by rw [World.size_alloc]; exact Nat.le_refl _) (Nat.zero_le _) rfl
 rwa [World.size_alloc] at h
/-- trim leaves the block that its argument looks into. -/
theorem trim_blk (v : Value) (l : List Nat) (hd : ∀ d ∈ l, d < 10000) (hB : l.length < 9223372036854775807) (w : World) (h : Sl w v l) :
  Calls Tryz.prog 168 #[v] w fun e w' => ∃ v', e = .returned v' ∧ Sl w v' (td (tv l)) ∧ v'.ownBlock = v.ownBlock ∧ w = w' := by
 obtain ⟨z, hz⟩ := td_tv hd
 rcases h with ⟨ao, c, rfl, rfl, hc0⟩ | ⟨a, c, rfl, h2, h3⟩
 ·refine (trim_nil ao c w).mono ?_
  rintro e w' ⟨rfl, rfl⟩
  exact ⟨_, rfl, .inl ⟨ao, c, rfl, by rw [tv_nil, td_zero], hc0⟩, rfl, rfl⟩
 ·have hlen : l.length = (td (tv l)).length + z := by
   have := congrArg List.length hz
   rwa [List.length_append, List.length_replicate] at this
  rw [hz] at h3
  rw [hlen] at h2 hB ⊢
  refine (trim_row a c _ z (td (tv l)) rfl h2 hB (fun h => td_last h) w h3).mono ?_
  rintro e w' ⟨rfl, rfl⟩
  exact ⟨_, rfl, .inr ⟨a, c, rfl, by omega, h3.left⟩, rfl, rfl⟩
theorem Sl.set_off {w : World} {v : Value} {l : List Nat} {g k : Nat} {u : Value} (h : Sl w v l) (ho : v.ownBlock ≠ some g) : Sl (w.setCell ⟨g, k, none⟩ u) v l := by
 rcases h with h | ⟨a, c, rfl, h2, h3⟩
 ·exact .inl h
 ·have hne : a.block ≠ g := fun e => ho (by rw [← e]; rfl)
  refine .inr ⟨a, c, rfl, h2, fun i hi => ?_, ?_⟩
  ·rw [← h3.cell i hi]
   exact World.cell?_of_block (by rw [addB]; exact Below.heap_setCell _ _ _ _ hne)
  ·have := h3.blk
   simpa [World.setCell] using this
theorem wpList_append_sl {w : World} {ops : Array Oper} {rest : List Oper} {o : Oper} {a : Act} {Q : Exit → Act → World → Prop} (hgd : o.guard = none) (s x : Operand)
  (ho : o.op = .call { callee := .builtin .append, args := #[s, x], argTypes := #[42, 42] })
  (base : Nat) (v : Value) (n : Nat) (xs : List Value) (hs : a.eval s = v) (hown : w.ownsRow base 3 1 v n xs)
  (v2 : Value) (l : List Nat) (hx : a.eval x = v2) (hsl : Sl w v2 l) (hn : n + l.length ≤ 1000000) (hbase : base ≤ w.heap.size)
  (h : ∀ v' w', w'.ownsRow base 3 1 v' (n + l.length) (xs ++ l.map iv) → w.grownBy w' v.ownBlock → wpList Tryz.prog ops Q rest (a.put o.dst v') w') : wpList Tryz.prog ops Q (o :: rest) a w := by
 obtain ⟨i0, hi, hz0, hz1, hz2⟩ := info_parts Tryz.infoI
 rcases hsl.src with ⟨e, rfl⟩ | ⟨ad, c, e, hnews⟩
 ·rw [e] at hx
  refine wpList_append_own_none hgd s x _ ho base 3 i0 1 Tryz.underlying42 hi v n xs hs hown hx (h v w ?_ ⟨rfl, rfl, rfl, Nat.le_refl _, fun _ _ _ => rfl⟩)
  simpa using hown
 ·rw [e] at hx
  exact wpList_append_own w hgd s x _ ho base 3 i0 (.int .i64 0) 1 8 Tryz.underlying42 hi hz0 hz1 hz2 rfl (by decide) v n xs hs hown ad l.length c (l.map iv) hx (by rw [List.length_map, Nat.mul_one]) hnews
   (fun u hu => by obtain ⟨y, -, rfl⟩ := List.mem_map.1 hu; rfl) (by unfold maxLen; omega) (by omega) hbase fun v' w' h1 h2 _ => h v' w' h1 h2
set_option maxHeartbeats 4000000 in
set_option maxRecDepth 100000 in
theorem rdiv_small (va vb : Value) (a b : Nat) (hab : a < b) (la : (td a).length ≤ 1000) (lb : (td b).length ≤ 1000) (w : World) (ha : Rn w va a) (hb : Rn w vb b) :
  Calls Tryz.prog 111 #[va, vb] w fun e w' => e = .returned (.tuple #[.slice none 0 0, va]) ∧ Below w.heap.size w w' := by
 have C := rcmp_any va vb a b (by omega) (by omega) w ha hb
 rw [cmpI_lt hab] at C
 replace C := Lib.hid C
 clear ha hb hab
 go_enter Tryz.func111, Tryz.ntmps111
 go_wp2_with fail
 with_reducible refine Calls.mono C.out ?_
 rintro e w1 ⟨rfl, hb1⟩
 go_wp2_with fail
 exact bodyPost_ret (v := .tuple #[.slice none 0 0, va]) (by simp [results, Tryz.results111, go_sem]) rfl ⟨rfl, hb1⟩
set_option maxHeartbeats 8000000 in
set_option maxRecDepth 100000 in
theorem rdiv_big (va vb : Value) (a b : Nat) (hab : b ≤ a) (hb0 : 0 < b) (la : (td a).length ≤ 1000) (w : World) (ha : Rn w va a) (hb : Rn w vb b) :
  Calls Tryz.prog 111 #[va, vb] w fun e w' => ∃ v1 v2, e = .returned (.tuple #[v1, v2]) ∧ Rn w' v1 (a / b) ∧ Rn w' v2 (a % b) ∧ Below w.heap.size w w' := by
 obtain ⟨i0, hi, hz0, hz1, hz2⟩ := info_parts Tryz.infoI
 obtain ⟨ao, ca, ea, hva⟩ := ha.view
 obtain ⟨bo, cb, eb⟩ := hb.form
 subst ea eb
 have lb := Nat.le_trans (td_mono hab) la
 have hML := td_mono hab
 obtain ⟨i1, hi1, hst⟩ := DivS.start hab hb0
 have hM0 : 0 < (td b).length := by
  rcases Nat.eq_zero_or_pos (td b).length with h | h
  ·have := td_nil.1 (List.eq_nil_of_length_eq_zero h); omega
  ·exact h
 have hAlt := td_lt a
 obtain ⟨F, hF⟩ : ∃ F, F = (td b).length - 3 := ⟨_, rfl⟩
 have hdrop := td_drop b F
 have ht0 : 0 < b / 10000 ^ F := by
  refine Nat.pos_of_ne_zero fun h => ?_
  rw [h, td_zero] at hdrop
  have := congrArg List.length hdrop
  rw [List.length_drop, List.length_nil] at this
  omega
 have Le := Lib.hid (fun (wx : World) (hh : Rn wx (.slice bo (td b).length cb) b) => rleading_any (.slice bo (td b).length cb) (td b) F (td_lt b) (by omega) (by omega) wx hh)
 rw [hdrop, tv_td] at Le
 have htb : b / 10000 ^ F < 1000000000000 := by
  have h1 : (td (b / 10000 ^ F)).length ≤ 3 := by rw [← hdrop, List.length_drop]; omega
  exact Nat.lt_of_lt_of_le (td_length.1 h1) (by decide)
 have C := Lib.hid (fun (wx : World) (h1 : Rn wx (.slice ao (td a).length ca) a) (h2 : Rn wx (.slice bo (td b).length cb) b) => rcmp_any _ _ a b (by omega) (by omega) wx h1 h2)
 have hcw : decide (cmpI a b < 0) = false := decide_eq_false (by unfold cmpI; split <;> (try split) <;> omega)
 generalize cmpI a b = z at *
 obtain ⟨t, ht⟩ : ∃ t, t = b / 10000 ^ F := ⟨_, rfl⟩
 rw [← ht] at Le ht0 htb
 -- the search for a digit
 have low := fun y => lead_low (y := y) ht
 have high := fun y => lead_high (y := y) ht ht0
 have lead := Lib.hid (fun (v : Value) (y : Nat) (hy : y < 10000 * b) (wx : World) (hv : Rn wx v y) => rleading_any v (td y) F (td_lt y) (by omega) (by
  have h1 : (td y).length ≤ (td b).length + 1 := td_length.2 (by
   have := td_length.1 (Nat.le_refl (td b).length)
   rw [Nat.pow_succ]; omega)
  omega) wx hv)
 have fb : ∀ y, y < 10000 * b → y / 10000 ^ F < 20000000000000000 := fun y hy => by
  have hp : 0 < 10000 ^ F := Nat.pow_pos (by omega)
  have h1 : b < 10000 ^ F * (t + 1) := by
   have := Nat.lt_mul_div_succ b hp
   rwa [← ht] at this
  refine (Nat.div_lt_iff_lt_mul hp).2 ?_
  have h2 : 10000 * b < 10000 * (10000 ^ F * (t + 1)) := Nat.mul_lt_mul_of_pos_left h1 (by omega)
  have h3 : 10000 ^ F * (t + 1) ≤ 10000 ^ F * 1000000000000 := Nat.mul_le_mul_left _ (by omega)
  generalize 10000 ^ F * (t + 1) = p at *
  generalize 10000 ^ F = q at *
  omega
 have MB := Lib.hid (fun (k : Nat) (hk : k ≤ 9999) (vx : Value) (wx : World) (h1 : Rn wx (.slice bo (td b).length cb) b) (h2 : Rn wx vx k) => rmul_any (.slice bo (td b).length cb) vx b k (by omega) (Nat.le_trans (small_len hk) (by omega)) wx h1 h2)
 have hbk : ∀ k, k ≤ 9999 → (td (b * k)).length ≤ 1001 := fun k hk => Nat.le_trans (td_mul_le lb (small_len hk)) (by omega)
 have hyl : ∀ y, y < 10000 * b → (td y).length ≤ 1001 := fun y hy => by
  have h1 : (td y).length ≤ (td b).length + 1 := td_length.2 (by
   have := td_length.1 (Nat.le_refl (td b).length)
   rw [Nat.pow_succ]; omega)
  omega
 have CM := Lib.hid (fun (k : Nat) (hk : k ≤ 9999) (y : Nat) (hy : y < 10000 * b) (vx vy : Value) (wx : World) (h1 : Rn wx vx (b * k)) (h2 : Rn wx vy y) => rcmp_any vx vy (b * k) y (Nat.le_trans (hbk k hk) (by omega)) (Nat.le_trans (hyl y hy) (by omega)) wx h1 h2)
 have SB := Lib.hid (fun (k y : Nat) (hy : y < 10000 * b) (hle : b * k ≤ y) (vx vy : Value) (wx : World) (h1 : Rn wx vy y) (h2 : Rn wx vx (b * k)) => rsub_any vy vx y (b * k) (Nat.le_trans (hyl y hy) (by omega)) hle wx h1 h2)
 have hTR : ∀ (x y r : Nat) (hy : y = x + 10000 * r) (hx : x < 10000) (hyb : y < 10000 * b) (v : Value) (wx : World), Sl wx v (x :: td r) → Calls Tryz.prog 168 #[v] wx fun e w' => ∃ v', e = .returned v' ∧ Rn w' v' y ∧ v'.ownBlock = v.ownBlock ∧ wx = w' := fun x y r hy hx hyb v wx hv => by
  have h1 : tv (x :: td r) = y := by rw [tv_cons, tv_td, hy]
  have h2 : (td r).length ≤ 1001 := Nat.le_trans (td_mono (show r ≤ y by omega)) (hyl y hyb)
  have := trim_blk v (x :: td r) (fun d hd => by
   rcases List.mem_cons.1 hd with rfl | hd
   ·exact hx
   ·exact td_lt r d hd) (by rw [List.length_cons]; omega) wx hv
  rw [h1] at this
  refine Calls.mono this ?_
  rintro e w' ⟨v', rfl, h, h', rfl⟩
  exact ⟨v', rfl, h, h', rfl⟩
 replace hTR := Lib.hid hTR
 clear hbk hyl hdrop ht
 obtain ⟨L, hL⟩ : ∃ L, L = (td a).length := ⟨_, rfl⟩
 obtain ⟨M, hM⟩ : ∃ M, M = (td b).length := ⟨_, rfl⟩
 rw [← hL] at la ha hva C hi1 hML ⊢
 rw [← hM] at lb hb C Le MB hi1 hM0 hF hML ⊢
 obtain ⟨aA, rfl, hca, hsd⟩ := hva (by omega)
 have hsd := Lib.hid hsd
 obtain ⟨ad, had⟩ : ∃ ad, ad = (if ca = i1 then aA else aA.add i1) := ⟨_, rfl⟩
 obtain ⟨r0, hr0⟩ : ∃ r0, r0 = a / 10000 ^ i1 := ⟨_, rfl⟩
 have htr : (td a).drop i1 = td r0 := by rw [hr0, td_drop]
 have hmk : ∀ w, (Instr.makeSlice 42 (.int .i64 (i1 : Int)) (.int .i64 (i1 : Int))).run Tryz.prog w = .ok (.slice (some ⟨w.heap.size, 0, none⟩) i1 i1) (w.alloc (zobjI i1)) :=
  fun w => makeN w _ i1 rfl (by omega)
 have hsf : ∀ w, (Instr.slice 42 (.slice (some aA) L ca) (some (.int .i64 (i1 : Int))) none none).run Tryz.prog w = .ok (.slice (some ad) (L - i1) (ca - i1)) w :=
  fun w => by rw [had]; exact slice_from w aA L ca i1 (by omega) hca
 have hsr : ∀ wx, Below w.heap.size w wx → Sl wx (.slice (some ad) (L - i1) (ca - i1)) (td r0) := by
  intro wx hbx
  have hlr : (td r0).length = L - i1 := by rw [← htr, List.length_drop, ← hL]
  by_cases hz : L = i1
  ·exact .inl ⟨some ad, ca - i1, by rw [hz, Nat.sub_self], List.eq_nil_of_length_eq_zero (by rw [hlr, hz, Nat.sub_self]), fun h => by simp at h⟩
  ·have hne : ca ≠ i1 := by omega
   rw [if_neg hne] at had
   refine .inr ⟨ad, ca - i1, by rw [hlr], by omega, fun j hj => ?_, ?_⟩
   ·have hjl : i1 + j < (td a).length := by omega
    have := (hsd.out.below hbx).cell (i1 + j) hjl
    rw [had, add_add, this]
    congr 3
    simp only [← htr, List.getElem_drop]
   ·rw [had, addB]; exact (hsd.out.below hbx).blk
 have hLM : (L : Int) - (M : Int) + 1 = (i1 : Int) := by omega
 obtain ⟨m1, hm1⟩ : ∃ m1, m1 = L - i1 := ⟨_, rfl⟩
 have hLi : L - i1 = m1 := hm1.symm
 have hm1b : m1 ≤ 1000 := by omega
 have hiL : (i1 : Int) ≤ (L : Int) := by omega
 have hi0 : (1 : Int) ≤ (i1 : Int) := by omega
 have hm1' := Lib.hid (show m1 = L - i1 ∧ i1 + M = L + 1 ∧ M ≤ L from ⟨hm1, hi1, by omega⟩)
 clear hm1
 have hmax : max (0 : Int) ((M : Int) - 3) = (F : Int) := by omega
 replace ha := Lib.hid ha
 replace hb := Lib.hid hb
 have hm1r : (td r0).length = m1 := by rw [← htr, List.length_drop, ← hL, hLi]
 rw [htr, tv_td] at hst
 rw [hLi] at hsr
 replace hst := Lib.hid hst
 replace hsr := Lib.hid hsr
 replace htr := Lib.hid htr
 replace hr0 := Lib.hid hr0
 replace hca := Lib.hid hca
 replace had := Lib.hid had
 clear hva
 replace hL := Lib.hid hL
 replace hM := Lib.hid hM
 replace hAlt := Lib.hid hAlt
 replace low := Lib.hid low
 replace high := Lib.hid high
 replace fb := Lib.hid fb
 have hi1' := Lib.hid hi1
 have hF' := Lib.hid hF
 have k1 : (M : Int) ≤ (L : Int) := by omega
 clear hi1 hF
 go_enter Tryz.func111, Tryz.ntmps111
 go_wp2_with fail
 with_reducible refine Calls.mono (C.out _ ha.out hb.out) ?_
 rintro e w1 ⟨rfl, hb1⟩
 go_wp2_with fail
 with_reducible refine Calls.mono (Le.out _ (hb.out.below hb1)) ?_
 rintro e w2 ⟨rfl, rfl⟩
 have hD0 := ((hb1.alloc hb1.size (zobjI i1)).alloc (by rw [World.size_alloc]; have := hb1.size; omega) (.cells #[] 3))
 have hr0S := Lib.hid (hsr.out _ hD0)
 have hm1r' : 0 + (td r0).length ≤ 1000000 := by omega
 replace hD0 := Lib.hid hD0
 replace hm1r' := Lib.hid hm1r'
 go_wp2_with (at_builtin; refine wpList_append_sl rfl _ _ rfl (w1.heap.size + 1) _ 0 [] rfl (made2 _ _) _ (td r0) rfl hr0S.out hm1r'.out (by simp) ?_)
 intro v2 w2 hown hgrow
 have hB2 : Below (w1.heap.size + 1) (w1.alloc (zobjI i1)) w2 := ((Below.refl _ _).alloc (by rw [World.size_alloc]; exact Nat.le_refl _) _).grown hgrow (by simp [World.size_alloc]) (fun j hj => by simp [Value.ownBlock] at hj; omega)
 have hX0 := (IB.zeros w1 i1).below hB2 (Nat.lt_succ_self _)
 have hgB : w.heap.size ≤ w1.heap.size := hb1.size
 have hD2 := (hb1.alloc hb1.size (zobjI i1)).trans (hB2.mono (Nat.le_trans hgB (Nat.le_succ _)))
 have hR2 : Rn w2 v2 r0 := Sl.owned hown hm1r.symm
 clear hown hgrow hB2 hD0 hr0S hsf hsr hmk hm1r'
 replace hX0 := Lib.hid hX0
 replace hR2 := Lib.hid hR2
 obtain ⟨g, hg⟩ : ∃ g, g = w1.heap.size := ⟨_, rfl⟩
 rw [← hg] at hX0 hgB ⊢
 clear hg
 go_wp2_with fail
 go_loopw [8, 10] (fun zv rv wr => ∃ (j : Nat) (X : List Nat) (r : Nat), zv = .int .i64 ((j : Int) - 1) ∧ j ≤ i1 ∧ X.length = i1 ∧ DivS a b (td a) X j r ∧ IB wr g X ∧ Rn wr rv r ∧ Below w.heap.size w wr) (fun zv _ _ => (intOf zv + 1).toNat)
 case atStart => exact ⟨i1, _, r0, (by rw [show (L : Int) - (M : Int) = (i1 : Int) - 1 by omega]), Nat.le_refl _, List.length_replicate, hst.out, hX0.out, hR2.out, hD2⟩
 case round =>
  obtain ⟨j, X, r, rfl, hj, hXl, hS, hX, hr, hbl⟩ := hrel
  clear hX0 hR2 hst hD2 C Le
  cases j with
  | zero =>
   have HT := trim_any _ X hS.lt (by rw [hXl]; omega) wr (hX.sl i1 (by omega))
   obtain ⟨hq, hrm⟩ := hS.done
   rw [hq, hXl] at HT
   replace HT := Lib.hid HT
   rw [hrm] at hr
   obtain ⟨ro, rc, erv⟩ := hr.form
   subst erv
   replace hr := Lib.hid hr
   clear hS hX hXl hq hrm
   go_wp2_with fail
   with_reducible refine Calls.mono HT.out ?_
   rintro e w3 ⟨v', rfl, hv, rfl⟩
   replace hv := Lib.hid hv
   go_wp2_with fail
   exact bodyPost_ret (v := .tuple #[v', .slice ro (td (a % b)).length rc]) (by simp [results, Tryz.results111, go_sem]) rfl ⟨_, _, rfl, hv.out, hr.out, hbl⟩
  | succ k =>
   have hki : k < i1 := by omega
   have hkL : k < L := by omega
   have e1 : (((k + 1 : Nat) : Int) - 1) = (k : Int) := by omega
   have hxb : dg (td a) k < 10000 := dg_lt hAlt.out k
   have hcell : wr.cell? (aA.add k) = some (.int .i64 ((dg (td a) k : Nat) : Int)) := by
    rw [dg_in (by rw [← hL.out]; exact hkL)]
    exact (hsd.out.below hbl).cell k (by rw [← hL.out]; exact hkL)
   have hkX : k < X.length := by rw [hXl]; exact hki
   obtain ⟨y, hy⟩ : ∃ y, y = dg (td a) k + 10000 * r := ⟨_, rfl⟩
   obtain ⟨hq9, hN⟩ := hS.step hAlt.out hkX hy
   generalize dg (td a) k = x at *
   have hrb := hS.rem
   have hyb : y < 10000 * b := by omega
   have hlr : (td r).length ≤ 1000 := Nat.le_trans (td_mono (Nat.le_of_lt hrb)) (by rw [← hM.out]; exact lb)
   obtain ⟨f, hf⟩ : ∃ f, f = y / 10000 ^ F := ⟨_, rfl⟩
   have hfb : f < 20000000000000000 := by rw [hf]; exact fb.out y hyb
   have LD := Lib.hid (fun (v : Value) (wx : World) (h : Rn wx v y) => lead.out v y hyb wx h)
   rw [td_drop, tv_td, ← hf] at LD
   obtain ⟨l0, hl0⟩ : ∃ l0, l0 = f / (t + 1) := ⟨_, rfl⟩
   obtain ⟨h0, hh0⟩ : ∃ h0, h0 = f / t := ⟨_, rfl⟩
   obtain ⟨h9, hh9⟩ : ∃ h9, h9 = min h0 9999 := ⟨_, rfl⟩
   have m1q : l0 * b ≤ y := by rw [hl0, hf]; exact low.out y
   have m2q : y / b ≤ h0 := by rw [hh0, hf]; exact high.out y
   have m3q : y / b ≤ h9 := by omega
   have m4q : l0 ≤ y / b := (Nat.le_div_iff_mul_le hb0).2 m1q
   have m5q : l0 ≤ h9 := Nat.le_trans m4q m3q
   have m6q : y < b * (h9 + 1) := by
    have := (Nat.div_lt_iff_lt_mul hb0).1 (Nat.lt_succ_of_le m3q)
    rwa [Nat.mul_comm] at this
   have m7q : h9 ≤ 9999 := by omega
   have i1q : (f : Int) / ((t : Int) + 1) = (l0 : Int) := by rw [hl0]; exact (Int.natCast_ediv f (t + 1)).symm
   have i2q : (f : Int) / (t : Int) = (h0 : Int) := by rw [hh0]; exact (Int.natCast_ediv f t).symm
   have i3q : min (h0 : Int) 9999 = (h9 : Int) := by omega
   have h0b : h0 ≤ f := by rw [hh0]; exact Nat.div_le_self _ _
   have hTR1 := Lib.hid (fun v wx h => hTR.out x y r hy hxb hyb v wx h)
   rw [Nat.mul_comm] at m1q
   replace m1q := Lib.hid m1q
   replace m6q := Lib.hid m6q
   replace hN := Lib.hid hN
   replace hy := Lib.hid hy
   replace hq9 := Lib.hid hq9
   replace hr := Lib.hid hr
   replace hkX := Lib.hid hkX
   replace hXl := Lib.hid hXl
   have hcX := hX.cell k hkX.out
   have hfX := hX.frozen k
   replace hX := Lib.hid hX
   replace hyb := Lib.hid hyb
   clear hS m2q m3q m4q hf hl0 hh0 hh9 lead hTR low high fb hrb
   rw [e1]
   have hrA := Lib.hid (hr.out.below ((Below.refl wr.heap.size wr).alloc (Nat.le_refl _) (.cells #[.int .i64 (x : Int)] 3)))
   have hlr1 := Lib.hid (show 1 + (td r).length ≤ 1000000 by omega)
   clear hlr
   go_wp2_with (at_builtin; refine wpList_append_sl rfl _ _ rfl wr.heap.size _ 1 [.int .i64 (x : Int)] rfl (own_one wr x) _ (td r) rfl hrA.out hlr1.out (by simp) ?_)
   intro v3 w3 hown hgrow
   have hs3 := Lib.hid (show Sl w3 v3 (x :: td r) from Sl.owned hown (by rw [List.length_cons, Nat.add_comm]))
   have hB3 : Below wr.heap.size wr w3 := ((Below.refl _ _).alloc (Nat.le_refl _) _).grown hgrow (by simp) (fun j hj => by simp [Value.ownBlock] at hj; omega)
   have hD3 := hbl.trans (hB3.mono hbl.size)
   have hX3 := Lib.hid (hX.out.below hB3 hX.out.lt)
   have ho3 : v3.ownBlock ≠ some g := fun e => by
    have := (hown.lt g e).1
    have := hX.out.lt
    omega
   clear hown hgrow hB3 hX hbl hcX hfX hcell hrA hr hlr1
   go_wp2_with fail
   with_reducible refine Calls.mono (hTR1.out _ _ hs3.out) ?_
   rintro e w4 ⟨v4, rfl, hv4, ho4, rfl⟩
   rw [← ho4] at ho3
   replace ho3 := Lib.hid ho3
   clear ho4
   replace hv4 := Lib.hid hv4
   clear hs3
   go_wp2_with fail
   with_reducible refine Calls.mono (LD.out _ _ hv4.out) ?_
   rintro e w4 ⟨rfl, rfl⟩
   have t1 : ¬ (t : Int) + 1 = 0 := by omega
   have t2 : ¬ (t : Int) = 0 := by omega
   go_wp2_with fail
   go_quiet (fail)
   go_wp2_with fail
   have hX3' := Lib.hid (hX3.out.drewN nq)
   have hD3' := ibdrew hD3 nq
   have hv4' := Lib.hid (show Rn (w3.drewN nq) v4 y from hv4.out.below (ibdrew (Below.refl _ _) nq))
   generalize hW4 : w3.drewN nq = w4 at *
   clear hW4 hX3 hD3 hv4
   go_loopw [12, 13] (fun lv hv wx => ∃ (l h : Nat), lv = .int .i64 (l : Int) ∧ hv = .int .i64 (h : Int) ∧ l ≤ h ∧ h ≤ 9999 ∧ b * l ≤ y ∧ y < b * (h + 1) ∧ IB wx g X ∧ Rn wx v4 y ∧ Below w.heap.size w wx) (fun lv hv _ => (intOf hv - intOf lv).toNat)
   case atStart => exact ⟨l0, h9, rfl, rfl, m5q, m7q, m1q.out, m6q.out, hX3'.out, hv4'.out, hD3'⟩
   case round =>
    obtain ⟨l, h, rfl, rfl, hlh, hh9, hq1, hq2, hXb, hvb, hbl⟩ := hrel
    replace hq1 := Lib.hid hq1
    replace hq2 := Lib.hid hq2
    have hXlt := hXb.lt
    clear hX3' hD3' hv4' m1q m6q m5q m7q i1q i2q i3q h0b hfb t1 t2 LD hTR1
    rcases Nat.lt_or_ge l h with hlt | hge
    ·have k2 : (l : Int) < (h : Int) := by omega
     obtain ⟨mid, hmid⟩ : ∃ mid, mid = (l + h + 1) / 2 := ⟨_, rfl⟩
     have hmv : ((l : Int) + (h : Int) + 1) / 2 = (mid : Int) := by omega
     have hm1 : l < mid := by omega
     have hm2 : mid ≤ h := by omega
     have hm9 : mid ≤ 9999 := by omega
     have hmidy : mid = (mid - 1) + 1 := by omega
     have OF := Lib.hid (fun wx => rof_any mid (by omega) wx)
     have hmB := Lib.hid (fun vx wx h1 h2 => MB.out mid hm9 vx wx h1 h2)
     have hcM := Lib.hid (fun vx wx h1 h2 => CM.out mid hm9 y hyb.out vx v4 wx h1 h2)
     replace hmid := Lib.hid hmid
     replace hmidy := Lib.hid hmidy
     replace hXb := Lib.hid hXb
     replace hvb := Lib.hid hvb
     go_wp2_with fail
     with_reducible refine Calls.mono (OF.out _) ?_
     rintro e w5 ⟨v5, rfl, hv5, hb5⟩
     replace hv5 := Lib.hid hv5
     have B5 := hbl.trans (hb5.mono hbl.size)
     have hvb5 := Lib.hid (hvb.out.below hb5)
     have hX5 := Lib.hid (hXb.out.below hb5 hXb.out.lt)
     clear hb5
     go_wp2_with fail
     with_reducible refine Calls.mono (hmB.out _ _ (hb.out.below B5) hv5.out) ?_
     rintro e w6 ⟨v6, rfl, hv6, hb6⟩
     replace hv6 := Lib.hid hv6
     have B6 := B5.trans (hb6.mono B5.size)
     have hvb6 := Lib.hid (hvb5.out.below hb6)
     have hX6 := Lib.hid (hX5.out.below hb6 hX5.out.lt)
     clear hb6 B5
     by_cases hle : b * mid ≤ y
     ·have k3 : decide (cmpI (b * mid) y ≤ 0) = true := decide_eq_true (by unfold cmpI; split <;> (try split) <;> omega)
      replace hle := Lib.hid hle
      generalize cmpI (b * mid) y = zz at *
      go_wp2_with fail
      with_reducible refine Calls.mono (hcM.out _ _ hv6.out hvb6.out) ?_
      rintro e w7 ⟨rfl, hb7⟩
      have B7 := B6.trans (hb7.mono B6.size)
      have hvb7 := Lib.hid (hvb6.out.below hb7)
      have hX7 := Lib.hid (hX6.out.below hb7 hX6.out.lt)
      clear hb7 B6
      go_wp2_with fail
      go_roundw
      case rel => exact ⟨mid, h, rfl, rfl, hm2, hh9, hle.out, hq2.out, hX7.out, hvb7.out, B7⟩
      case measure => simp [intOf]; omega
     ·have k3 : decide (cmpI (b * mid) y ≤ 0) = false := decide_eq_false (by rw [cmpI_gt (by omega)]; omega)
      replace hle := Lib.hid hle
      generalize cmpI (b * mid) y = zz at *
      go_wp2_with fail
      with_reducible refine Calls.mono (hcM.out _ _ hv6.out hvb6.out) ?_
      rintro e w7 ⟨rfl, hb7⟩
      have B7 := B6.trans (hb7.mono B6.size)
      have hvb7 := Lib.hid (hvb6.out.below hb7)
      have hX7 := Lib.hid (hX6.out.below hb7 hX6.out.lt)
      clear hb7 B6
      go_wp2_with fail
      go_roundw
      case rel => exact ⟨l, mid - 1, rfl, by first | rfl | go_num, by omega, by omega, hq1.out, (by rw [← hmidy.out]; exact Nat.lt_of_not_le hle.out), hX7.out, hvb7.out, B7⟩
      case measure => simp [intOf]; omega
    ·obtain rfl : l = h := by omega
     have k2 : ¬ (l : Int) < (l : Int) := by omega
     have hyd : y / b = l := Nat.div_eq_of_lt_le (by rw [Nat.mul_comm]; exact hq1.out) (by rw [Nat.mul_comm]; exact hq2.out)
     rw [hyd] at hN hq9
     have OF := Lib.hid (fun wx => rof_any l (by omega) wx)
     have hmB := Lib.hid (fun vx wx h1 h2 => MB.out l hh9 vx wx h1 h2)
     have hsB := Lib.hid (fun vx wx h1 h2 => SB.out l y hyb.out hq1.out vx v4 wx h1 h2)
     have hcX := hXb.cell k hkX.out
     have hfX := hXb.frozen k
     have hb1 := hbl.setCell (p := ⟨g, k, none⟩) hgB (.int .i64 (l : Int))
     have hXs := Lib.hid (hXb.set k l)
     have hvs := Lib.hid (Sl.set_off (k := k) (u := .int .i64 (l : Int)) hvb ho3.out)
     replace hXb := Lib.hid hXb
     go_wp2_with fail
     with_reducible refine Calls.mono (OF.out _) ?_
     rintro e w5 ⟨v5, rfl, hv5, hb5⟩
     replace hv5 := Lib.hid hv5
     have B5 := hb1.trans (hb5.mono hb1.size)
     have hvb5 := Lib.hid (hvs.out.below hb5)
     have hX5 := Lib.hid (hXs.out.below hb5 hXs.out.lt)
     clear hb5 hXs hvs hcX hfX hb1
     go_wp2_with fail
     with_reducible refine Calls.mono (hmB.out _ _ (hb.out.below B5) hv5.out) ?_
     rintro e w6 ⟨v6, rfl, hv6, hb6⟩
     replace hv6 := Lib.hid hv6
     have B6 := B5.trans (hb6.mono B5.size)
     have hvb6 := Lib.hid (hvb5.out.below hb6)
     have hX6 := Lib.hid (hX5.out.below hb6 hX5.out.lt)
     clear hb6 B5
     go_wp2_with fail
     with_reducible refine Calls.mono (hsB.out _ _ hvb6.out hv6.out) ?_
     rintro e w7 ⟨v7, rfl, hv7, hb7⟩
     replace hv7 := Lib.hid hv7
     have B7 := B6.trans (hb7.mono B6.size)
     have hX7 := Lib.hid (hX6.out.below hb7 hX6.out.lt)
     clear hb7 B6
     go_wp2_with fail
     go_roundw
     case rel => exact ⟨k, X.set k l, y - b * l, by first | rfl | go_num, by omega, by rw [List.length_set]; exact hXl.out, hN.out, hX7.out, hv7.out, B7⟩
     case measure => simp [intOf]
set_option maxHeartbeats 4000000 in
/-- Div, for b above 0. -/
theorem rdiv_any (va vb : Value) (a b : Nat) (hb0 : 0 < b) (la : (td a).length ≤ 1000) (lb : (td b).length ≤ 1000) (w : World) (ha : Rn w va a) (hb : Rn w vb b) :
  Calls Tryz.prog 111 #[va, vb] w fun e w' => ∃ v1 v2, e = .returned (.tuple #[v1, v2]) ∧ Rn w' v1 (a / b) ∧ Rn w' v2 (a % b) ∧ Below w.heap.size w w' := by
 rcases Nat.lt_or_ge a b with h | h
 ·refine (rdiv_small va vb a b h la lb w ha hb).mono ?_
  rintro e w' ⟨rfl, hbl⟩
  refine ⟨_, _, rfl, ?_, ?_, hbl⟩
  ·rw [Nat.div_eq_of_lt h]
   show Sl w' _ (td 0)
   rw [td_zero]; exact Sl.nil w'
  ·rw [Nat.mod_eq_of_lt h]; exact ha.below hbl
 ·exact rdiv_big va vb a b h hb0 la w ha hb
end Go.Proofs.YtdmoadfnogdfnaaGreatDoor.Rx
namespace Go.Proofs.YtdmoadfnogdfnaaGreatDoor
open Go.RowKit Go.Proofs.YtdmoadfnogdfnaaGreatDoor.Rx
attribute [local irreducible] lo hs sm s64 c64 d64 b64 mh ml pd pc qd qc val hiB str cmpI srD lz nb isq decB zl zh zs dval
theorem td_one : (td 1).length ≤ 1 := by rw [td_length]; omega
theorem one_r (w : World) : Calls Tryz.prog 152 #[.int .u64 1] w fun e w' => ∃ v, e = .returned v ∧ Rn w' v 1 ∧ Below w.heap.size w w' := rof_val 1 1 rfl (by omega) w
theorem rzof_one (w : World) : Calls Tryz.prog 135 #[.int .i64 1] w fun e w' => ∃ v, e = .returned v ∧ RZ w' v 1 ∧ Below w.heap.size w w' :=
 rzof_pos 1 1 1 1 one_r (rz_from false 1 1 rfl rfl) (by decide) (by decide) w
theorem ed_uniq {x y q r : Int} (h0 : y ≠ 0) (h : r + y * q = x) (h1 : 0 ≤ r) (h2 : r < (y.natAbs : Int)) : x / y = q ∧ x % y = r := by
 rcases Int.lt_or_gt_of_ne h0 with hy | hy
 ·have h3 := (Int.ediv_emod_unique (a := x) (b := -y) (q := -q) (r := r) (by omega)).2 ⟨by rw [Int.neg_mul_neg]; exact h, h1, by omega⟩
  rw [Int.ediv_neg, Int.emod_neg] at h3
  exact ⟨by omega, h3.2⟩
 ·exact (Int.ediv_emod_unique hy).2 ⟨h, h1, by omega⟩
/-- The division of integers. -/
theorem rzdivI (x y : Int) (h0 : y ≠ 0) (lx : (Rx.td x.natAbs).length ≤ 1000) (ly : (Rx.td y.natAbs).length ≤ 1000) (v1 v2 : Value) (w : World) (h1 : RZ w v1 x) (h2 : RZ w v2 y) :
  Calls Tryz.prog 46 #[v1, v2] w fun e w' => ∃ a b, e = .returned (.tuple #[a, b]) ∧ RZ w' a (x / y) ∧ RZ w' b (x % y) ∧ Below w.heap.size w w' := by
 have hy : 0 < y.natAbs := by omega
 have HD := fun a b w ha hb => rdiv_any a b x.natAbs y.natAbs hy lx ly w ha hb
 have hm := Nat.mod_lt x.natAbs hy
 have hdm := Nat.div_add_mod x.natAbs y.natAbs
 have lq : (Rx.td (x.natAbs / y.natAbs)).length ≤ 1000 := Nat.le_trans (td_mono (Nat.div_le_self _ _)) lx
 have lm : (Rx.td (x.natAbs % y.natAbs)).length ≤ 1000 := Nat.le_trans (td_mono (Nat.mod_le _ _)) lx
 generalize x.natAbs / y.natAbs = q at *
 generalize x.natAbs % y.natAbs = m at *
 -- the two signed parts
 obtain ⟨u, hu, hub, hul⟩ : ∃ u : Int, (u = if zs x == zs y then (q : Int) else -q) ∧ ((!(zs x == zs y)) && decide (q ≠ 0)) = decide (u < 0) ∧ q = u.natAbs := by
  refine ⟨_, rfl, ?_, ?_⟩
  ·rw [Bool.eq_iff_iff]; cases zs x == zs y <;> simp <;> omega
  ·split <;> simp
 obtain ⟨v, hv, hvb, hvl⟩ : ∃ v : Int, (v = if zs x then -(m : Int) else m) ∧ (zs x && decide (m ≠ 0)) = decide (v < 0) ∧ m = v.natAbs := by
  refine ⟨_, rfl, ?_, ?_⟩
  ·rw [Bool.eq_iff_iff]; cases zs x <;> simp <;> omega
  ·split <;> simp
 have hx : v + y * u = x := by
  have e : (y.natAbs : Int) * (q : Int) + m = (x.natAbs : Int) := by exact_mod_cast hdm
  have zx : zs x = decide (x < 0) := by unfold zs; rfl
  have zy : zs y = decide (y < 0) := by unfold zs; rfl
  rw [hu, hv, zx, zy]
  have ey' : (y.natAbs : Int) = if y < 0 then -y else y := by split <;> omega
  have ex' : (x.natAbs : Int) = if x < 0 then -x else x := by split <;> omega
  rw [ey', ex'] at e
  by_cases ex : x < 0 <;> by_cases ey : y < 0 <;> simp [ex, ey] at e ⊢ <;> grind
 have lu : (Rx.td u.natAbs).length ≤ 1000 := by rw [← hul]; exact lq
 have lv : (Rx.td v.natAbs).length ≤ 1000 := by rw [← hvl]; exact lm
 have HF := fun a w ha => rz_from (!(zs x == zs y)) q u hub hul a w ha
 have HG := fun a w ha => rz_from (zs x) m v hvb hvl a w ha
 have l1 : (Rx.td (1 : Int).natAbs).length ≤ 1000000 := Nat.le_trans td_one (by omega)
 by_cases hv0 : v < 0
 ·have s0 : decide (sgn v < 0) = true := decide_eq_true (by unfold sgn; rw [if_pos hv0]; omega)
  by_cases hy0 : 0 < y
  ·obtain ⟨d1, d2⟩ := ed_uniq (x := x) (q := u - 1) (r := v + y) h0 (by rw [Int.mul_sub, Int.mul_one]; omega) (by omega) (by omega)
   rw [d1, d2]
   exact rzdiv_pos x y u v (sgn v) (sgn y) q m 1 _ _ HD HF HG (rzsignI v) (rzsignI y) (rzof_one) (fun a b w ha hb => rzsubI a b _ _ (by omega) l1 w ha hb) (fun a b w ha hb => rzaddI a b _ _ (by omega) (by omega) w ha hb) s0 (decide_eq_true (by unfold sgn; rw [if_neg (by omega), if_neg (by omega)]; omega)) v1 v2 w h1 h2
  ·obtain ⟨d1, d2⟩ := ed_uniq (x := x) (q := u + 1) (r := v - y) h0 (by rw [Int.mul_add, Int.mul_one]; omega) (by omega) (by omega)
   rw [d1, d2]
   exact rzdiv_neg x y u v (sgn v) (sgn y) q m 1 _ _ HD HF HG (rzsignI v) (rzsignI y) (rzof_one) (fun a b w ha hb => rzaddI a b _ _ (by omega) l1 w ha hb) (fun a b w ha hb => rzsubI a b _ _ (by omega) (by omega) w ha hb) s0 (decide_eq_false (by unfold sgn; rw [if_pos (by omega)]; omega)) v1 v2 w h1 h2
 ·obtain ⟨d1, d2⟩ := ed_uniq (x := x) (q := u) (r := v) h0 hx (by omega) (by omega)
  rw [d1, d2]
  exact rzdiv_plain x y u v (sgn v) 0 q m HD HF HG (rzsignI v) (decide_eq_false (by unfold sgn; rw [if_neg hv0]; split <;> omega)) v1 v2 w h1 h2
end Go.Proofs.YtdmoadfnogdfnaaGreatDoor
namespace Go.Proofs.YtdmoadfnogdfnaaGreatDoor
open Go.RowKit
attribute [local irreducible] lo hs sm s64 c64 d64 b64 mh ml pd pc qd qc val hiB str cmpI srD lz nb isq decB zl zh zs dval
theorem xgcd_dI {a b : Int} {k : Nat} (ha : dI a ≤ k) (hb : dI b ≤ k) : dI (xgcd a b).1 ≤ 1 + k ∧ dI (xgcd a b).2.1 ≤ 1 + (k + 1) ∧ dI (xgcd a b).2.2 ≤ 2 * k + 4 := by
 obtain ⟨G, X, Y, h⟩ := GI.run _ a 1 b 0 (Nat.le_refl _) (GI.start a b)
 obtain ⟨b1, b2, b3, -⟩ := h.bounds ha hb
 obtain ⟨l1, l2⟩ := h.last
 have hs1 : dI (sgn G) ≤ 1 := digs_length_iff.2 (by have : (sgn G).natAbs ≤ 1 := (by unfold sgn; split <;> (try split) <;> omega); unfold Bs; omega)
 have q1 : dI (xgcd a b).1 ≤ 1 + k := by rw [l1]; exact dI_mul hs1 b1
 have q2 : dI (xgcd a b).2.1 ≤ 1 + (k + 1) := by rw [l2]; exact dI_mul hs1 b3
 refine ⟨q1, q2, ?_⟩
 by_cases h0 : b = 0
 ·subst h0; rw [xgcd_zero]; exact Nat.le_trans (show dI (0 : Int) ≤ 1 from dI_lit (by decide)) (by omega)
 ·rw [← xgcd_y h0]
  refine Nat.le_trans (dI_mono (Int.natAbs_ediv_le_natAbs _ _)) ?_
  have q3 : dI (a * (xgcd a b).2.1) ≤ k + (1 + (k + 1)) := dI_mul ha q2
  exact Nat.le_trans (dI_sub (k := 2 * k + 2) (by omega) (by omega)) (by omega)
theorem div_uniq {a b r : Int} (hb : b ≠ 0) (h0 : 0 ≤ r) (h1 : r < b.natAbs) : (a * b + r) / b = a ∧ (a * b + r) % b = r := by
 have e1 : r / b = 0 ∧ r % b = r := by
  rcases Int.lt_trichotomy b 0 with h | h | h
  ·have := Int.ediv_emod_unique (a := r) (b := -b) (q := 0) (r := r) (by omega)
   obtain ⟨t1, t2⟩ := this.2 ⟨by omega, h0, by omega⟩
   rw [Int.ediv_neg] at t1
   rw [Int.emod_neg] at t2
   exact ⟨by omega, t2⟩
  ·exact absurd h hb
  ·exact (Int.ediv_emod_unique h).2 ⟨by omega, h0, by omega⟩
 rw [Int.add_comm]
 exact ⟨by rw [Int.add_mul_ediv_right _ _ hb, e1.1]; omega, by rw [Int.add_mul_emod_self_right]; exact e1.2⟩
set_option maxHeartbeats 16000000 in
set_option maxRecDepth 100000 in
theorem idivides_big (sx sy sz : Bool) (ax ay az : Option Addr) (nx cx ny cy nz cz : Nat) (lx ly lz : List Nat) (h : ¬ (nx ≤ 16 ∧ ny ≤ 16 ∧ nz ≤ 16)) (w : World) (htab : Tab w) (hwx : Ws w (.slice ax nx cx) lx) (hwy : Ws w (.slice ay ny cy) ly) (hwz : Ws w (.slice az nz cz) lz) :
  Calls Tryz.prog 48 #[.agg #[.bool sx, .slice ax nx cx], .agg #[.bool sy, .slice ay ny cy], .agg #[.bool sz, .slice az nz cz]] w fun e w' => e = .returned (.bool true) ∧ Below w.heap.size w w' := by
 have hL0 : GL w w [] := GL.start w
 have HW := Lib.hid (fun w h => zworks_any w h)
 replace hL0 := (((hL0.new rfl [.bool sx, .slice ax nx cx] 36).new (K := w.heap.size + 1) (szA _ _) [.bool sy, .slice ay ny cy] 36).new (K := w.heap.size + 1 + 1) (by simp only [World.size_alloc]) [.bool sz, .slice az nz cz] 36)
 generalize hweq : (((w.alloc (.cells #[.bool sx, .slice ax nx cx] 36)).alloc (.cells #[.bool sy, .slice ay ny cy] 36)).alloc (.cells #[.bool sz, .slice az nz cz] 36)) = x1 at hL0
 go_enter Tryz.func48, Tryz.ntmps48
 have hN0 := cells_of _ 0 [] rfl (hL0.get _ _ (List.mem_cons_of_mem _ (List.mem_cons_of_mem _ List.mem_cons_self)))
 simp only [cellsF, and_true, Nat.zero_add, Nat.reduceAdd] at hN0
 have hN1 := cells_of _ 0 [] rfl (hL0.get _ _ (List.mem_cons_of_mem _ List.mem_cons_self))
 simp only [cellsF, and_true, Nat.zero_add, Nat.reduceAdd] at hN1
 have hN2 := cells_of _ 0 [] rfl (hL0.get _ _ List.mem_cons_self)
 simp only [cellsF, and_true, Nat.zero_add, Nat.reduceAdd] at hN2
 have hG := hL0.new rfl [.bool sx, .slice ax nx cx, .bool sy, .slice ay ny cy, .bool sz, .slice az nz cz] 36
 generalize hbs : x1.alloc (.cells #[.bool sx, .slice ax nx cx, .bool sy, .slice ay ny cy, .bool sz, .slice az nz cz] 36) = x2 at hG
 clear hL0
 have hL0 := hG
 clear hG
 have HFw := few3 16 16 rfl (by omega) (hL0.get _ _ List.mem_cons_self)
 rw [show decide (nx ≤ 16 ∧ ny ≤ 16 ∧ nz ≤ 16) = false from decide_eq_false (by omega)] at HFw
 replace HFw := Lib.hid HFw
 go_wp2_with fail
 clear hN0 hN1 hN2
 with_reducible refine Calls.mono HFw.out ?_
 rintro e x3 ⟨rfl, rfl⟩
 clear HFw hbs hweq
 go_wp2_with fail
 with_reducible refine Calls.mono (HW.out _ (htab.below hL0.bl)) ?_
 rintro e x4 ⟨rfl, hb⟩
 replace hL0 := hL0.call hb
 clear hb
 go_wp2_with fail
 exact bodyPost_ret (v := .bool true) (by simp [results, Tryz.results48, go_sem]) rfl ⟨rfl, hL0.bl⟩
set_option maxHeartbeats 16000000 in
set_option maxRecDepth 100000 in
theorem idivides_zero (sx sy sz : Bool) (ax ay az : Option Addr) (nx cx ny cy nz cz : Nat) (lx ly lz : List Nat) (kx : nx ≤ 16) (ky : ny ≤ 16) (kz : nz ≤ 16) (hb0 : zmade sy ly = 0) (w : World) (htab : Tab w) (hwx : Ws w (.slice ax nx cx) lx) (hwy : Ws w (.slice ay ny cy) ly) (hwz : Ws w (.slice az nz cz) lz) :
  Calls Tryz.prog 48 #[.agg #[.bool sx, .slice ax nx cx], .agg #[.bool sy, .slice ay ny cy], .agg #[.bool sz, .slice az nz cz]] w fun e w' => e = .returned (.bool true) ∧ Below w.heap.size w w' := by
 have hL0 : GL w w [] := GL.start w
 have ex := hwx.len
 have ZX := fun w h => zof_any sx ax nx cx lx (by omega) w h
 have dx : dI (zmade sx lx) ≤ 16 := Nat.le_trans (zmade_dI hwx.lt) (by omega)
 generalize zmade sx lx = a at *
 replace ZX := Lib.hid ZX
 have ey := hwy.len
 have ZY := fun w h => zof_any sy ay ny cy ly (by omega) w h
 have dy : dI (zmade sy ly) ≤ 16 := Nat.le_trans (zmade_dI hwy.lt) (by omega)
 generalize zmade sy ly = b at *
 replace ZY := Lib.hid ZY
 have ez := hwz.len
 have ZZ := fun w h => zof_any sz az nz cz lz (by omega) w h
 have dz : dI (zmade sz lz) ≤ 16 := Nat.le_trans (zmade_dI hwz.lt) (by omega)
 generalize zmade sz lz = c at *
 replace ZZ := Lib.hid ZZ
 obtain ⟨dg, du, dv⟩ := xgcd_dI (k := 16) (by omega : dI a ≤ 16) (by omega : dI b ≤ 16)
 obtain ⟨bz, bg⟩ := xgcd_bez _ a b (Nat.le_refl _)
 have G := fun w => gcdI a b (by omega) (by omega) w
 have dau : dI (a * (xgcd a b).2.1) ≤ 16 + 18 := dI_mul dx du
 have dbv : dI (b * (xgcd a b).2.2) ≤ 16 + 36 := dI_mul dy dv
 have Mau := fun w => mulI a (xgcd a b).2.1 (by omega) (by omega) w
 have Mbv := fun w => mulI b (xgcd a b).2.2 (by omega) (by omega) w
 have Ag := fun w => addI (a * (xgcd a b).2.1) (b * (xgcd a b).2.2) (by omega) (by omega) w
 rw [bz] at Ag
 have Sg := fun w => signI (xgcd a b).1 w
 have Bg := fun w => absI (xgcd a b).1 w
 have Ba := fun w => absI a w
 have Bb := fun w => absI b w
 have egn : (xgcd a b).1.natAbs = Nat.gcd a.natAbs b.natAbs := by rw [bg]; exact Int.natAbs_natCast _
 have Gn := fun w => gcd_any a.natAbs b.natAbs (Nat.le_trans dx (by omega)) (Nat.le_trans dy (by omega)) w
 rw [← egn] at Gn
 have hsg : decide (sgn (xgcd a b).1 < 0) = false := decide_eq_false (by have : 0 ≤ (xgcd a b).1 := (by rw [bg]; omega); unfold sgn; split <;> (try split) <;> omega)
 have Fb := fun w => fromI false b.natAbs (b.natAbs : Int) rfl w
 have D0 := fun w => div0I a w
 rw [← hb0] at D0
 have I0 := fun w => is_eq 0 (by decide) (by decide) w
 rw [show (intV 0) = intV b by rw [hb0]] at I0
 replace bz := Lib.hid bz
 generalize hgg : (xgcd a b).1 = g at *
 generalize (xgcd a b).2.1 = u at *
 generalize (xgcd a b).2.2 = v at *
 clear egn hgg bg bz dg du dv dau dbv
 generalize sgn g = sg at *
 generalize g.natAbs = gn at *
 generalize a.natAbs = an at *
 generalize (b.natAbs : Int) = bi at *
 generalize b.natAbs = bn at *
 generalize a * u = au at *
 generalize b * v = bv at *
 replace G := Lib.hid G
 replace Mau := Lib.hid Mau
 replace Mbv := Lib.hid Mbv
 replace Ag := Lib.hid Ag
 replace Sg := Lib.hid Sg
 replace Bg := Lib.hid Bg
 replace Ba := Lib.hid Ba
 replace Bb := Lib.hid Bb
 replace Gn := Lib.hid Gn
 replace Fb := Lib.hid Fb
 replace D0 := Lib.hid D0
 replace I0 := Lib.hid I0
 have HW := Lib.hid (fun w h => zworks_any w h)
 replace hb0 := Lib.hid hb0
 replace kx := Lib.hid kx
 replace ky := Lib.hid ky
 replace kz := Lib.hid kz
 clear ex dx ey dy ez dz
 replace hL0 := (((hL0.new rfl [.bool sx, .slice ax nx cx] 36).new (K := w.heap.size + 1) (szA _ _) [.bool sy, .slice ay ny cy] 36).new (K := w.heap.size + 1 + 1) (by simp only [World.size_alloc]) [.bool sz, .slice az nz cz] 36)
 generalize hweq : (((w.alloc (.cells #[.bool sx, .slice ax nx cx] 36)).alloc (.cells #[.bool sy, .slice ay ny cy] 36)).alloc (.cells #[.bool sz, .slice az nz cz] 36)) = x1 at hL0
 replace hwx := Lib.hid hwx
 replace hwy := Lib.hid hwy
 replace hwz := Lib.hid hwz
 go_enter Tryz.func48, Tryz.ntmps48
 have kx' := kx.out
 have ky' := ky.out
 have kz' := kz.out
 have hN0 := cells_of _ 0 [] rfl (hL0.get _ _ (List.mem_cons_of_mem _ (List.mem_cons_of_mem _ List.mem_cons_self)))
 simp only [cellsF, and_true, Nat.zero_add, Nat.reduceAdd] at hN0
 have hN1 := cells_of _ 0 [] rfl (hL0.get _ _ (List.mem_cons_of_mem _ List.mem_cons_self))
 simp only [cellsF, and_true, Nat.zero_add, Nat.reduceAdd] at hN1
 have hN2 := cells_of _ 0 [] rfl (hL0.get _ _ List.mem_cons_self)
 simp only [cellsF, and_true, Nat.zero_add, Nat.reduceAdd] at hN2
 have hG := hL0.new rfl [.bool sx, .slice ax nx cx, .bool sy, .slice ay ny cy, .bool sz, .slice az nz cz] 36
 generalize hbs : x1.alloc (.cells #[.bool sx, .slice ax nx cx, .bool sy, .slice ay ny cy, .bool sz, .slice az nz cz] 36) = x2 at hG
 clear hL0
 have hL0 := hG
 clear hG
 have HFw := few3 16 16 rfl (by omega) (hL0.get _ _ List.mem_cons_self)
 rw [show decide (nx ≤ 16 ∧ ny ≤ 16 ∧ nz ≤ 16) = true from decide_eq_true (by omega)] at HFw
 replace HFw := Lib.hid HFw
 go_wp2_with fail
 clear hN0 hN1 hN2
 with_reducible refine Calls.mono HFw.out ?_
 rintro e x3 ⟨rfl, rfl⟩
 clear HFw hbs hweq
 clear kx kx' ky ky' kz kz'
 have hwx1 := hwx.out.below hL0.bl
 have hwy1 := hwy.out.below hL0.bl
 have hwz1 := hwz.out.below hL0.bl
 have hN0 := cells_of _ 0 [] rfl (hL0.get _ _ (List.mem_cons_of_mem _ (List.mem_cons_of_mem _ (List.mem_cons_of_mem _ List.mem_cons_self))))
 simp only [cellsF, and_true, Nat.zero_add, Nat.reduceAdd] at hN0
 have hN1 := cells_of _ 0 [] rfl (hL0.get _ _ (List.mem_cons_of_mem _ (List.mem_cons_of_mem _ List.mem_cons_self)))
 simp only [cellsF, and_true, Nat.zero_add, Nat.reduceAdd] at hN1
 have hN2 := cells_of _ 0 [] rfl (hL0.get _ _ (List.mem_cons_of_mem _ List.mem_cons_self))
 simp only [cellsF, and_true, Nat.zero_add, Nat.reduceAdd] at hN2
 go_upto_region 3 with fail
 clear hN0 hN1 hN2
 refine region_gh (by kernel_rfl) (by kernel_rfl) ?_
 refine lex_seg (gl := []) 6 (by kernel_rfl) ?_
 intro α iα F hF1 hF2
 have hq := GL.seg hF1 hL0
 simp only [fcC, cellsC, and_true, Nat.zero_add, Nat.reduceAdd] at hq
 simp only [List.take_succ_cons, List.take_zero, List.drop_succ_cons, List.drop_zero, List.take_nil, List.drop_nil]
 repeat (go_big_quiet_step (first | fail | (go_at_call 24; with_reducible exact seg_callW hF1 hF2 hwx1 ZX.out _) | (go_at_call 24; with_reducible exact seg_callW hF1 hF2 hwy1 ZY.out _) | (go_at_call 24; with_reducible exact seg_callW hF1 hF2 hwz1 ZZ.out _)))
 refine wpQuiet_nil ?_
 clear hq hF1 hF2 iα F α
 refine lex_new [.int .u64 0, .string ⟨#[]⟩, .bool false] 7 39 39 rfl rfl (of_decide_eq_true (by kernel_rfl)) (by kernel_rfl) rfl new_int ?_
 simp only [Act.put, List.setIfInBounds_toArray, List.set_cons_succ, List.set_cons_zero]
 refine lex_new [.int .u64 0, .string ⟨#[]⟩, .bool false] 8 39 39 rfl rfl (of_decide_eq_true (by kernel_rfl)) (by kernel_rfl) rfl new_int ?_
 simp only [Act.put, List.setIfInBounds_toArray, List.set_cons_succ, List.set_cons_zero]
 refine lex_new [.int .u64 0, .string ⟨#[]⟩, .bool false] 9 39 39 rfl rfl (of_decide_eq_true (by kernel_rfl)) (by kernel_rfl) rfl new_int ?_
 simp only [Act.put, List.setIfInBounds_toArray, List.set_cons_succ, List.set_cons_zero]
 refine lex_put [.int .u64 ((zl a : Nat) : Int), .string (zh a), .bool (zs a)] [.int .u64 0, .string ⟨#[]⟩, .bool false] 7 39 (.tmp 31) rfl (by kernel_rfl) (by simp [toG, upd]) rfl (fun w k h => put_int _ _ _ _ _ _ w k h) ?_
 simp only [Act.put]
 refine lex_put [.int .u64 ((zl b : Nat) : Int), .string (zh b), .bool (zs b)] [.int .u64 0, .string ⟨#[]⟩, .bool false] 8 39 (.tmp 33) rfl (by kernel_rfl) (by simp [toG, upd]) rfl (fun w k h => put_int _ _ _ _ _ _ w k h) ?_
 simp only [Act.put]
 refine lex_put [.int .u64 ((zl c : Nat) : Int), .string (zh c), .bool (zs c)] [.int .u64 0, .string ⟨#[]⟩, .bool false] 9 39 (.tmp 35) rfl (by kernel_rfl) (by simp [toG, upd]) rfl (fun w k h => put_int _ _ _ _ _ _ w k h) ?_
 simp only [Act.put]
 refine lexG_nil ?_
 intro κ x4 hS
 replace hL0 := hL0.ghs hS [(9, [.int .u64 ((zl c : Nat) : Int), .string (zh c), .bool (zs c)]), (8, [.int .u64 ((zl b : Nat) : Int), .string (zh b), .bool (zs b)]), (7, [.int .u64 ((zl a : Nat) : Int), .string (zh a), .bool (zs a)])] (by simp) (by intro p hp; simp only [List.mem_cons, List.not_mem_nil, or_false] at hp; rcases hp with rfl | rfl | rfl <;> exact ⟨_, by simp only [toG, upd]; rfl⟩)
 simp only [List.map_cons, List.map_nil, List.cons_append, List.nil_append] at hL0
 simp only [over_toG, over_nil, Act.put, List.setIfInBounds_toArray, List.set_cons_succ, List.set_cons_zero]
 clear hS
 generalize κ 9 = k4_9 at *
 generalize κ 8 = k4_8 at *
 generalize κ 7 = k4_7 at *
 clear hwx1 hwy1 hwz1 ZX ZY ZZ
 have hN0 := cells_of _ 0 [] rfl (hL0.get _ _ (List.mem_cons_of_mem _ (List.mem_cons_of_mem _ List.mem_cons_self)))
 simp only [cellsF, and_true, Nat.zero_add, Nat.reduceAdd] at hN0
 have hN1 := cells_of _ 0 [] rfl (hL0.get _ _ (List.mem_cons_of_mem _ List.mem_cons_self))
 simp only [cellsF, and_true, Nat.zero_add, Nat.reduceAdd] at hN1
 go_wp2_with fail
 clear hN0 hN1
 with_reducible refine Calls.mono (G.out _) ?_
 rintro e x5 ⟨rfl, hb⟩
 replace hL0 := hL0.call hb
 clear hb
 replace hL0 := (((hL0.new rfl [.int .u64 ((zl g : Nat) : Int), .string (zh g), .bool (zs g)] 39).new (K := x5.heap.size + 1) (szA _ _) [.int .u64 ((zl u : Nat) : Int), .string (zh u), .bool (zs u)] 39).new (K := x5.heap.size + 1 + 1) (by simp only [World.size_alloc]) [.int .u64 ((zl v : Nat) : Int), .string (zh v), .bool (zs v)] 39)
 generalize hweq : (((x5.alloc (.cells #[.int .u64 ((zl g : Nat) : Int), .string (zh g), .bool (zs g)] 39)).alloc (.cells #[.int .u64 ((zl u : Nat) : Int), .string (zh u), .bool (zs u)] 39)).alloc (.cells #[.int .u64 ((zl v : Nat) : Int), .string (zh v), .bool (zs v)] 39)) = x6 at hL0
 go_upto_region 5 with fail
 clear hweq
 obtain ⟨α, iα, F, hF1, hF2⟩ := cls x6
 have hq0 := cls_box hF1 hL0 _ _ (List.mem_cons_of_mem _ (List.mem_cons_of_mem _ (List.mem_cons_of_mem _ (List.mem_cons_of_mem _ (List.mem_cons_of_mem _ List.mem_cons_self)))))
 simp only [cellsC, and_true, Nat.zero_add, Nat.reduceAdd] at hq0
 have hq1 := cls_box hF1 hL0 _ _ (List.mem_cons_of_mem _ (List.mem_cons_of_mem _ (List.mem_cons_of_mem _ (List.mem_cons_of_mem _ List.mem_cons_self))))
 simp only [cellsC, and_true, Nat.zero_add, Nat.reduceAdd] at hq1
 have hq2 := cls_box hF1 hL0 _ _ (List.mem_cons_of_mem _ (List.mem_cons_of_mem _ List.mem_cons_self))
 simp only [cellsC, and_true, Nat.zero_add, Nat.reduceAdd] at hq2
 have hq3 := cls_box hF1 hL0 _ _ (List.mem_cons_of_mem _ List.mem_cons_self)
 simp only [cellsC, and_true, Nat.zero_add, Nat.reduceAdd] at hq3
 have hq4 := cls_box hF1 hL0 _ _ List.mem_cons_self
 simp only [cellsC, and_true, Nat.zero_add, Nat.reduceAdd] at hq4
 refine region_qs 24 (C := fun w' => ∃ x, w' = F x) (by kernel_rfl) (by kernel_rfl) (cls_drew hF2) ?_
 simp only [List.take_succ_cons, List.take_zero, List.drop_succ_cons, List.drop_zero, List.take_nil, List.drop_nil]
 repeat (go_big_quiet_step (first | fail | (go_at_call 32; with_reducible exact cls_call hF1 hF2 Mau.out _) | (go_at_call 32; with_reducible exact cls_call hF1 hF2 Mbv.out _) | (go_at_call 28; with_reducible exact cls_call hF1 hF2 Ag.out _) | (go_at_call 36; with_reducible exact cls_call hF1 hF2 Sg.out _) | (go_at_call 40; with_reducible exact cls_call hF1 hF2 Bg.out _) | (go_at_call 40; with_reducible exact cls_call hF1 hF2 Ba.out _) | (go_at_call 40; with_reducible exact cls_call hF1 hF2 Bb.out _) | (go_at_call 109; with_reducible exact cls_call hF1 hF2 Gn.out _)))
 refine wpQuiet_nil ?_
 rintro wq ⟨xq, rfl⟩
 replace hL0 := hL0.call (hF1 xq)
 clear  hq0 hq1 hq2 hq3 hq4 hF2
 generalize F xq = x7 at hL0 ⊢
 clear hF1 xq iα F α
 have hN0 := cells_of _ 0 [] rfl (hL0.get _ _ (List.mem_cons_of_mem _ (List.mem_cons_of_mem _ (List.mem_cons_of_mem _ (List.mem_cons_of_mem _ List.mem_cons_self)))))
 simp only [cellsF, and_true, Nat.zero_add, Nat.reduceAdd] at hN0
 go_wp2_with fail
 clear hN0
 with_reducible refine Calls.mono (Bb.out _) ?_
 rintro e x8 ⟨rfl, hb⟩
 replace hL0 := hL0.call hb
 clear hb
 go_wp2_with fail
 with_reducible refine Calls.mono (Fb.out _) ?_
 rintro e x9 ⟨rfl, hb⟩
 replace hL0 := hL0.call hb
 clear hb
 replace hL0 := (hL0.new rfl [.int .u64 ((zl bi : Nat) : Int), .string (zh bi), .bool (zs bi)] 39)
 generalize hweq : (x9.alloc (.cells #[.int .u64 ((zl bi : Nat) : Int), .string (zh bi), .bool (zs bi)] 39)) = x10 at hL0
 have hN0 := cells_of _ 0 [] rfl (hL0.get _ _ (List.mem_cons_of_mem _ (List.mem_cons_of_mem _ (List.mem_cons_of_mem _ (List.mem_cons_of_mem _ (List.mem_cons_of_mem _ (List.mem_cons_of_mem _ List.mem_cons_self)))))))
 simp only [cellsF, and_true, Nat.zero_add, Nat.reduceAdd] at hN0
 have hN1 := cells_of _ 0 [] rfl (hL0.get _ _ (List.mem_cons_of_mem _ (List.mem_cons_of_mem _ (List.mem_cons_of_mem _ (List.mem_cons_of_mem _ (List.mem_cons_of_mem _ List.mem_cons_self))))))
 simp only [cellsF, and_true, Nat.zero_add, Nat.reduceAdd] at hN1
 go_wp2_with fail
 clear hN0 hN1
 with_reducible refine Calls.mono (D0.out _) ?_
 rintro e x11 ⟨rfl, hb⟩
 replace hL0 := hL0.call hb
 clear hb hweq
 replace hL0 := ((hL0.new rfl [.int .u64 ((zl b : Nat) : Int), .string (zh b), .bool (zs b)] 39).new (K := x11.heap.size + 1) (szA _ _) [.int .u64 ((zl b : Nat) : Int), .string (zh b), .bool (zs b)] 39)
 generalize hweq : ((x11.alloc (.cells #[.int .u64 ((zl b : Nat) : Int), .string (zh b), .bool (zs b)] 39)).alloc (.cells #[.int .u64 ((zl b : Nat) : Int), .string (zh b), .bool (zs b)] 39)) = x12 at hL0
 have hN0 := cells_of _ 0 [] rfl (hL0.get _ _ (List.mem_cons_of_mem _ (List.mem_cons_of_mem _ (List.mem_cons_of_mem _ (List.mem_cons_of_mem _ (List.mem_cons_of_mem _ (List.mem_cons_of_mem _ (List.mem_cons_of_mem _ List.mem_cons_self))))))))
 simp only [cellsF, and_true, Nat.zero_add, Nat.reduceAdd] at hN0
 go_wp2_with fail
 clear hN0
 with_reducible refine Calls.mono (I0.out _) ?_
 rintro e x13 ⟨rfl, hb⟩
 replace hL0 := hL0.call hb
 clear hb hweq
 go_wp2_with fail
 with_reducible refine Calls.mono (HW.out _ (htab.below hL0.bl)) ?_
 rintro e x14 ⟨rfl, hb⟩
 replace hL0 := hL0.call hb
 clear hb
 go_wp2_with fail
 exact bodyPost_ret (v := .bool true) (by simp [results, Tryz.results48, go_sem]) rfl ⟨rfl, hL0.bl⟩
set_option maxHeartbeats 16000000 in
set_option maxRecDepth 100000 in
theorem idivides_pos (sx sy sz : Bool) (ax ay az : Option Addr) (nx cx ny cy nz cz : Nat) (lx ly lz : List Nat) (kx : nx ≤ 16) (ky : ny ≤ 16) (kz : nz ≤ 16) (hb0 : zmade sy ly ≠ 0) (w : World) (htab : Tab w) (hwx : Ws w (.slice ax nx cx) lx) (hwy : Ws w (.slice ay ny cy) ly) (hwz : Ws w (.slice az nz cz) lz) :
  Calls Tryz.prog 48 #[.agg #[.bool sx, .slice ax nx cx], .agg #[.bool sy, .slice ay ny cy], .agg #[.bool sz, .slice az nz cz]] w fun e w' => e = .returned (.bool true) ∧ Below w.heap.size w w' := by
 have hL0 : GL w w [] := GL.start w
 have ex := hwx.len
 have ZX := fun w h => zof_any sx ax nx cx lx (by omega) w h
 have dx : dI (zmade sx lx) ≤ 16 := Nat.le_trans (zmade_dI hwx.lt) (by omega)
 generalize zmade sx lx = a at *
 replace ZX := Lib.hid ZX
 have ey := hwy.len
 have ZY := fun w h => zof_any sy ay ny cy ly (by omega) w h
 have dy : dI (zmade sy ly) ≤ 16 := Nat.le_trans (zmade_dI hwy.lt) (by omega)
 generalize zmade sy ly = b at *
 replace ZY := Lib.hid ZY
 have ez := hwz.len
 have ZZ := fun w h => zof_any sz az nz cz lz (by omega) w h
 have dz : dI (zmade sz lz) ≤ 16 := Nat.le_trans (zmade_dI hwz.lt) (by omega)
 generalize zmade sz lz = c at *
 replace ZZ := Lib.hid ZZ
 obtain ⟨dg, du, dv⟩ := xgcd_dI (k := 16) (by omega : dI a ≤ 16) (by omega : dI b ≤ 16)
 obtain ⟨bz, bg⟩ := xgcd_bez _ a b (Nat.le_refl _)
 have G := fun w => gcdI a b (by omega) (by omega) w
 have dau : dI (a * (xgcd a b).2.1) ≤ 16 + 18 := dI_mul dx du
 have dbv : dI (b * (xgcd a b).2.2) ≤ 16 + 36 := dI_mul dy dv
 have Mau := fun w => mulI a (xgcd a b).2.1 (by omega) (by omega) w
 have Mbv := fun w => mulI b (xgcd a b).2.2 (by omega) (by omega) w
 have Ag := fun w => addI (a * (xgcd a b).2.1) (b * (xgcd a b).2.2) (by omega) (by omega) w
 rw [bz] at Ag
 have Sg := fun w => signI (xgcd a b).1 w
 have Bg := fun w => absI (xgcd a b).1 w
 have Ba := fun w => absI a w
 have Bb := fun w => absI b w
 have egn : (xgcd a b).1.natAbs = Nat.gcd a.natAbs b.natAbs := by rw [bg]; exact Int.natAbs_natCast _
 have Gn := fun w => gcd_any a.natAbs b.natAbs (Nat.le_trans dx (by omega)) (Nat.le_trans dy (by omega)) w
 rw [← egn] at Gn
 have hsg : decide (sgn (xgcd a b).1 < 0) = false := decide_eq_false (by have : 0 ≤ (xgcd a b).1 := (by rw [bg]; omega); unfold sgn; split <;> (try split) <;> omega)
 have Fb := fun w => fromI false b.natAbs (b.natAbs : Int) rfl w
 have hm0 := Int.emod_nonneg a hb0
 have hm1 := Int.emod_lt a hb0
 have hc0 := Int.emod_nonneg c hb0
 have hc1 := Int.emod_lt c hb0
 have dq0 : dI (a / b) ≤ 16 := Nat.le_trans (dI_mono (Int.natAbs_ediv_le_natAbs _ _)) dx
 have dr0 : dI (a % b) ≤ 16 := Nat.le_trans (dI_mono (by omega)) dy
 have drt : dI (c % b) ≤ 16 := Nat.le_trans (dI_mono (by omega)) dy
 have dqb : dI (a / b * b) ≤ 16 + 16 := dI_mul dq0 dy
 have dab : dI (a * b) ≤ 16 + 16 := dI_mul dx dy
 have ds1 : dI (a * b + c % b) ≤ 32 + 1 := dI_add (by omega) (by omega)
 obtain ⟨un1, un2⟩ := div_uniq (a := a) hb0 hc0 hc1
 have D0 := fun w => divI a b hb0 (by omega) (by omega) w
 have I0 := fun w => is_ne b 0 (by decide) (by decide) hb0 w
 have D1 := fun w => divI c b hb0 (by omega) (by omega) w
 have Mab := fun w => mulI a b (by omega) (by omega) w
 have As := fun w => addI (a * b) (c % b) (by omega) (by omega) w
 have D2 := fun w => divI (a * b + c % b) b hb0 (by omega) (by omega) w
 rw [un1] at D2
 rw [un2] at D2
 have Mqb := fun w => mulI (a / b) b (by omega) (by omega) w
 have Aq := fun w => addI (a / b * b) (a % b) (by omega) (by omega) w
 rw [show a / b * b + a % b = a by rw [Int.mul_comm]; exact Int.mul_ediv_add_emod a b] at Aq
 have Sr := fun w => signI (a % b) w
 have Cr := fun w => cmpII (a % b) (b.natAbs : Int) w
 have hsr : 0 ≤ sgn (a % b) := by unfold sgn; split <;> (try split) <;> omega
 have hsr1 : decide (0 ≤ sgn (a % b)) = true := decide_eq_true hsr
 have hsr2 : decide (sgn (a % b) ≥ 0) = true := decide_eq_true hsr
 have hcr : decide (cmpZ (a % b) (b.natAbs : Int) < 0) = true := decide_eq_true (by unfold cmpZ; rw [if_pos hm1]; omega)
 replace bz := Lib.hid bz
 generalize cmpZ (a % b) (b.natAbs : Int) = ccm at *
 generalize sgn (a % b) = sr at *
 replace hsr := Lib.hid hsr
 clear hm0 hm1 hc0 hc1 un1 un2 dq0 dr0 drt dqb dab ds1
 generalize a * b + c % b = s1 at *
 generalize a * b = ab at *
 generalize a / b * b = qb at *
 generalize a / b = q0 at *
 generalize a % b = r0 at *
 generalize c / b = q1 at *
 generalize c % b = rt at *
 generalize hgg : (xgcd a b).1 = g at *
 generalize (xgcd a b).2.1 = u at *
 generalize (xgcd a b).2.2 = v at *
 clear egn hgg bg bz dg du dv dau dbv
 generalize sgn g = sg at *
 generalize g.natAbs = gn at *
 generalize a.natAbs = an at *
 generalize (b.natAbs : Int) = bi at *
 generalize b.natAbs = bn at *
 generalize a * u = au at *
 generalize b * v = bv at *
 replace G := Lib.hid G
 replace Mau := Lib.hid Mau
 replace Mbv := Lib.hid Mbv
 replace Ag := Lib.hid Ag
 replace Sg := Lib.hid Sg
 replace Bg := Lib.hid Bg
 replace Ba := Lib.hid Ba
 replace Bb := Lib.hid Bb
 replace Gn := Lib.hid Gn
 replace Fb := Lib.hid Fb
 replace D0 := Lib.hid D0
 replace I0 := Lib.hid I0
 replace D1 := Lib.hid D1
 replace Mab := Lib.hid Mab
 replace As := Lib.hid As
 replace D2 := Lib.hid D2
 replace Mqb := Lib.hid Mqb
 replace Aq := Lib.hid Aq
 replace Sr := Lib.hid Sr
 replace Cr := Lib.hid Cr
 have HW := Lib.hid (fun w h => zworks_any w h)
 replace hb0 := Lib.hid hb0
 replace kx := Lib.hid kx
 replace ky := Lib.hid ky
 replace kz := Lib.hid kz
 clear ex dx ey dy ez dz
 replace hL0 := (((hL0.new rfl [.bool sx, .slice ax nx cx] 36).new (K := w.heap.size + 1) (szA _ _) [.bool sy, .slice ay ny cy] 36).new (K := w.heap.size + 1 + 1) (by simp only [World.size_alloc]) [.bool sz, .slice az nz cz] 36)
 generalize hweq : (((w.alloc (.cells #[.bool sx, .slice ax nx cx] 36)).alloc (.cells #[.bool sy, .slice ay ny cy] 36)).alloc (.cells #[.bool sz, .slice az nz cz] 36)) = x1 at hL0
 replace hwx := Lib.hid hwx
 replace hwy := Lib.hid hwy
 replace hwz := Lib.hid hwz
 go_enter Tryz.func48, Tryz.ntmps48
 have kx' := kx.out
 have ky' := ky.out
 have kz' := kz.out
 have hN0 := cells_of _ 0 [] rfl (hL0.get _ _ (List.mem_cons_of_mem _ (List.mem_cons_of_mem _ List.mem_cons_self)))
 simp only [cellsF, and_true, Nat.zero_add, Nat.reduceAdd] at hN0
 have hN1 := cells_of _ 0 [] rfl (hL0.get _ _ (List.mem_cons_of_mem _ List.mem_cons_self))
 simp only [cellsF, and_true, Nat.zero_add, Nat.reduceAdd] at hN1
 have hN2 := cells_of _ 0 [] rfl (hL0.get _ _ List.mem_cons_self)
 simp only [cellsF, and_true, Nat.zero_add, Nat.reduceAdd] at hN2
 have hG := hL0.new rfl [.bool sx, .slice ax nx cx, .bool sy, .slice ay ny cy, .bool sz, .slice az nz cz] 36
 generalize hbs : x1.alloc (.cells #[.bool sx, .slice ax nx cx, .bool sy, .slice ay ny cy, .bool sz, .slice az nz cz] 36) = x2 at hG
 clear hL0
 have hL0 := hG
 clear hG
 have HFw := few3 16 16 rfl (by omega) (hL0.get _ _ List.mem_cons_self)
 rw [show decide (nx ≤ 16 ∧ ny ≤ 16 ∧ nz ≤ 16) = true from decide_eq_true (by omega)] at HFw
 replace HFw := Lib.hid HFw
 go_wp2_with fail
 clear hN0 hN1 hN2
 with_reducible refine Calls.mono HFw.out ?_
 rintro e x3 ⟨rfl, rfl⟩
 clear HFw hbs hweq
 clear kx kx' ky ky' kz kz'
 have hwx1 := hwx.out.below hL0.bl
 have hwy1 := hwy.out.below hL0.bl
 have hwz1 := hwz.out.below hL0.bl
 have hN0 := cells_of _ 0 [] rfl (hL0.get _ _ (List.mem_cons_of_mem _ (List.mem_cons_of_mem _ (List.mem_cons_of_mem _ List.mem_cons_self))))
 simp only [cellsF, and_true, Nat.zero_add, Nat.reduceAdd] at hN0
 have hN1 := cells_of _ 0 [] rfl (hL0.get _ _ (List.mem_cons_of_mem _ (List.mem_cons_of_mem _ List.mem_cons_self)))
 simp only [cellsF, and_true, Nat.zero_add, Nat.reduceAdd] at hN1
 have hN2 := cells_of _ 0 [] rfl (hL0.get _ _ (List.mem_cons_of_mem _ List.mem_cons_self))
 simp only [cellsF, and_true, Nat.zero_add, Nat.reduceAdd] at hN2
 go_upto_region 3 with fail
 clear hN0 hN1 hN2
 refine region_gh (by kernel_rfl) (by kernel_rfl) ?_
 refine lex_seg (gl := []) 6 (by kernel_rfl) ?_
 intro α iα F hF1 hF2
 have hq := GL.seg hF1 hL0
 simp only [fcC, cellsC, and_true, Nat.zero_add, Nat.reduceAdd] at hq
 simp only [List.take_succ_cons, List.take_zero, List.drop_succ_cons, List.drop_zero, List.take_nil, List.drop_nil]
 repeat (go_big_quiet_step (first | fail | (go_at_call 24; with_reducible exact seg_callW hF1 hF2 hwx1 ZX.out _) | (go_at_call 24; with_reducible exact seg_callW hF1 hF2 hwy1 ZY.out _) | (go_at_call 24; with_reducible exact seg_callW hF1 hF2 hwz1 ZZ.out _)))
 refine wpQuiet_nil ?_
 clear hq hF1 hF2 iα F α
 refine lex_new [.int .u64 0, .string ⟨#[]⟩, .bool false] 7 39 39 rfl rfl (of_decide_eq_true (by kernel_rfl)) (by kernel_rfl) rfl new_int ?_
 simp only [Act.put, List.setIfInBounds_toArray, List.set_cons_succ, List.set_cons_zero]
 refine lex_new [.int .u64 0, .string ⟨#[]⟩, .bool false] 8 39 39 rfl rfl (of_decide_eq_true (by kernel_rfl)) (by kernel_rfl) rfl new_int ?_
 simp only [Act.put, List.setIfInBounds_toArray, List.set_cons_succ, List.set_cons_zero]
 refine lex_new [.int .u64 0, .string ⟨#[]⟩, .bool false] 9 39 39 rfl rfl (of_decide_eq_true (by kernel_rfl)) (by kernel_rfl) rfl new_int ?_
 simp only [Act.put, List.setIfInBounds_toArray, List.set_cons_succ, List.set_cons_zero]
 refine lex_put [.int .u64 ((zl a : Nat) : Int), .string (zh a), .bool (zs a)] [.int .u64 0, .string ⟨#[]⟩, .bool false] 7 39 (.tmp 31) rfl (by kernel_rfl) (by simp [toG, upd]) rfl (fun w k h => put_int _ _ _ _ _ _ w k h) ?_
 simp only [Act.put]
 refine lex_put [.int .u64 ((zl b : Nat) : Int), .string (zh b), .bool (zs b)] [.int .u64 0, .string ⟨#[]⟩, .bool false] 8 39 (.tmp 33) rfl (by kernel_rfl) (by simp [toG, upd]) rfl (fun w k h => put_int _ _ _ _ _ _ w k h) ?_
 simp only [Act.put]
 refine lex_put [.int .u64 ((zl c : Nat) : Int), .string (zh c), .bool (zs c)] [.int .u64 0, .string ⟨#[]⟩, .bool false] 9 39 (.tmp 35) rfl (by kernel_rfl) (by simp [toG, upd]) rfl (fun w k h => put_int _ _ _ _ _ _ w k h) ?_
 simp only [Act.put]
 refine lexG_nil ?_
 intro κ x4 hS
 replace hL0 := hL0.ghs hS [(9, [.int .u64 ((zl c : Nat) : Int), .string (zh c), .bool (zs c)]), (8, [.int .u64 ((zl b : Nat) : Int), .string (zh b), .bool (zs b)]), (7, [.int .u64 ((zl a : Nat) : Int), .string (zh a), .bool (zs a)])] (by simp) (by intro p hp; simp only [List.mem_cons, List.not_mem_nil, or_false] at hp; rcases hp with rfl | rfl | rfl <;> exact ⟨_, by simp only [toG, upd]; rfl⟩)
 simp only [List.map_cons, List.map_nil, List.cons_append, List.nil_append] at hL0
 simp only [over_toG, over_nil, Act.put, List.setIfInBounds_toArray, List.set_cons_succ, List.set_cons_zero]
 clear hS
 generalize κ 9 = k4_9 at *
 generalize κ 8 = k4_8 at *
 generalize κ 7 = k4_7 at *
 clear hwx1 hwy1 hwz1 ZX ZY ZZ
 have hN0 := cells_of _ 0 [] rfl (hL0.get _ _ (List.mem_cons_of_mem _ (List.mem_cons_of_mem _ List.mem_cons_self)))
 simp only [cellsF, and_true, Nat.zero_add, Nat.reduceAdd] at hN0
 have hN1 := cells_of _ 0 [] rfl (hL0.get _ _ (List.mem_cons_of_mem _ List.mem_cons_self))
 simp only [cellsF, and_true, Nat.zero_add, Nat.reduceAdd] at hN1
 go_wp2_with fail
 clear hN0 hN1
 with_reducible refine Calls.mono (G.out _) ?_
 rintro e x5 ⟨rfl, hb⟩
 replace hL0 := hL0.call hb
 clear hb
 replace hL0 := (((hL0.new rfl [.int .u64 ((zl g : Nat) : Int), .string (zh g), .bool (zs g)] 39).new (K := x5.heap.size + 1) (szA _ _) [.int .u64 ((zl u : Nat) : Int), .string (zh u), .bool (zs u)] 39).new (K := x5.heap.size + 1 + 1) (by simp only [World.size_alloc]) [.int .u64 ((zl v : Nat) : Int), .string (zh v), .bool (zs v)] 39)
 generalize hweq : (((x5.alloc (.cells #[.int .u64 ((zl g : Nat) : Int), .string (zh g), .bool (zs g)] 39)).alloc (.cells #[.int .u64 ((zl u : Nat) : Int), .string (zh u), .bool (zs u)] 39)).alloc (.cells #[.int .u64 ((zl v : Nat) : Int), .string (zh v), .bool (zs v)] 39)) = x6 at hL0
 go_upto_region 5 with fail
 clear hweq
 obtain ⟨α, iα, F, hF1, hF2⟩ := cls x6
 have hq0 := cls_box hF1 hL0 _ _ (List.mem_cons_of_mem _ (List.mem_cons_of_mem _ (List.mem_cons_of_mem _ (List.mem_cons_of_mem _ (List.mem_cons_of_mem _ List.mem_cons_self)))))
 simp only [cellsC, and_true, Nat.zero_add, Nat.reduceAdd] at hq0
 have hq1 := cls_box hF1 hL0 _ _ (List.mem_cons_of_mem _ (List.mem_cons_of_mem _ (List.mem_cons_of_mem _ (List.mem_cons_of_mem _ List.mem_cons_self))))
 simp only [cellsC, and_true, Nat.zero_add, Nat.reduceAdd] at hq1
 have hq2 := cls_box hF1 hL0 _ _ (List.mem_cons_of_mem _ (List.mem_cons_of_mem _ List.mem_cons_self))
 simp only [cellsC, and_true, Nat.zero_add, Nat.reduceAdd] at hq2
 have hq3 := cls_box hF1 hL0 _ _ (List.mem_cons_of_mem _ List.mem_cons_self)
 simp only [cellsC, and_true, Nat.zero_add, Nat.reduceAdd] at hq3
 have hq4 := cls_box hF1 hL0 _ _ List.mem_cons_self
 simp only [cellsC, and_true, Nat.zero_add, Nat.reduceAdd] at hq4
 refine region_qs 24 (C := fun w' => ∃ x, w' = F x) (by kernel_rfl) (by kernel_rfl) (cls_drew hF2) ?_
 simp only [List.take_succ_cons, List.take_zero, List.drop_succ_cons, List.drop_zero, List.take_nil, List.drop_nil]
 repeat (go_big_quiet_step (first | fail | (go_at_call 32; with_reducible exact cls_call hF1 hF2 Mau.out _) | (go_at_call 32; with_reducible exact cls_call hF1 hF2 Mbv.out _) | (go_at_call 28; with_reducible exact cls_call hF1 hF2 Ag.out _) | (go_at_call 36; with_reducible exact cls_call hF1 hF2 Sg.out _) | (go_at_call 40; with_reducible exact cls_call hF1 hF2 Bg.out _) | (go_at_call 40; with_reducible exact cls_call hF1 hF2 Ba.out _) | (go_at_call 40; with_reducible exact cls_call hF1 hF2 Bb.out _) | (go_at_call 109; with_reducible exact cls_call hF1 hF2 Gn.out _)))
 refine wpQuiet_nil ?_
 rintro wq ⟨xq, rfl⟩
 replace hL0 := hL0.call (hF1 xq)
 clear  hq0 hq1 hq2 hq3 hq4 hF2
 generalize F xq = x7 at hL0 ⊢
 clear hF1 xq iα F α
 have hN0 := cells_of _ 0 [] rfl (hL0.get _ _ (List.mem_cons_of_mem _ (List.mem_cons_of_mem _ (List.mem_cons_of_mem _ (List.mem_cons_of_mem _ List.mem_cons_self)))))
 simp only [cellsF, and_true, Nat.zero_add, Nat.reduceAdd] at hN0
 go_wp2_with fail
 clear hN0
 with_reducible refine Calls.mono (Bb.out _) ?_
 rintro e x8 ⟨rfl, hb⟩
 replace hL0 := hL0.call hb
 clear hb
 go_wp2_with fail
 with_reducible refine Calls.mono (Fb.out _) ?_
 rintro e x9 ⟨rfl, hb⟩
 replace hL0 := hL0.call hb
 clear hb
 replace hL0 := (hL0.new rfl [.int .u64 ((zl bi : Nat) : Int), .string (zh bi), .bool (zs bi)] 39)
 generalize hweq : (x9.alloc (.cells #[.int .u64 ((zl bi : Nat) : Int), .string (zh bi), .bool (zs bi)] 39)) = x10 at hL0
 have hN0 := cells_of _ 0 [] rfl (hL0.get _ _ (List.mem_cons_of_mem _ (List.mem_cons_of_mem _ (List.mem_cons_of_mem _ (List.mem_cons_of_mem _ (List.mem_cons_of_mem _ (List.mem_cons_of_mem _ List.mem_cons_self)))))))
 simp only [cellsF, and_true, Nat.zero_add, Nat.reduceAdd] at hN0
 have hN1 := cells_of _ 0 [] rfl (hL0.get _ _ (List.mem_cons_of_mem _ (List.mem_cons_of_mem _ (List.mem_cons_of_mem _ (List.mem_cons_of_mem _ (List.mem_cons_of_mem _ List.mem_cons_self))))))
 simp only [cellsF, and_true, Nat.zero_add, Nat.reduceAdd] at hN1
 go_wp2_with fail
 clear hN0 hN1
 with_reducible refine Calls.mono (D0.out _) ?_
 rintro e x11 ⟨rfl, hb⟩
 replace hL0 := hL0.call hb
 clear hb hweq
 replace hL0 := ((hL0.new rfl [.int .u64 ((zl q0 : Nat) : Int), .string (zh q0), .bool (zs q0)] 39).new (K := x11.heap.size + 1) (szA _ _) [.int .u64 ((zl r0 : Nat) : Int), .string (zh r0), .bool (zs r0)] 39)
 generalize hweq : ((x11.alloc (.cells #[.int .u64 ((zl q0 : Nat) : Int), .string (zh q0), .bool (zs q0)] 39)).alloc (.cells #[.int .u64 ((zl r0 : Nat) : Int), .string (zh r0), .bool (zs r0)] 39)) = x12 at hL0
 have hN0 := cells_of _ 0 [] rfl (hL0.get _ _ (List.mem_cons_of_mem _ (List.mem_cons_of_mem _ (List.mem_cons_of_mem _ (List.mem_cons_of_mem _ (List.mem_cons_of_mem _ (List.mem_cons_of_mem _ (List.mem_cons_of_mem _ List.mem_cons_self))))))))
 simp only [cellsF, and_true, Nat.zero_add, Nat.reduceAdd] at hN0
 go_wp2_with fail
 clear hN0
 with_reducible refine Calls.mono (I0.out _) ?_
 rintro e x13 ⟨rfl, hb⟩
 replace hL0 := hL0.call hb
 clear hb hweq
 have hN0 := cells_of _ 0 [] rfl (hL0.get _ _ (List.mem_cons_of_mem _ (List.mem_cons_of_mem _ (List.mem_cons_of_mem _ (List.mem_cons_of_mem _ (List.mem_cons_of_mem _ (List.mem_cons_of_mem _ List.mem_cons_self)))))))
 simp only [cellsF, and_true, Nat.zero_add, Nat.reduceAdd] at hN0
 have hN1 := cells_of _ 0 [] rfl (hL0.get _ _ (List.mem_cons_of_mem _ (List.mem_cons_of_mem _ (List.mem_cons_of_mem _ (List.mem_cons_of_mem _ (List.mem_cons_of_mem _ (List.mem_cons_of_mem _ (List.mem_cons_of_mem _ List.mem_cons_self))))))))
 simp only [cellsF, and_true, Nat.zero_add, Nat.reduceAdd] at hN1
 go_wp2_with fail
 clear hN0 hN1
 with_reducible refine Calls.mono (D1.out _) ?_
 rintro e x14 ⟨rfl, hb⟩
 replace hL0 := hL0.call hb
 clear hb
 replace hL0 := ((hL0.new rfl [.int .u64 ((zl q1 : Nat) : Int), .string (zh q1), .bool (zs q1)] 39).new (K := x14.heap.size + 1) (szA _ _) [.int .u64 ((zl rt : Nat) : Int), .string (zh rt), .bool (zs rt)] 39)
 generalize hweq : ((x14.alloc (.cells #[.int .u64 ((zl q1 : Nat) : Int), .string (zh q1), .bool (zs q1)] 39)).alloc (.cells #[.int .u64 ((zl rt : Nat) : Int), .string (zh rt), .bool (zs rt)] 39)) = x15 at hL0
 go_upto_region 12 with fail
 clear hweq
 refine region_gh (by kernel_rfl) (by kernel_rfl) ?_
 refine lex_seg (gl := []) 11 (by kernel_rfl) ?_
 intro α iα F hF1 hF2
 have hq := GL.seg hF1 hL0
 simp only [fcC, cellsC, and_true, Nat.zero_add, Nat.reduceAdd] at hq
 simp only [List.take_succ_cons, List.take_zero, List.drop_succ_cons, List.drop_zero, List.take_nil, List.drop_nil]
 repeat (go_big_quiet_step (first | fail | (go_at_call 32; with_reducible exact seg_call hF2 Mab.out _) | (go_at_call 28; with_reducible exact seg_call hF2 As.out _) | (go_at_call 44; with_reducible exact seg_call hF2 D2.out _)))
 refine wpQuiet_nil ?_
 clear hq hF1 hF2 iα F α
 refine lex_new [.int .u64 0, .string ⟨#[]⟩, .bool false] 20 39 39 rfl rfl (of_decide_eq_true (by kernel_rfl)) (by kernel_rfl) rfl new_int ?_
 simp only [Act.put, List.setIfInBounds_toArray, List.set_cons_succ, List.set_cons_zero]
 refine lex_new [.int .u64 0, .string ⟨#[]⟩, .bool false] 21 39 39 rfl rfl (of_decide_eq_true (by kernel_rfl)) (by kernel_rfl) rfl new_int ?_
 simp only [Act.put, List.setIfInBounds_toArray, List.set_cons_succ, List.set_cons_zero]
 refine lex_put [.int .u64 ((zl a : Nat) : Int), .string (zh a), .bool (zs a)] [.int .u64 0, .string ⟨#[]⟩, .bool false] 20 39 (.tmp 99) rfl (by kernel_rfl) (by simp [toG, upd]) rfl (fun w k h => put_int _ _ _ _ _ _ w k h) ?_
 simp only [Act.put]
 refine lex_put [.int .u64 ((zl rt : Nat) : Int), .string (zh rt), .bool (zs rt)] [.int .u64 0, .string ⟨#[]⟩, .bool false] 21 39 (.tmp 100) rfl (by kernel_rfl) (by simp [toG, upd]) rfl (fun w k h => put_int _ _ _ _ _ _ w k h) ?_
 simp only [Act.put]
 refine lex_seg (gl := [(21, [.int .u64 ((zl rt : Nat) : Int), .string (zh rt), .bool (zs rt)], true), (20, [.int .u64 ((zl a : Nat) : Int), .string (zh a), .bool (zs a)], true), (21, [.int .u64 0, .string ⟨#[]⟩, .bool false], false), (20, [.int .u64 0, .string ⟨#[]⟩, .bool false], false)]) 1 (by kernel_rfl) ?_
 intro α iα F hF1 hF2
 have hq := GL.seg hF1 hL0
 simp only [fcC, cellsC, and_true, Nat.zero_add, Nat.reduceAdd] at hq
 simp only [List.take_succ_cons, List.take_zero, List.drop_succ_cons, List.drop_zero, List.take_nil, List.drop_nil]
 repeat (go_big_quiet_step (first | fail | (go_at_call 32; with_reducible exact seg_call hF2 Mab.out _) | (go_at_call 28; with_reducible exact seg_call hF2 As.out _) | (go_at_call 44; with_reducible exact seg_call hF2 D2.out _)))
 refine wpQuiet_nil ?_
 clear hq hF1 hF2 iα F α
 refine lexG_nil ?_
 intro κ x16 hS
 replace hL0 := hL0.ghs hS [(21, [.int .u64 ((zl rt : Nat) : Int), .string (zh rt), .bool (zs rt)]), (20, [.int .u64 ((zl a : Nat) : Int), .string (zh a), .bool (zs a)])] (by simp) (by intro p hp; simp only [List.mem_cons, List.not_mem_nil, or_false] at hp; rcases hp with rfl | rfl <;> exact ⟨_, by simp only [toG, upd]; rfl⟩)
 simp only [List.map_cons, List.map_nil, List.cons_append, List.nil_append] at hL0
 simp only [over_toG, over_nil, Act.put, List.setIfInBounds_toArray, List.set_cons_succ, List.set_cons_zero]
 clear hS
 generalize κ 21 = k16_21 at *
 generalize κ 20 = k16_20 at *
 go_upto_region 13 with fail
 have ht := htab.below hL0.bl
 obtain ⟨α, iα, F, hF1, hF2⟩ := cls x16
 have hq0 := cls_box hF1 hL0 _ _ (List.mem_cons_of_mem _ (List.mem_cons_of_mem _ (List.mem_cons_of_mem _ (List.mem_cons_of_mem _ (List.mem_cons_of_mem _ (List.mem_cons_of_mem _ (List.mem_cons_of_mem _ (List.mem_cons_of_mem _ (List.mem_cons_of_mem _ (List.mem_cons_of_mem _ (List.mem_cons_of_mem _ (List.mem_cons_of_mem _ List.mem_cons_self))))))))))))
 simp only [cellsC, and_true, Nat.zero_add, Nat.reduceAdd] at hq0
 have hq1 := cls_box hF1 hL0 _ _ (List.mem_cons_of_mem _ (List.mem_cons_of_mem _ (List.mem_cons_of_mem _ (List.mem_cons_of_mem _ (List.mem_cons_of_mem _ (List.mem_cons_of_mem _ (List.mem_cons_of_mem _ (List.mem_cons_of_mem _ (List.mem_cons_of_mem _ (List.mem_cons_of_mem _ (List.mem_cons_of_mem _ List.mem_cons_self)))))))))))
 simp only [cellsC, and_true, Nat.zero_add, Nat.reduceAdd] at hq1
 have hq2 := cls_box hF1 hL0 _ _ (List.mem_cons_of_mem _ (List.mem_cons_of_mem _ (List.mem_cons_of_mem _ (List.mem_cons_of_mem _ (List.mem_cons_of_mem _ (List.mem_cons_of_mem _ List.mem_cons_self))))))
 simp only [cellsC, and_true, Nat.zero_add, Nat.reduceAdd] at hq2
 have hq3 := cls_box hF1 hL0 _ _ (List.mem_cons_of_mem _ (List.mem_cons_of_mem _ (List.mem_cons_of_mem _ (List.mem_cons_of_mem _ (List.mem_cons_of_mem _ List.mem_cons_self)))))
 simp only [cellsC, and_true, Nat.zero_add, Nat.reduceAdd] at hq3
 have hq4 := cls_box hF1 hL0 _ _ (List.mem_cons_of_mem _ (List.mem_cons_of_mem _ (List.mem_cons_of_mem _ (List.mem_cons_of_mem _ List.mem_cons_self))))
 simp only [cellsC, and_true, Nat.zero_add, Nat.reduceAdd] at hq4
 have hq5 := cls_box hF1 hL0 _ _ (List.mem_cons_of_mem _ (List.mem_cons_of_mem _ List.mem_cons_self))
 simp only [cellsC, and_true, Nat.zero_add, Nat.reduceAdd] at hq5
 have hq6 := cls_box hF1 hL0 _ _ (List.mem_cons_of_mem _ List.mem_cons_self)
 simp only [cellsC, and_true, Nat.zero_add, Nat.reduceAdd] at hq6
 have hq7 := cls_box hF1 hL0 _ _ List.mem_cons_self
 simp only [cellsC, and_true, Nat.zero_add, Nat.reduceAdd] at hq7
 refine region_qs 37 (C := fun w' => ∃ x, w' = F x) (by kernel_rfl) (by kernel_rfl) (cls_drew hF2) ?_
 simp only [List.take_succ_cons, List.take_zero, List.drop_succ_cons, List.drop_zero, List.take_nil, List.drop_nil]
 repeat (go_big_quiet_step (first | fail | (go_at_call 32; with_reducible exact cls_call hF1 hF2 Mqb.out _) | (go_at_call 28; with_reducible exact cls_call hF1 hF2 Aq.out _) | (go_at_call 36; with_reducible exact cls_call hF1 hF2 Sr.out _) | (go_at_call 38; with_reducible exact cls_call hF1 hF2 Cr.out _) | (go_at_call 23; with_reducible exact cls_callT hF1 hF2 ht HW.out _)))
 refine wpQuiet_nil ?_
 rintro wq ⟨xq, rfl⟩
 replace hL0 := hL0.call (hF1 xq)
 clear  hq0 hq1 hq2 hq3 hq4 hq5 hq6 hq7 hF2
 generalize F xq = x17 at hL0 ⊢
 clear hF1 xq iα F α
 go_wp2_with fail
 exact bodyPost_ret (v := .bool true) (by simp [results, Tryz.results48, go_sem]) rfl ⟨rfl, hL0.bl⟩
theorem idivides_small (sx sy sz : Bool) (ax ay az : Option Addr) (nx cx ny cy nz cz : Nat) (lx ly lz : List Nat) (kx : nx ≤ 16) (ky : ny ≤ 16) (kz : nz ≤ 16) (w : World) (htab : Tab w) (hwx : Ws w (.slice ax nx cx) lx) (hwy : Ws w (.slice ay ny cy) ly) (hwz : Ws w (.slice az nz cz) lz) :
  Calls Tryz.prog 48 #[.agg #[.bool sx, .slice ax nx cx], .agg #[.bool sy, .slice ay ny cy], .agg #[.bool sz, .slice az nz cz]] w fun e w' => e = .returned (.bool true) ∧ Below w.heap.size w w' := by
 by_cases h : zmade sy ly = 0
 ·exact idivides_zero sx sy sz ax ay az nx cx ny cy nz cz lx ly lz kx ky kz h w htab hwx hwy hwz
 ·exact idivides_pos sx sy sz ax ay az nx cx ny cy nz cz lx ly lz kx ky kz h w htab hwx hwy hwz
theorem idivides_any (sx sy sz : Bool) (ax ay az : Option Addr) (nx cx ny cy nz cz : Nat) (lx ly lz : List Nat)  (w : World) (htab : Tab w) (hwx : Ws w (.slice ax nx cx) lx) (hwy : Ws w (.slice ay ny cy) ly) (hwz : Ws w (.slice az nz cz) lz) :
  Calls Tryz.prog 48 #[.agg #[.bool sx, .slice ax nx cx], .agg #[.bool sy, .slice ay ny cy], .agg #[.bool sz, .slice az nz cz]] w fun e w' => e = .returned (.bool true) ∧ Below w.heap.size w w' := by
 by_cases h : nx ≤ 16 ∧ ny ≤ 16 ∧ nz ≤ 16
 ·exact idivides_small sx sy sz ax ay az nx cx ny cy nz cz lx ly lz h.1 h.2.1 h.2.2 w htab hwx hwy hwz
 ·exact idivides_big sx sy sz ax ay az nx cx ny cy nz cz lx ly lz h w htab hwx hwy hwz
end Go.Proofs.YtdmoadfnogdfnaaGreatDoor
namespace Go.Proofs.YtdmoadfnogdfnaaGreatDoor
open Go.RowKit Go.Proofs.YtdmoadfnogdfnaaGreatDoor.Rx
attribute [local irreducible] lo hs sm s64 c64 d64 b64 mh ml pd pc qd qc val hiB str cmpI srD lz nb isq decB zl zh dval txt
theorem rzcmpI (x y : Int) (lx : (Rx.td x.natAbs).length ≤ 1000) (ly : (Rx.td y.natAbs).length ≤ 1000) (v1 v2 : Value) (w : World) (h1 : RZ w v1 x) (h2 : RZ w v2 y) :
  Calls Tryz.prog 26 #[v1, v2] w fun e w' => e = .returned (.int .i64 (sgn (x - y))) ∧ Below w.heap.size w w' :=
 rzcmp_w x y (x - y) _ (fun a b w ha hb => rzsubI a b x y (by omega) (by omega) w ha hb) (rzsignI _) v1 v2 w h1 h2
theorem rzof_sgn (z : Int) (w : World) : Calls Tryz.prog 135 #[.int .i64 (sgn z)] w fun e w' => ∃ v, e = .returned v ∧ RZ w' v (sgn z) ∧ Below w.heap.size w w' := by
 unfold sgn
 split
 ·exact rzof_neg (-1) 0 0 0 1 (-1) 1 one_r (rz_from true 1 (-1) rfl rfl) (by decide) (by decide) (by decide) (by decide) (by decide) w
 ·split
  ·exact rzof_pos 0 0 0 0 (fun w => rof_val 0 0 rfl (by omega) w) (rz_from false 0 0 rfl rfl) (by decide) (by decide) w
  ·exact rzof_one w
theorem rzof_zero (w : World) : Calls Tryz.prog 135 #[.int .i64 0] w fun e w' => ∃ v, e = .returned v ∧ RZ w' v 0 ∧ Below w.heap.size w w' := rzof_pos 0 0 0 0 (fun w => rof_val 0 0 rfl (by omega) w) (rz_from false 0 0 rfl rfl) (by decide) (by decide) w
theorem dI_le {a b : Int} {k : Nat} (h : a.natAbs ≤ b.natAbs) (hb : dI b ≤ k) : dI a ≤ k := digs_length_iff.2 (Nat.lt_of_le_of_lt h (digs_length_iff.1 hb))
theorem rzgcd_any {k : Nat} (hk : k ≤ 90) : ∀ (n : Nat) (x y : Int), y.natAbs ≤ n → dI x ≤ k → dI y ≤ k → ∀ (v1 v2 : Value) (w : World), RZ w v1 x → RZ w v2 y →
  Calls Tryz.prog 43 #[v1, v2] w fun e w' => ∃ a b c, e = .returned (.tuple #[a, b, c]) ∧ RZ w' a (xgcd x y).1 ∧ RZ w' b (xgcd x y).2.1 ∧ RZ w' c (xgcd x y).2.2 ∧ Below w.heap.size w w' := by
 intro n
 induction n with
 | zero =>
  intro x y hy lx ly v1 v2 w h1 h2
  obtain rfl : y = 0 := by omega
  rw [xgcd_zero]
  exact rzgcd_zero x 0 _ _ 0 (sgn x) (rzsignI 0) (rzsignI x) (rz_from false _ _ (by simp) (by simp)) (rzof_sgn x) rzof_zero v1 v2 w h1 h2
 | succ n ih =>
  intro x y hy lx ly v1 v2 w h1 h2
  by_cases h0 : y = 0
  ·subst h0
   rw [xgcd_zero]
   exact rzgcd_zero x 0 _ _ 0 (sgn x) (rzsignI 0) (rzsignI x) (rz_from false _ _ (by simp) (by simp)) (rzof_sgn x) rzof_zero v1 v2 w h1 h2
  ·have g1 := Int.emod_lt x h0
   have g2 := Int.emod_nonneg x h0
   have lm : dI (x % y) ≤ k := dI_le (by omega) ly
   have hI := ih y (x % y) (by omega) ly lm
   obtain ⟨-, b1, b2⟩ := xgcd_dI ly lm
   have l1 := dI_td b1
   have l2 := dI_td b2
   have lq : (Rx.td (x / y).natAbs).length ≤ 5 * k := dI_td (dI_le (Int.natAbs_ediv_le_natAbs x y) lx)
   have lp : (Rx.td (x / y * (xgcd y (x % y)).2.2).natAbs).length ≤ 5 * k + 5 * (2 * k + 4) := by rw [Int.natAbs_mul]; exact td_mul_le lq l2
   have tx := dI_td lx
   have ty := dI_td ly
   have hs : (sgn y == 0) = false := beq_eq_false_iff_ne.2 (by unfold sgn; split <;> (try split) <;> omega)
   rw [xgcd_step h0]
   exact rzgcd_step x y (sgn y) (x / y) (x % y) _ _ _ _ _ (rzsignI y) (rzdivI x y h0 (by omega) (by omega)) hI (fun a b w ha hb => rzmulI a b _ _ (by omega) (by omega) w ha hb) (fun a b w ha hb => rzsubI a b _ _ (by omega) (by omega) w ha hb) hs v1 v2 w h1 h2
end Go.Proofs.YtdmoadfnogdfnaaGreatDoor
namespace Go.Proofs.YtdmoadfnogdfnaaGreatDoor
open Go.RowKit Go.Proofs.YtdmoadfnogdfnaaGreatDoor.Rx
attribute [local irreducible] lo hs sm s64 c64 d64 b64 mh ml pd pc qd qc val hiB str cmpI srD lz nb isq decB zl zh zs dval tln ztxt txt
set_option maxHeartbeats 4000000 in
set_option maxRecDepth 100000 in
theorem isums_big (sx sy : Bool) (ax ay : Option Addr) (nx cx ny cy : Nat) (KT : World → Prop) (hKT : Keeps KT) (HW : RK KT 23 #[] (.bool true)) (hfew : decide (nx ≤ 16 ∧ ny ≤ 16) = false) (w : World) (kKT : KT w) :
  Calls Tryz.prog 4 #[.agg #[.bool sx, .slice ax nx cx], .agg #[.bool sy, .slice ay ny cy]] w fun e w' => e = .returned (.bool true) ∧ Below w.heap.size w w' := by
 replace hKT := Lib.hid hKT
 replace HW := Lib.hid HW
 have hL0 : GL w w [] := GL.start w
 have hS : SS w [] := SS.nil w
 replace hS := (((hS.new (.cells #[.bool sx, .slice ax nx cx] 36)).new (.cells #[.bool sy, .slice ay ny cy] 36)).new (.cells #[.bool sx, .slice ax nx cx, .bool sy, .slice ay ny cy] 36))
 replace hL0 := (((hL0.new rfl [.bool sx, .slice ax nx cx] 36).new (K := w.heap.size + 1) (szA _ _) [.bool sy, .slice ay ny cy] 36).new (K := w.heap.size + 1 + 1) (by simp only [World.size_alloc]) [.bool sx, .slice ax nx cx, .bool sy, .slice ay ny cy] 36)
 generalize hweq : (((w.alloc (.cells #[.bool sx, .slice ax nx cx] 36)).alloc (.cells #[.bool sy, .slice ay ny cy] 36)).alloc (.cells #[.bool sx, .slice ax nx cx, .bool sy, .slice ay ny cy] 36)) = x1 at hL0 hS
 go_enter Tryz.func4, Tryz.ntmps4
 have hN0 := cells_of _ 0 [] rfl (hL0.get _ _ (List.mem_cons_of_mem _ List.mem_cons_self))
 simp only [cellsF, and_true, Nat.zero_add, Nat.reduceAdd] at hN0
 have hN1 := cells_of _ 0 [] rfl (hL0.get _ _ (List.mem_cons_of_mem _ (List.mem_cons_of_mem _ List.mem_cons_self)))
 simp only [cellsF, and_true, Nat.zero_add, Nat.reduceAdd] at hN1
 have HFw := few2 16 16 rfl (by omega) (hL0.get _ _ List.mem_cons_self)
 rw [hfew] at HFw
 replace HFw := Lib.hid HFw
 go_wp2_with fail
 with_reducible refine Calls.mono (HFw.out) ?_
 rintro e x2 ⟨rfl, rfl⟩
 clear HFw
 clear hN0 hN1
 go_wp2_with fail
 with_reducible refine Calls.mono (HW.out _ (hKT.out.at (hL0.bl) kKT)) ?_
 rintro e x3 ⟨rfl, hb⟩
 replace hL0 := hL0.call hb
 replace hS := hS.call hb
 clear hb hweq
 go_wp2_with fail
 exact bodyPost_ret (v := .bool true) (by simp [results, Tryz.results4, go_sem]) rfl ⟨rfl, hL0.bl⟩
set_option maxHeartbeats 4000000 in
set_option maxRecDepth 100000 in
theorem isums_eq (sx sy : Bool) (ax ay : Option Addr) (nx cx ny cy : Nat) (a r d m n j : Int) (k : Nat) (t : ByteArray) (Kx : World → Prop) (hKx : Keeps Kx) (GX : RK Kx 24 #[.agg #[.bool sx, .slice ax nx cx]] (intV a)) (Ky : World → Prop) (hKy : Keeps Ky) (GY : RK Ky 24 #[.agg #[.bool sy, .slice ay ny cy]] (intV a)) (RX : ∀ (w : World), Kx w → Calls Tryz.prog 25 #[.agg #[.bool sx, .slice ax nx cx]] w fun e w' => ∃ pv, e = .returned pv ∧ RZ w' pv a ∧ Below w.heap.size w w') (RY : ∀ (w : World), Ky w → Calls Tryz.prog 25 #[.agg #[.bool sy, .slice ay ny cy]] w fun e w' => ∃ pv, e = .returned pv ∧ RZ w' pv a ∧ Below w.heap.size w w') (HC : ∀ (p0 p1 : Value) (w : World), RZ w p0 a → RZ w p1 a → Calls Tryz.prog 26 #[p0, p1] w fun e w' => e = .returned (.int .i64 0) ∧ Below w.heap.size w w') (KT : World → Prop) (hKT : Keeps KT) (H0 : ∀ (p1 : Value) (w : World), KT w → RZ w p1 a → Calls Tryz.prog 27 #[intV a, p1] w fun e w' => e = .returned (.bool true) ∧ Below w.heap.size w w') (HA : RT 28 #[intV a, intV a] (intV r)) (HA2 : ∀ (p0 p1 : Value) (w : World), RZ w p0 a → RZ w p1 a → Calls Tryz.prog 29 #[p0, p1] w fun e w' => ∃ pv, e = .returned pv ∧ RZ w' pv r ∧ Below w.heap.size w w') (H1 : ∀ (p1 : Value) (w : World), KT w → RZ w p1 r → Calls Tryz.prog 27 #[intV r, p1] w fun e w' => e = .returned (.bool true) ∧ Below w.heap.size w w') (HB : RT 30 #[intV a, intV a] (intV d)) (HB2 : ∀ (p0 p1 : Value) (w : World), RZ w p0 a → RZ w p1 a → Calls Tryz.prog 31 #[p0, p1] w fun e w' => ∃ pv, e = .returned pv ∧ RZ w' pv d ∧ Below w.heap.size w w') (H2 : ∀ (p1 : Value) (w : World), KT w → RZ w p1 d → Calls Tryz.prog 27 #[intV d, p1] w fun e w' => e = .returned (.bool true) ∧ Below w.heap.size w w') (HM : RT 32 #[intV a, intV a] (intV m)) (HM2 : ∀ (p0 p1 : Value) (w : World), RZ w p0 a → RZ w p1 a → Calls Tryz.prog 33 #[p0, p1] w fun e w' => ∃ pv, e = .returned pv ∧ RZ w' pv m ∧ Below w.heap.size w w') (H3 : ∀ (p1 : Value) (w : World), KT w → RZ w p1 m → Calls Tryz.prog 27 #[intV m, p1] w fun e w' => e = .returned (.bool true) ∧ Below w.heap.size w w') (HN : RT 34 #[intV a] (intV n)) (HN2 : ∀ (p0 : Value) (w : World), RZ w p0 a → Calls Tryz.prog 35 #[p0] w fun e w' => ∃ pv, e = .returned pv ∧ RZ w' pv n ∧ Below w.heap.size w w') (H4 : ∀ (p1 : Value) (w : World), KT w → RZ w p1 n → Calls Tryz.prog 27 #[intV n, p1] w fun e w' => e = .returned (.bool true) ∧ Below w.heap.size w w') (HS : RT 36 #[intV a] (.int .i64 j)) (HS2 : ∀ (p0 : Value) (w : World), RZ w p0 a → Calls Tryz.prog 37 #[p0] w fun e w' => e = .returned (.int .i64 j) ∧ Below w.heap.size w w') (HC2 : RT 38 #[intV a, intV a] (.int .i64 0)) (HX : RT 40 #[intV a] (natV k)) (HT : RK KT 39 #[natV k] (.string t)) (HT2 : ∀ (p0 : Value) (w : World), Rn w p0 a.natAbs → Calls Tryz.prog 41 #[p0] w fun e w' => e = .returned (.string t) ∧ Below w.heap.size w w') (HW : RK KT 23 #[] (.bool true)) (hfew : decide (nx ≤ 16 ∧ ny ≤ 16) = true) (w : World) (kKx : Kx w) (kKy : Ky w) (kKT : KT w) :
  Calls Tryz.prog 4 #[.agg #[.bool sx, .slice ax nx cx], .agg #[.bool sy, .slice ay ny cy]] w fun e w' => e = .returned (.bool true) ∧ Below w.heap.size w w' := by
 replace hKx := Lib.hid hKx
 replace GX := Lib.hid GX
 replace hKy := Lib.hid hKy
 replace GY := Lib.hid GY
 replace RX := Lib.hid RX
 replace RY := Lib.hid RY
 replace HC := Lib.hid HC
 replace hKT := Lib.hid hKT
 replace H0 := Lib.hid H0
 replace HA := Lib.hid HA
 replace HA2 := Lib.hid HA2
 replace H1 := Lib.hid H1
 replace HB := Lib.hid HB
 replace HB2 := Lib.hid HB2
 replace H2 := Lib.hid H2
 replace HM := Lib.hid HM
 replace HM2 := Lib.hid HM2
 replace H3 := Lib.hid H3
 replace HN := Lib.hid HN
 replace HN2 := Lib.hid HN2
 replace H4 := Lib.hid H4
 replace HS := Lib.hid HS
 replace HS2 := Lib.hid HS2
 replace HC2 := Lib.hid HC2
 replace HX := Lib.hid HX
 replace HT := Lib.hid HT
 replace HT2 := Lib.hid HT2
 replace HW := Lib.hid HW
 have hL0 : GL w w [] := GL.start w
 have hS : SS w [] := SS.nil w
 replace hS := (((hS.new (.cells #[.bool sx, .slice ax nx cx] 36)).new (.cells #[.bool sy, .slice ay ny cy] 36)).new (.cells #[.bool sx, .slice ax nx cx, .bool sy, .slice ay ny cy] 36))
 replace hL0 := (((hL0.new rfl [.bool sx, .slice ax nx cx] 36).new (K := w.heap.size + 1) (szA _ _) [.bool sy, .slice ay ny cy] 36).new (K := w.heap.size + 1 + 1) (by simp only [World.size_alloc]) [.bool sx, .slice ax nx cx, .bool sy, .slice ay ny cy] 36)
 generalize hweq : (((w.alloc (.cells #[.bool sx, .slice ax nx cx] 36)).alloc (.cells #[.bool sy, .slice ay ny cy] 36)).alloc (.cells #[.bool sx, .slice ax nx cx, .bool sy, .slice ay ny cy] 36)) = x1 at hL0 hS
 go_enter Tryz.func4, Tryz.ntmps4
 have hN0 := cells_of _ 0 [] rfl (hL0.get _ _ (List.mem_cons_of_mem _ List.mem_cons_self))
 simp only [cellsF, and_true, Nat.zero_add, Nat.reduceAdd] at hN0
 have hN1 := cells_of _ 0 [] rfl (hL0.get _ _ (List.mem_cons_of_mem _ (List.mem_cons_of_mem _ List.mem_cons_self)))
 simp only [cellsF, and_true, Nat.zero_add, Nat.reduceAdd] at hN1
 have HFw := few2 16 16 rfl (by omega) (hL0.get _ _ List.mem_cons_self)
 rw [hfew] at HFw
 replace HFw := Lib.hid HFw
 go_wp2_with fail
 with_reducible refine Calls.mono (HFw.out) ?_
 rintro e x2 ⟨rfl, rfl⟩
 clear HFw
 clear hN0 hN1
 go_upto_region 3 with fail
 clear hweq
 refine region_tal 12 [EV (.agg #[.bool sx, .slice ax nx cx]), EV (intV a), EV (.agg #[.bool sy, .slice ay ny cy]), EV (intV a), EV (.agg #[.bool sx, .slice ax nx cx]), PZ a, EV (.agg #[.bool sy, .slice ay ny cy]), PZ a, NewB x2.heap.size [.int .u64 0, .string ⟨#[]⟩, .bool false], NewB x2.heap.size [.int .u64 0, .string ⟨#[]⟩, .bool false], NewB x2.heap.size [.bool false, .slice none 0 0], NewB x2.heap.size [.bool false, .slice none 0 0]] [8, 9, 10, 11] (by kernel_rfl) (by kernel_rfl) ?_ ?_ ?_ ?_ ?_
 ·exact stays_cons (stays_eq _) (stays_cons (stays_eq _) (stays_cons (stays_eq _) (stays_cons (stays_eq _) (stays_cons (stays_eq _) (stays_cons (stays_rz _) (stays_cons (stays_eq _) (stays_cons (stays_rz _) (stays_cons (stays_new _ _) (stays_cons (stays_new _ _) (stays_cons (stays_new _ _) (stays_cons (stays_new _ _) (stays_nil))))))))))))
 ·simp only [List.take_succ_cons, List.take_zero, hopsR, and_true]
  refine ⟨?_, ?_, ?_, ?_, ?_, ?_, ?_, ?_, ?_, ?_, ?_, ?_⟩ <;> intro fv w1 hb1 hp
  all_goals (simp only [putsV, Act.put, List.setIfInBounds_toArray, List.set_cons_succ, List.set_cons_zero, Nat.zero_add, Nat.reduceAdd])
  ·refine tyAt_none rfl ?_
   have hc := (hL0.call (below_drew hb1)).fc
   simp only [fcG, cellsF, neK, and_true, ne_eq, Nat.zero_add, Nat.reduceAdd] at hc
   simp [tyUpon, execOp, go_sem, Act.eval, hc, Below.refl]
  ·have h0 : EV _ (fv 0) w1 := hp 0 (LC (by kernel_rfl))
   refine tyAt_none rfl ?_
   refine ty_call (f := 24) (args := #[.agg #[.bool sx, .slice ax nx cx]]) (by simp [execOp, go_sem, Act.eval, h0]) ?_
   exact (GX.out w1 (hKx.out.at ((hL0.call (below_drew hb1)).bl) kKx)).mono fun e w2 ⟨h1, h2⟩ => ⟨_, h1, rfl, h2⟩
  ·refine tyAt_none rfl ?_
   have hc := (hL0.call (below_drew hb1)).fc
   simp only [fcG, cellsF, neK, and_true, ne_eq, Nat.zero_add, Nat.reduceAdd] at hc
   simp [tyUpon, execOp, go_sem, Act.eval, hc, Below.refl]
  ·have h2 : EV _ (fv 2) w1 := hp 2 (LC (by kernel_rfl))
   refine tyAt_none rfl ?_
   refine ty_call (f := 24) (args := #[.agg #[.bool sy, .slice ay ny cy]]) (by simp [execOp, go_sem, Act.eval, h2]) ?_
   exact (GY.out w1 (hKy.out.at ((hL0.call (below_drew hb1)).bl) kKy)).mono fun e w2 ⟨h1, h2⟩ => ⟨_, h1, rfl, h2⟩
  ·refine tyAt_none rfl ?_
   have hc := (hL0.call (below_drew hb1)).fc
   simp only [fcG, cellsF, neK, and_true, ne_eq, Nat.zero_add, Nat.reduceAdd] at hc
   simp [tyUpon, execOp, go_sem, Act.eval, hc, Below.refl]
  ·have h4 : EV _ (fv 4) w1 := hp 4 (LC (by kernel_rfl))
   refine tyAt_none rfl ?_
   refine ty_call (f := 25) (args := #[.agg #[.bool sx, .slice ax nx cx]]) (by simp [execOp, go_sem, Act.eval, h4]) ?_
   exact (RX.out w1 (hKx.out.at ((hL0.call (below_drew hb1)).bl) kKx)).mono fun e w2 ⟨pv, h1, h2, h3⟩ => ⟨pv, h1, h2, h3⟩
  ·refine tyAt_none rfl ?_
   have hc := (hL0.call (below_drew hb1)).fc
   simp only [fcG, cellsF, neK, and_true, ne_eq, Nat.zero_add, Nat.reduceAdd] at hc
   simp [tyUpon, execOp, go_sem, Act.eval, hc, Below.refl]
  ·have h6 : EV _ (fv 6) w1 := hp 6 (LC (by kernel_rfl))
   refine tyAt_none rfl ?_
   refine ty_call (f := 25) (args := #[.agg #[.bool sy, .slice ay ny cy]]) (by simp [execOp, go_sem, Act.eval, h6]) ?_
   exact (RY.out w1 (hKy.out.at ((hL0.call (below_drew hb1)).bl) kKy)).mono fun e w2 ⟨pv, h1, h2, h3⟩ => ⟨pv, h1, h2, h3⟩
  ·exact tyAt_new rfl rfl new_int (below_drew hb1).size
  ·exact tyAt_new rfl rfl new_int (below_drew hb1).size
  ·exact tyAt_new rfl rfl new_rz (below_drew hb1).size
  ·exact tyAt_new rfl rfl new_rz (below_drew hb1).size
 ·intro j hj u w2 hT
  simp only [List.contains_iff_mem, List.mem_cons, List.not_mem_nil, or_false] at hj
  rcases hj with rfl | rfl | rfl | rfl <;> exact NewB.ptr hT
 ·exact ⟨⟨_, _, _, _, rfl, rfl, rfl, new_int⟩, ⟨_, _, _, _, rfl, rfl, rfl, new_int⟩, ⟨_, _, _, _, rfl, rfl, rfl, new_rz⟩, ⟨_, _, _, _, rfl, rfl, rfl, new_rz⟩, trivial⟩
 ·intro fv x3 hb1 hv hne
  have e0 : fv 0 = _ := hv 0 (by omega)
  have e1 : fv 1 = _ := hv 1 (by omega)
  have e2 : fv 2 = _ := hv 2 (by omega)
  have e3 : fv 3 = _ := hv 3 (by omega)
  have e4 : fv 4 = _ := hv 4 (by omega)
  have q5 : RZ x3 (fv 5) a := hv 5 (by omega)
  obtain ⟨g1, d1, e5⟩ := rz_form q5
  rw [e5] at q5
  have e6 : fv 6 = _ := hv 6 (by omega)
  have q7 : RZ x3 (fv 7) a := hv 7 (by omega)
  obtain ⟨g2, d2, e7⟩ := rz_form q7
  rw [e7] at q7
  obtain ⟨kb8, e8, n8, m8⟩ : NewB x2.heap.size [.int .u64 0, .string ⟨#[]⟩, .bool false] (fv 8) x3 := hv 8 (by omega)
  obtain ⟨kb9, e9, n9, m9⟩ : NewB x2.heap.size [.int .u64 0, .string ⟨#[]⟩, .bool false] (fv 9) x3 := hv 9 (by omega)
  obtain ⟨kb10, e10, n10, m10⟩ : NewB x2.heap.size [.bool false, .slice none 0 0] (fv 10) x3 := hv 10 (by omega)
  obtain ⟨kb11, e11, n11, m11⟩ : NewB x2.heap.size [.bool false, .slice none 0 0] (fv 11) x3 := hv 11 (by omega)
  simp only [List.take_succ_cons, List.take_zero, putsV, Act.put, List.setIfInBounds_toArray, List.set_cons_succ, List.set_cons_zero, List.drop_succ_cons, List.drop_zero, Nat.zero_add, Nat.reduceAdd, e0, e1, e2, e3, e4, e5, e6, e7, e8, e9, e10, e11]
  have hx0 := hL0
  replace hL0 := hL0.call (below_drew hb1)
  replace hS := hS.call (below_drew hb1)
  replace hL0 := GL.tnew (M := []) hL0 hx0 n8 m8 (fun p hp => by cases hp)
  replace hL0 := GL.tnew (M := [(kb8, [.int .u64 0, .string ⟨#[]⟩, .bool false])]) hL0 hx0 n9 m9 (by intro p hp; simp only [List.mem_cons, List.not_mem_nil, or_false] at hp; rcases hp with rfl; exact ptr_ne e8 e9 (hne 8 9 (by omega) (by omega) (by omega) rfl rfl))
  replace hL0 := GL.tnew (M := [(kb9, [.int .u64 0, .string ⟨#[]⟩, .bool false]), (kb8, [.int .u64 0, .string ⟨#[]⟩, .bool false])]) hL0 hx0 n10 m10 (by intro p hp; simp only [List.mem_cons, List.not_mem_nil, or_false] at hp; rcases hp with rfl | rfl; exact ptr_ne e9 e10 (hne 9 10 (by omega) (by omega) (by omega) rfl rfl); exact ptr_ne e8 e10 (hne 8 10 (by omega) (by omega) (by omega) rfl rfl))
  replace hL0 := GL.tnew (M := [(kb10, [.bool false, .slice none 0 0]), (kb9, [.int .u64 0, .string ⟨#[]⟩, .bool false]), (kb8, [.int .u64 0, .string ⟨#[]⟩, .bool false])]) hL0 hx0 n11 m11 (by intro p hp; simp only [List.mem_cons, List.not_mem_nil, or_false] at hp; rcases hp with rfl | rfl | rfl; exact ptr_ne e10 e11 (hne 10 11 (by omega) (by omega) (by omega) rfl rfl); exact ptr_ne e9 e11 (hne 9 11 (by omega) (by omega) (by omega) rfl rfl); exact ptr_ne e8 e11 (hne 8 11 (by omega) (by omega) (by omega) rfl rfl))
  simp only [List.cons_append, List.nil_append] at hL0
  replace hS := hS.cons (rz_rn q5)
  replace hS := hS.cons (rz_rn q7)
  clear e0 e1 e2 e3 e4 e5 e6 e7 e8 e9 e10 e11 hb1 hv hne hx0 n8 m8 n9 m9 n10 m10 n11 m11 q5 q7 fv
  have hS1 := hS.put ((((Upd.refl kb8 x3).setCell 0 (.int .u64 ((zl a : Nat) : Int))).setCell 1 (.string (zh a))).setCell 2 (.bool (zs a))) (hL0.get _ _ (List.mem_cons_of_mem _ (List.mem_cons_of_mem _ (List.mem_cons_of_mem _ List.mem_cons_self)))) (by intro v hv n; simp only [List.mem_cons, List.not_mem_nil, or_false] at hv; rcases hv with rfl | rfl | rfl <;> simp)
  have hA := hL0.fc
  simp only [fcG, cellsF, neK, and_true, ne_eq, Nat.zero_add, Nat.reduceAdd] at hA
  have hP := hL0.put 3 (kb8) _ rfl [.int .u64 ((zl a : Nat) : Int), .string (zh a), .bool (zs a)] rfl
  simp only [setAll, List.set_cons_zero, List.set_cons_succ] at hP
  generalize hput1 : (((x3.setCell ⟨kb8, 0, none⟩ (.int .u64 ((zl a : Nat) : Int))).setCell ⟨kb8, 1, none⟩ (.string (zh a))).setCell ⟨kb8, 2, none⟩ (.bool (zs a))) = x4 at hP hS1
  have hB1 := hP.fc
  simp only [fcG, cellsF, neK, and_true, ne_eq, Nat.zero_add, Nat.reduceAdd] at hB1
  replace hL0 := hP
  replace hS := hS1
  clear hS1
  have hS1 := hS.put ((((Upd.refl kb9 x4).setCell 0 (.int .u64 ((zl a : Nat) : Int))).setCell 1 (.string (zh a))).setCell 2 (.bool (zs a))) (hL0.get _ _ (List.mem_cons_of_mem _ (List.mem_cons_of_mem _ List.mem_cons_self))) (by intro v hv n; simp only [List.mem_cons, List.not_mem_nil, or_false] at hv; rcases hv with rfl | rfl | rfl <;> simp)
  have hP := hL0.put 2 (kb9) _ rfl [.int .u64 ((zl a : Nat) : Int), .string (zh a), .bool (zs a)] rfl
  simp only [setAll, List.set_cons_zero, List.set_cons_succ] at hP
  generalize hput2 : (((x4.setCell ⟨kb9, 0, none⟩ (.int .u64 ((zl a : Nat) : Int))).setCell ⟨kb9, 1, none⟩ (.string (zh a))).setCell ⟨kb9, 2, none⟩ (.bool (zs a))) = x5 at hP hS1
  have hB2 := hP.fc
  simp only [fcG, cellsF, neK, and_true, ne_eq, Nat.zero_add, Nat.reduceAdd] at hB2
  replace hL0 := hP
  replace hS := hS1
  clear hS1
  have hS1 := hS.put (((Upd.refl kb10 x5).setCell 0 (.bool (zs a))).setCell 1 (.slice g1 (tln a.natAbs) d1)) (hL0.get _ _ (List.mem_cons_of_mem _ List.mem_cons_self)) (by intro v hv n; simp only [List.mem_cons, List.not_mem_nil, or_false] at hv; rcases hv with rfl | rfl <;> simp)
  have hP := hL0.put 1 (kb10) _ rfl [.bool (zs a), .slice g1 (tln a.natAbs) d1] rfl
  simp only [setAll, List.set_cons_zero, List.set_cons_succ] at hP
  generalize hput3 : ((x5.setCell ⟨kb10, 0, none⟩ (.bool (zs a))).setCell ⟨kb10, 1, none⟩ (.slice g1 (tln a.natAbs) d1)) = x6 at hP hS1
  have hB3 := hP.fc
  simp only [fcG, cellsF, neK, and_true, ne_eq, Nat.zero_add, Nat.reduceAdd] at hB3
  replace hL0 := hP
  replace hS := hS1
  clear hS1
  have hS1 := hS.put (((Upd.refl kb11 x6).setCell 0 (.bool (zs a))).setCell 1 (.slice g2 (tln a.natAbs) d2)) (hL0.get _ _ List.mem_cons_self) (by intro v hv n; simp only [List.mem_cons, List.not_mem_nil, or_false] at hv; rcases hv with rfl | rfl <;> simp)
  have hP := hL0.put 0 (kb11) _ rfl [.bool (zs a), .slice g2 (tln a.natAbs) d2] rfl
  simp only [setAll, List.set_cons_zero, List.set_cons_succ] at hP
  generalize hput4 : ((x6.setCell ⟨kb11, 0, none⟩ (.bool (zs a))).setCell ⟨kb11, 1, none⟩ (.slice g2 (tln a.natAbs) d2)) = x7 at hP hS1
  have hB4 := hP.fc
  simp only [fcG, cellsF, neK, and_true, ne_eq, Nat.zero_add, Nat.reduceAdd] at hB4
  replace hL0 := hP
  replace hS := hS1
  clear hS1
  go_wp2_with fail
  clear hA
  with_reducible refine Calls.mono (HC.out (.agg #[.bool (zs a), .slice g1 (tln a.natAbs) d1]) (.agg #[.bool (zs a), .slice g2 (tln a.natAbs) d2]) _ (rz_of (hS.get (List.mem_cons_of_mem _ List.mem_cons_self))) (rz_of (hS.get List.mem_cons_self))) ?_
  rintro e x8 ⟨rfl, hb⟩
  replace hL0 := hL0.call hb
  replace hS := hS.call hb
  clear hb hput1 hB1 hput2 hB2 hput3 hB3 hput4 hB4
  go_upto_region 5 with fail
  simp only [List.append]
  refine region_tl 72 [EV (intV a), EV (.agg #[.bool (zs a), .slice g1 (tln a.natAbs) d1]), EV (.bool true), EV (.bool true), EV (intV a), EV (intV a), EV (intV r), EV (.agg #[.bool (zs a), .slice g1 (tln a.natAbs) d1]), EV (.agg #[.bool (zs a), .slice g2 (tln a.natAbs) d2]), PZ r, EV (.bool true), EV (.bool true), EV (.bool true), EV (intV a), EV (intV a), EV (intV d), EV (.agg #[.bool (zs a), .slice g1 (tln a.natAbs) d1]), EV (.agg #[.bool (zs a), .slice g2 (tln a.natAbs) d2]), PZ d, EV (.bool true), EV (.bool true), EV (.bool true), EV (intV a), EV (intV a), EV (intV m), EV (.agg #[.bool (zs a), .slice g1 (tln a.natAbs) d1]), EV (.agg #[.bool (zs a), .slice g2 (tln a.natAbs) d2]), PZ m, EV (.bool true), EV (.bool true), EV (.bool true), EV (intV a), EV (intV n), EV (.agg #[.bool (zs a), .slice g1 (tln a.natAbs) d1]), PZ n, EV (.bool true), EV (.bool true), EV (.bool true), EV (intV a), EV (.int .i64 j), EV (.agg #[.bool (zs a), .slice g1 (tln a.natAbs) d1]), EV (.int .i64 j), EV (.bool true), EV (.bool true), EV (.bool true), EV (intV a), EV (intV a), EV (.int .i64 0), EV (.int .i64 0), EV (.bool true), EV (.bool true), EV (.bool true), EV (intV a), EV (intV a), EV (.bool true), EV (.int .i64 0), EV (.bool true), EV (.bool true), EV (.bool true), EV (.bool true), EV (intV a), EV (natV k), EV (.string t), EV (.pointer (some ⟨kb10, 1, none⟩)), EV (.slice g1 (tln a.natAbs) d1), EV (.string t), EV (.bool true), EV (.bool true), EV (.bool true), EV (.bool true), EV (.bool true), EV (.bool true)] (by kernel_rfl) (by kernel_rfl) ?_ ?_ ?_
  ·exact stays_cons (stays_eq _) (stays_cons (stays_eq _) (stays_cons (stays_eq _) (stays_cons (stays_eq _) (stays_cons (stays_eq _) (stays_cons (stays_eq _) (stays_cons (stays_eq _) (stays_cons (stays_eq _) (stays_cons (stays_eq _) (stays_cons (stays_rz _) (stays_cons (stays_eq _) (stays_cons (stays_eq _) (stays_cons (stays_eq _) (stays_cons (stays_eq _) (stays_cons (stays_eq _) (stays_cons (stays_eq _) (stays_cons (stays_eq _) (stays_cons (stays_eq _) (stays_cons (stays_rz _) (stays_cons (stays_eq _) (stays_cons (stays_eq _) (stays_cons (stays_eq _) (stays_cons (stays_eq _) (stays_cons (stays_eq _) (stays_cons (stays_eq _) (stays_cons (stays_eq _) (stays_cons (stays_eq _) (stays_cons (stays_rz _) (stays_cons (stays_eq _) (stays_cons (stays_eq _) (stays_cons (stays_eq _) (stays_cons (stays_eq _) (stays_cons (stays_eq _) (stays_cons (stays_eq _) (stays_cons (stays_rz _) (stays_cons (stays_eq _) (stays_cons (stays_eq _) (stays_cons (stays_eq _) (stays_cons (stays_eq _) (stays_cons (stays_eq _) (stays_cons (stays_eq _) (stays_cons (stays_eq _) (stays_cons (stays_eq _) (stays_cons (stays_eq _) (stays_cons (stays_eq _) (stays_cons (stays_eq _) (stays_cons (stays_eq _) (stays_cons (stays_eq _) (stays_cons (stays_eq _) (stays_cons (stays_eq _) (stays_cons (stays_eq _) (stays_cons (stays_eq _) (stays_cons (stays_eq _) (stays_cons (stays_eq _) (stays_cons (stays_eq _) (stays_cons (stays_eq _) (stays_cons (stays_eq _) (stays_cons (stays_eq _) (stays_cons (stays_eq _) (stays_cons (stays_eq _) (stays_cons (stays_eq _) (stays_cons (stays_eq _) (stays_cons (stays_eq _) (stays_cons (stays_eq _) (stays_cons (stays_eq _) (stays_cons (stays_eq _) (stays_cons (stays_eq _) (stays_cons (stays_eq _) (stays_cons (stays_eq _) (stays_cons (stays_eq _) (stays_cons (stays_eq _) (stays_cons (stays_eq _) (stays_nil))))))))))))))))))))))))))))))))))))))))))))))))))))))))))))))))))))))))
  ·simp only [List.take_succ_cons, List.take_zero, hopsR, and_true]
   refine ⟨?_, ?_, ?_, ?_, ?_, ?_, ?_, ?_, ?_, ?_, ?_, ?_, ?_, ?_, ?_, ?_, ?_, ?_, ?_, ?_, ?_, ?_, ?_, ?_, ?_, ?_, ?_, ?_, ?_, ?_, ?_, ?_, ?_, ?_, ?_, ?_, ?_, ?_, ?_, ?_, ?_, ?_, ?_, ?_, ?_, ?_, ?_, ?_, ?_, ?_, ?_, ?_, ?_, ?_, ?_, ?_, ?_, ?_, ?_, ?_, ?_, ?_, ?_, ?_, ?_, ?_, ?_, ?_, ?_, ?_, ?_, ?_⟩ <;> intro fv w1 hb1 hp
   all_goals (simp only [putsV, Act.put, List.setIfInBounds_toArray, List.set_cons_succ, List.set_cons_zero, Nat.zero_add, Nat.reduceAdd])
   ·refine tyAt_none rfl ?_
    have hc := (hL0.call (below_drew hb1)).fc
    simp only [fcG, cellsF, neK, and_true, ne_eq, Nat.zero_add, Nat.reduceAdd] at hc
    simp [tyUpon, execOp, go_sem, Act.eval, hc, Below.refl]
   ·refine tyAt_none rfl ?_
    have hc := (hL0.call (below_drew hb1)).fc
    simp only [fcG, cellsF, neK, and_true, ne_eq, Nat.zero_add, Nat.reduceAdd] at hc
    simp [tyUpon, execOp, go_sem, Act.eval, hc, Below.refl]
   ·have h0 : EV _ (fv 0) w1 := hp 0 (LC (by kernel_rfl))
    have h1 : EV _ (fv 1) w1 := hp 1 (LC (by kernel_rfl))
    refine tyAt_none rfl ?_
    refine ty_call (f := 27) (args := #[intV a, .agg #[.bool (zs a), .slice g1 (tln a.natAbs) d1]]) (by simp [execOp, go_sem, Act.eval, h0, h1]) ?_
    exact (H0.out (.agg #[.bool (zs a), .slice g1 (tln a.natAbs) d1]) w1 (hKT.out.at ((hL0.call (below_drew hb1)).bl) kKT) (rz_of (Sl.below (hS.get (List.mem_cons_of_mem _ List.mem_cons_self)) (below_drew hb1)))).mono fun e w2 ⟨h1, h2⟩ => ⟨_, h1, rfl, h2⟩
   ·have h2 : EV _ (fv 2) w1 := hp 2 (LC (by kernel_rfl))
    refine tyAt_none rfl ?_
    simp [tyUpon, execOp, go_sem, Act.eval, h2, Below.refl]
   ·have h3 : EV _ (fv 3) w1 := hp 3 (LC (by kernel_rfl))
    refine tyAt_yes (by simp [Region.wanted, yielded, h3]) ?_
    have hc := (hL0.call (below_drew hb1)).fc
    simp only [fcG, cellsF, neK, and_true, ne_eq, Nat.zero_add, Nat.reduceAdd] at hc
    simp [tyUpon, execOp, go_sem, Act.eval, hc, h3, Below.refl]
   ·have h3 : EV _ (fv 3) w1 := hp 3 (LC (by kernel_rfl))
    refine tyAt_yes (by simp [Region.wanted, yielded, h3]) ?_
    have hc := (hL0.call (below_drew hb1)).fc
    simp only [fcG, cellsF, neK, and_true, ne_eq, Nat.zero_add, Nat.reduceAdd] at hc
    simp [tyUpon, execOp, go_sem, Act.eval, hc, h3, Below.refl]
   ·have h4 : EV _ (fv 4) w1 := hp 4 (LC (by kernel_rfl))
    have h5 : EV _ (fv 5) w1 := hp 5 (LC (by kernel_rfl))
    have h3 : EV _ (fv 3) w1 := hp 3 (LC (by kernel_rfl))
    refine tyAt_yes (by simp [Region.wanted, yielded, h4, h5, h3]) ?_
    refine ty_call (f := 28) (args := #[intV a, intV a]) (by simp [execOp, go_sem, Act.eval, h4, h5, h3]) ?_
    exact (HA.out w1).mono fun e w2 ⟨h1, h2⟩ => ⟨_, h1, rfl, h2⟩
   ·have h3 : EV _ (fv 3) w1 := hp 3 (LC (by kernel_rfl))
    refine tyAt_yes (by simp [Region.wanted, yielded, h3]) ?_
    have hc := (hL0.call (below_drew hb1)).fc
    simp only [fcG, cellsF, neK, and_true, ne_eq, Nat.zero_add, Nat.reduceAdd] at hc
    simp [tyUpon, execOp, go_sem, Act.eval, hc, h3, Below.refl]
   ·have h3 : EV _ (fv 3) w1 := hp 3 (LC (by kernel_rfl))
    refine tyAt_yes (by simp [Region.wanted, yielded, h3]) ?_
    have hc := (hL0.call (below_drew hb1)).fc
    simp only [fcG, cellsF, neK, and_true, ne_eq, Nat.zero_add, Nat.reduceAdd] at hc
    simp [tyUpon, execOp, go_sem, Act.eval, hc, h3, Below.refl]
   ·have h7 : EV _ (fv 7) w1 := hp 7 (LC (by kernel_rfl))
    have h8 : EV _ (fv 8) w1 := hp 8 (LC (by kernel_rfl))
    have h3 : EV _ (fv 3) w1 := hp 3 (LC (by kernel_rfl))
    refine tyAt_yes (by simp [Region.wanted, yielded, h7, h8, h3]) ?_
    refine ty_call (f := 29) (args := #[.agg #[.bool (zs a), .slice g1 (tln a.natAbs) d1], .agg #[.bool (zs a), .slice g2 (tln a.natAbs) d2]]) (by simp [execOp, go_sem, Act.eval, h7, h8, h3]) ?_
    exact (HA2.out (.agg #[.bool (zs a), .slice g1 (tln a.natAbs) d1]) (.agg #[.bool (zs a), .slice g2 (tln a.natAbs) d2]) w1 (rz_of (Sl.below (hS.get (List.mem_cons_of_mem _ List.mem_cons_self)) (below_drew hb1))) (rz_of (Sl.below (hS.get List.mem_cons_self) (below_drew hb1)))).mono fun e w2 ⟨pv, h1, h2, h3⟩ => ⟨pv, h1, h2, h3⟩
   ·have h6 : EV _ (fv 6) w1 := hp 6 (LC (by kernel_rfl))
    have h9 : PZ _ (fv 9) w1 := hp 9 (LC (by kernel_rfl))
    have h3 : EV _ (fv 3) w1 := hp 3 (LC (by kernel_rfl))
    refine tyAt_yes (by simp [Region.wanted, yielded, h6, h3]) ?_
    refine ty_call (f := 27) (args := #[intV r, fv 9]) (by simp [execOp, go_sem, Act.eval, h6, h3]) ?_
    exact (H1.out (fv 9) w1 (hKT.out.at ((hL0.call (below_drew hb1)).bl) kKT) h9).mono fun e w2 ⟨h1, h2⟩ => ⟨_, h1, rfl, h2⟩
   ·have h3 : EV _ (fv 3) w1 := hp 3 (LC (by kernel_rfl))
    have h10 : EV _ (fv 10) w1 := hp 10 (LC (by kernel_rfl))
    refine tyAt_none rfl ?_
    simp [tyUpon, execOp, go_sem, Act.eval, h3, h10, Below.refl]
   ·have h11 : EV _ (fv 11) w1 := hp 11 (LC (by kernel_rfl))
    refine tyAt_none rfl ?_
    simp [tyUpon, execOp, go_sem, Act.eval, h11, Below.refl]
   ·have h12 : EV _ (fv 12) w1 := hp 12 (LC (by kernel_rfl))
    refine tyAt_yes (by simp [Region.wanted, yielded, h12]) ?_
    have hc := (hL0.call (below_drew hb1)).fc
    simp only [fcG, cellsF, neK, and_true, ne_eq, Nat.zero_add, Nat.reduceAdd] at hc
    simp [tyUpon, execOp, go_sem, Act.eval, hc, h12, Below.refl]
   ·have h12 : EV _ (fv 12) w1 := hp 12 (LC (by kernel_rfl))
    refine tyAt_yes (by simp [Region.wanted, yielded, h12]) ?_
    have hc := (hL0.call (below_drew hb1)).fc
    simp only [fcG, cellsF, neK, and_true, ne_eq, Nat.zero_add, Nat.reduceAdd] at hc
    simp [tyUpon, execOp, go_sem, Act.eval, hc, h12, Below.refl]
   ·have h13 : EV _ (fv 13) w1 := hp 13 (LC (by kernel_rfl))
    have h14 : EV _ (fv 14) w1 := hp 14 (LC (by kernel_rfl))
    have h12 : EV _ (fv 12) w1 := hp 12 (LC (by kernel_rfl))
    refine tyAt_yes (by simp [Region.wanted, yielded, h13, h14, h12]) ?_
    refine ty_call (f := 30) (args := #[intV a, intV a]) (by simp [execOp, go_sem, Act.eval, h13, h14, h12]) ?_
    exact (HB.out w1).mono fun e w2 ⟨h1, h2⟩ => ⟨_, h1, rfl, h2⟩
   ·have h12 : EV _ (fv 12) w1 := hp 12 (LC (by kernel_rfl))
    refine tyAt_yes (by simp [Region.wanted, yielded, h12]) ?_
    have hc := (hL0.call (below_drew hb1)).fc
    simp only [fcG, cellsF, neK, and_true, ne_eq, Nat.zero_add, Nat.reduceAdd] at hc
    simp [tyUpon, execOp, go_sem, Act.eval, hc, h12, Below.refl]
   ·have h12 : EV _ (fv 12) w1 := hp 12 (LC (by kernel_rfl))
    refine tyAt_yes (by simp [Region.wanted, yielded, h12]) ?_
    have hc := (hL0.call (below_drew hb1)).fc
    simp only [fcG, cellsF, neK, and_true, ne_eq, Nat.zero_add, Nat.reduceAdd] at hc
    simp [tyUpon, execOp, go_sem, Act.eval, hc, h12, Below.refl]
   ·have h16 : EV _ (fv 16) w1 := hp 16 (LC (by kernel_rfl))
    have h17 : EV _ (fv 17) w1 := hp 17 (LC (by kernel_rfl))
    have h12 : EV _ (fv 12) w1 := hp 12 (LC (by kernel_rfl))
    refine tyAt_yes (by simp [Region.wanted, yielded, h16, h17, h12]) ?_
    refine ty_call (f := 31) (args := #[.agg #[.bool (zs a), .slice g1 (tln a.natAbs) d1], .agg #[.bool (zs a), .slice g2 (tln a.natAbs) d2]]) (by simp [execOp, go_sem, Act.eval, h16, h17, h12]) ?_
    exact (HB2.out (.agg #[.bool (zs a), .slice g1 (tln a.natAbs) d1]) (.agg #[.bool (zs a), .slice g2 (tln a.natAbs) d2]) w1 (rz_of (Sl.below (hS.get (List.mem_cons_of_mem _ List.mem_cons_self)) (below_drew hb1))) (rz_of (Sl.below (hS.get List.mem_cons_self) (below_drew hb1)))).mono fun e w2 ⟨pv, h1, h2, h3⟩ => ⟨pv, h1, h2, h3⟩
   ·have h15 : EV _ (fv 15) w1 := hp 15 (LC (by kernel_rfl))
    have h18 : PZ _ (fv 18) w1 := hp 18 (LC (by kernel_rfl))
    have h12 : EV _ (fv 12) w1 := hp 12 (LC (by kernel_rfl))
    refine tyAt_yes (by simp [Region.wanted, yielded, h15, h12]) ?_
    refine ty_call (f := 27) (args := #[intV d, fv 18]) (by simp [execOp, go_sem, Act.eval, h15, h12]) ?_
    exact (H2.out (fv 18) w1 (hKT.out.at ((hL0.call (below_drew hb1)).bl) kKT) h18).mono fun e w2 ⟨h1, h2⟩ => ⟨_, h1, rfl, h2⟩
   ·have h12 : EV _ (fv 12) w1 := hp 12 (LC (by kernel_rfl))
    have h19 : EV _ (fv 19) w1 := hp 19 (LC (by kernel_rfl))
    refine tyAt_none rfl ?_
    simp [tyUpon, execOp, go_sem, Act.eval, h12, h19, Below.refl]
   ·have h20 : EV _ (fv 20) w1 := hp 20 (LC (by kernel_rfl))
    refine tyAt_none rfl ?_
    simp [tyUpon, execOp, go_sem, Act.eval, h20, Below.refl]
   ·have h21 : EV _ (fv 21) w1 := hp 21 (LC (by kernel_rfl))
    refine tyAt_yes (by simp [Region.wanted, yielded, h21]) ?_
    have hc := (hL0.call (below_drew hb1)).fc
    simp only [fcG, cellsF, neK, and_true, ne_eq, Nat.zero_add, Nat.reduceAdd] at hc
    simp [tyUpon, execOp, go_sem, Act.eval, hc, h21, Below.refl]
   ·have h21 : EV _ (fv 21) w1 := hp 21 (LC (by kernel_rfl))
    refine tyAt_yes (by simp [Region.wanted, yielded, h21]) ?_
    have hc := (hL0.call (below_drew hb1)).fc
    simp only [fcG, cellsF, neK, and_true, ne_eq, Nat.zero_add, Nat.reduceAdd] at hc
    simp [tyUpon, execOp, go_sem, Act.eval, hc, h21, Below.refl]
   ·have h22 : EV _ (fv 22) w1 := hp 22 (LC (by kernel_rfl))
    have h23 : EV _ (fv 23) w1 := hp 23 (LC (by kernel_rfl))
    have h21 : EV _ (fv 21) w1 := hp 21 (LC (by kernel_rfl))
    refine tyAt_yes (by simp [Region.wanted, yielded, h22, h23, h21]) ?_
    refine ty_call (f := 32) (args := #[intV a, intV a]) (by simp [execOp, go_sem, Act.eval, h22, h23, h21]) ?_
    exact (HM.out w1).mono fun e w2 ⟨h1, h2⟩ => ⟨_, h1, rfl, h2⟩
   ·have h21 : EV _ (fv 21) w1 := hp 21 (LC (by kernel_rfl))
    refine tyAt_yes (by simp [Region.wanted, yielded, h21]) ?_
    have hc := (hL0.call (below_drew hb1)).fc
    simp only [fcG, cellsF, neK, and_true, ne_eq, Nat.zero_add, Nat.reduceAdd] at hc
    simp [tyUpon, execOp, go_sem, Act.eval, hc, h21, Below.refl]
   ·have h21 : EV _ (fv 21) w1 := hp 21 (LC (by kernel_rfl))
    refine tyAt_yes (by simp [Region.wanted, yielded, h21]) ?_
    have hc := (hL0.call (below_drew hb1)).fc
    simp only [fcG, cellsF, neK, and_true, ne_eq, Nat.zero_add, Nat.reduceAdd] at hc
    simp [tyUpon, execOp, go_sem, Act.eval, hc, h21, Below.refl]
   ·have h25 : EV _ (fv 25) w1 := hp 25 (LC (by kernel_rfl))
    have h26 : EV _ (fv 26) w1 := hp 26 (LC (by kernel_rfl))
    have h21 : EV _ (fv 21) w1 := hp 21 (LC (by kernel_rfl))
    refine tyAt_yes (by simp [Region.wanted, yielded, h25, h26, h21]) ?_
    refine ty_call (f := 33) (args := #[.agg #[.bool (zs a), .slice g1 (tln a.natAbs) d1], .agg #[.bool (zs a), .slice g2 (tln a.natAbs) d2]]) (by simp [execOp, go_sem, Act.eval, h25, h26, h21]) ?_
    exact (HM2.out (.agg #[.bool (zs a), .slice g1 (tln a.natAbs) d1]) (.agg #[.bool (zs a), .slice g2 (tln a.natAbs) d2]) w1 (rz_of (Sl.below (hS.get (List.mem_cons_of_mem _ List.mem_cons_self)) (below_drew hb1))) (rz_of (Sl.below (hS.get List.mem_cons_self) (below_drew hb1)))).mono fun e w2 ⟨pv, h1, h2, h3⟩ => ⟨pv, h1, h2, h3⟩
   ·have h24 : EV _ (fv 24) w1 := hp 24 (LC (by kernel_rfl))
    have h27 : PZ _ (fv 27) w1 := hp 27 (LC (by kernel_rfl))
    have h21 : EV _ (fv 21) w1 := hp 21 (LC (by kernel_rfl))
    refine tyAt_yes (by simp [Region.wanted, yielded, h24, h21]) ?_
    refine ty_call (f := 27) (args := #[intV m, fv 27]) (by simp [execOp, go_sem, Act.eval, h24, h21]) ?_
    exact (H3.out (fv 27) w1 (hKT.out.at ((hL0.call (below_drew hb1)).bl) kKT) h27).mono fun e w2 ⟨h1, h2⟩ => ⟨_, h1, rfl, h2⟩
   ·have h21 : EV _ (fv 21) w1 := hp 21 (LC (by kernel_rfl))
    have h28 : EV _ (fv 28) w1 := hp 28 (LC (by kernel_rfl))
    refine tyAt_none rfl ?_
    simp [tyUpon, execOp, go_sem, Act.eval, h21, h28, Below.refl]
   ·have h29 : EV _ (fv 29) w1 := hp 29 (LC (by kernel_rfl))
    refine tyAt_none rfl ?_
    simp [tyUpon, execOp, go_sem, Act.eval, h29, Below.refl]
   ·have h30 : EV _ (fv 30) w1 := hp 30 (LC (by kernel_rfl))
    refine tyAt_yes (by simp [Region.wanted, yielded, h30]) ?_
    have hc := (hL0.call (below_drew hb1)).fc
    simp only [fcG, cellsF, neK, and_true, ne_eq, Nat.zero_add, Nat.reduceAdd] at hc
    simp [tyUpon, execOp, go_sem, Act.eval, hc, h30, Below.refl]
   ·have h31 : EV _ (fv 31) w1 := hp 31 (LC (by kernel_rfl))
    have h30 : EV _ (fv 30) w1 := hp 30 (LC (by kernel_rfl))
    refine tyAt_yes (by simp [Region.wanted, yielded, h31, h30]) ?_
    refine ty_call (f := 34) (args := #[intV a]) (by simp [execOp, go_sem, Act.eval, h31, h30]) ?_
    exact (HN.out w1).mono fun e w2 ⟨h1, h2⟩ => ⟨_, h1, rfl, h2⟩
   ·have h30 : EV _ (fv 30) w1 := hp 30 (LC (by kernel_rfl))
    refine tyAt_yes (by simp [Region.wanted, yielded, h30]) ?_
    have hc := (hL0.call (below_drew hb1)).fc
    simp only [fcG, cellsF, neK, and_true, ne_eq, Nat.zero_add, Nat.reduceAdd] at hc
    simp [tyUpon, execOp, go_sem, Act.eval, hc, h30, Below.refl]
   ·have h33 : EV _ (fv 33) w1 := hp 33 (LC (by kernel_rfl))
    have h30 : EV _ (fv 30) w1 := hp 30 (LC (by kernel_rfl))
    refine tyAt_yes (by simp [Region.wanted, yielded, h33, h30]) ?_
    refine ty_call (f := 35) (args := #[.agg #[.bool (zs a), .slice g1 (tln a.natAbs) d1]]) (by simp [execOp, go_sem, Act.eval, h33, h30]) ?_
    exact (HN2.out (.agg #[.bool (zs a), .slice g1 (tln a.natAbs) d1]) w1 (rz_of (Sl.below (hS.get (List.mem_cons_of_mem _ List.mem_cons_self)) (below_drew hb1)))).mono fun e w2 ⟨pv, h1, h2, h3⟩ => ⟨pv, h1, h2, h3⟩
   ·have h32 : EV _ (fv 32) w1 := hp 32 (LC (by kernel_rfl))
    have h34 : PZ _ (fv 34) w1 := hp 34 (LC (by kernel_rfl))
    have h30 : EV _ (fv 30) w1 := hp 30 (LC (by kernel_rfl))
    refine tyAt_yes (by simp [Region.wanted, yielded, h32, h30]) ?_
    refine ty_call (f := 27) (args := #[intV n, fv 34]) (by simp [execOp, go_sem, Act.eval, h32, h30]) ?_
    exact (H4.out (fv 34) w1 (hKT.out.at ((hL0.call (below_drew hb1)).bl) kKT) h34).mono fun e w2 ⟨h1, h2⟩ => ⟨_, h1, rfl, h2⟩
   ·have h30 : EV _ (fv 30) w1 := hp 30 (LC (by kernel_rfl))
    have h35 : EV _ (fv 35) w1 := hp 35 (LC (by kernel_rfl))
    refine tyAt_none rfl ?_
    simp [tyUpon, execOp, go_sem, Act.eval, h30, h35, Below.refl]
   ·have h36 : EV _ (fv 36) w1 := hp 36 (LC (by kernel_rfl))
    refine tyAt_none rfl ?_
    simp [tyUpon, execOp, go_sem, Act.eval, h36, Below.refl]
   ·have h37 : EV _ (fv 37) w1 := hp 37 (LC (by kernel_rfl))
    refine tyAt_yes (by simp [Region.wanted, yielded, h37]) ?_
    have hc := (hL0.call (below_drew hb1)).fc
    simp only [fcG, cellsF, neK, and_true, ne_eq, Nat.zero_add, Nat.reduceAdd] at hc
    simp [tyUpon, execOp, go_sem, Act.eval, hc, h37, Below.refl]
   ·have h38 : EV _ (fv 38) w1 := hp 38 (LC (by kernel_rfl))
    have h37 : EV _ (fv 37) w1 := hp 37 (LC (by kernel_rfl))
    refine tyAt_yes (by simp [Region.wanted, yielded, h38, h37]) ?_
    refine ty_call (f := 36) (args := #[intV a]) (by simp [execOp, go_sem, Act.eval, h38, h37]) ?_
    exact (HS.out w1).mono fun e w2 ⟨h1, h2⟩ => ⟨_, h1, rfl, h2⟩
   ·have h37 : EV _ (fv 37) w1 := hp 37 (LC (by kernel_rfl))
    refine tyAt_yes (by simp [Region.wanted, yielded, h37]) ?_
    have hc := (hL0.call (below_drew hb1)).fc
    simp only [fcG, cellsF, neK, and_true, ne_eq, Nat.zero_add, Nat.reduceAdd] at hc
    simp [tyUpon, execOp, go_sem, Act.eval, hc, h37, Below.refl]
   ·have h40 : EV _ (fv 40) w1 := hp 40 (LC (by kernel_rfl))
    have h37 : EV _ (fv 37) w1 := hp 37 (LC (by kernel_rfl))
    refine tyAt_yes (by simp [Region.wanted, yielded, h40, h37]) ?_
    refine ty_call (f := 37) (args := #[.agg #[.bool (zs a), .slice g1 (tln a.natAbs) d1]]) (by simp [execOp, go_sem, Act.eval, h40, h37]) ?_
    exact (HS2.out (.agg #[.bool (zs a), .slice g1 (tln a.natAbs) d1]) w1 (rz_of (Sl.below (hS.get (List.mem_cons_of_mem _ List.mem_cons_self)) (below_drew hb1)))).mono fun e w2 ⟨h1, h2⟩ => ⟨_, h1, rfl, h2⟩
   ·have h39 : EV _ (fv 39) w1 := hp 39 (LC (by kernel_rfl))
    have h41 : EV _ (fv 41) w1 := hp 41 (LC (by kernel_rfl))
    have h37 : EV _ (fv 37) w1 := hp 37 (LC (by kernel_rfl))
    refine tyAt_yes (by simp [Region.wanted, yielded, h39, h41, h37]) ?_
    simp [tyUpon, execOp, go_sem, Act.eval, h39, h41, h37, Below.refl]
   ·have h37 : EV _ (fv 37) w1 := hp 37 (LC (by kernel_rfl))
    have h42 : EV _ (fv 42) w1 := hp 42 (LC (by kernel_rfl))
    refine tyAt_none rfl ?_
    simp [tyUpon, execOp, go_sem, Act.eval, h37, h42, Below.refl]
   ·have h43 : EV _ (fv 43) w1 := hp 43 (LC (by kernel_rfl))
    refine tyAt_none rfl ?_
    simp [tyUpon, execOp, go_sem, Act.eval, h43, Below.refl]
   ·have h44 : EV _ (fv 44) w1 := hp 44 (LC (by kernel_rfl))
    refine tyAt_yes (by simp [Region.wanted, yielded, h44]) ?_
    have hc := (hL0.call (below_drew hb1)).fc
    simp only [fcG, cellsF, neK, and_true, ne_eq, Nat.zero_add, Nat.reduceAdd] at hc
    simp [tyUpon, execOp, go_sem, Act.eval, hc, h44, Below.refl]
   ·have h44 : EV _ (fv 44) w1 := hp 44 (LC (by kernel_rfl))
    refine tyAt_yes (by simp [Region.wanted, yielded, h44]) ?_
    have hc := (hL0.call (below_drew hb1)).fc
    simp only [fcG, cellsF, neK, and_true, ne_eq, Nat.zero_add, Nat.reduceAdd] at hc
    simp [tyUpon, execOp, go_sem, Act.eval, hc, h44, Below.refl]
   ·have h45 : EV _ (fv 45) w1 := hp 45 (LC (by kernel_rfl))
    have h46 : EV _ (fv 46) w1 := hp 46 (LC (by kernel_rfl))
    have h44 : EV _ (fv 44) w1 := hp 44 (LC (by kernel_rfl))
    refine tyAt_yes (by simp [Region.wanted, yielded, h45, h46, h44]) ?_
    refine ty_call (f := 38) (args := #[intV a, intV a]) (by simp [execOp, go_sem, Act.eval, h45, h46, h44]) ?_
    exact (HC2.out w1).mono fun e w2 ⟨h1, h2⟩ => ⟨_, h1, rfl, h2⟩
   ·have h44 : EV _ (fv 44) w1 := hp 44 (LC (by kernel_rfl))
    refine tyAt_yes (by simp [Region.wanted, yielded, h44]) ?_
    simp [tyUpon, execOp, go_sem, Act.eval, h44, Below.refl]
   ·have h47 : EV _ (fv 47) w1 := hp 47 (LC (by kernel_rfl))
    have h48 : EV _ (fv 48) w1 := hp 48 (LC (by kernel_rfl))
    have h44 : EV _ (fv 44) w1 := hp 44 (LC (by kernel_rfl))
    refine tyAt_yes (by simp [Region.wanted, yielded, h47, h48, h44]) ?_
    simp [tyUpon, execOp, go_sem, Act.eval, h47, h48, h44, Below.refl]
   ·have h44 : EV _ (fv 44) w1 := hp 44 (LC (by kernel_rfl))
    have h49 : EV _ (fv 49) w1 := hp 49 (LC (by kernel_rfl))
    refine tyAt_none rfl ?_
    simp [tyUpon, execOp, go_sem, Act.eval, h44, h49, Below.refl]
   ·have h50 : EV _ (fv 50) w1 := hp 50 (LC (by kernel_rfl))
    refine tyAt_none rfl ?_
    simp [tyUpon, execOp, go_sem, Act.eval, h50, Below.refl]
   ·have h51 : EV _ (fv 51) w1 := hp 51 (LC (by kernel_rfl))
    refine tyAt_yes (by simp [Region.wanted, yielded, h51]) ?_
    have hc := (hL0.call (below_drew hb1)).fc
    simp only [fcG, cellsF, neK, and_true, ne_eq, Nat.zero_add, Nat.reduceAdd] at hc
    simp [tyUpon, execOp, go_sem, Act.eval, hc, h51, Below.refl]
   ·have h51 : EV _ (fv 51) w1 := hp 51 (LC (by kernel_rfl))
    refine tyAt_yes (by simp [Region.wanted, yielded, h51]) ?_
    have hc := (hL0.call (below_drew hb1)).fc
    simp only [fcG, cellsF, neK, and_true, ne_eq, Nat.zero_add, Nat.reduceAdd] at hc
    simp [tyUpon, execOp, go_sem, Act.eval, hc, h51, Below.refl]
   ·have h52 : EV _ (fv 52) w1 := hp 52 (LC (by kernel_rfl))
    have h53 : EV _ (fv 53) w1 := hp 53 (LC (by kernel_rfl))
    have h51 : EV _ (fv 51) w1 := hp 51 (LC (by kernel_rfl))
    refine tyAt_yes (by simp [Region.wanted, yielded, h52, h53, h51]) ?_
    simp [tyUpon, execOp, go_sem, Act.eval, h52, h53, h51, Below.refl]
   ·have h51 : EV _ (fv 51) w1 := hp 51 (LC (by kernel_rfl))
    refine tyAt_yes (by simp [Region.wanted, yielded, h51]) ?_
    simp [tyUpon, execOp, go_sem, Act.eval, h51, Below.refl]
   ·have h55 : EV _ (fv 55) w1 := hp 55 (LC (by kernel_rfl))
    have h51 : EV _ (fv 51) w1 := hp 51 (LC (by kernel_rfl))
    refine tyAt_yes (by simp [Region.wanted, yielded, h55, h51]) ?_
    simp [tyUpon, execOp, go_sem, Act.eval, h55, h51, Below.refl]
   ·have h54 : EV _ (fv 54) w1 := hp 54 (LC (by kernel_rfl))
    have h56 : EV _ (fv 56) w1 := hp 56 (LC (by kernel_rfl))
    have h51 : EV _ (fv 51) w1 := hp 51 (LC (by kernel_rfl))
    refine tyAt_yes (by simp [Region.wanted, yielded, h54, h56, h51]) ?_
    simp [tyUpon, execOp, go_sem, Act.eval, h54, h56, h51, Below.refl]
   ·have h51 : EV _ (fv 51) w1 := hp 51 (LC (by kernel_rfl))
    have h57 : EV _ (fv 57) w1 := hp 57 (LC (by kernel_rfl))
    refine tyAt_none rfl ?_
    simp [tyUpon, execOp, go_sem, Act.eval, h51, h57, Below.refl]
   ·have h58 : EV _ (fv 58) w1 := hp 58 (LC (by kernel_rfl))
    refine tyAt_none rfl ?_
    simp [tyUpon, execOp, go_sem, Act.eval, h58, Below.refl]
   ·have h59 : EV _ (fv 59) w1 := hp 59 (LC (by kernel_rfl))
    refine tyAt_yes (by simp [Region.wanted, yielded, h59]) ?_
    have hc := (hL0.call (below_drew hb1)).fc
    simp only [fcG, cellsF, neK, and_true, ne_eq, Nat.zero_add, Nat.reduceAdd] at hc
    simp [tyUpon, execOp, go_sem, Act.eval, hc, h59, Below.refl]
   ·have h60 : EV _ (fv 60) w1 := hp 60 (LC (by kernel_rfl))
    have h59 : EV _ (fv 59) w1 := hp 59 (LC (by kernel_rfl))
    refine tyAt_yes (by simp [Region.wanted, yielded, h60, h59]) ?_
    refine ty_call (f := 40) (args := #[intV a]) (by simp [execOp, go_sem, Act.eval, h60, h59]) ?_
    exact (HX.out w1).mono fun e w2 ⟨h1, h2⟩ => ⟨_, h1, rfl, h2⟩
   ·have h61 : EV _ (fv 61) w1 := hp 61 (LC (by kernel_rfl))
    have h59 : EV _ (fv 59) w1 := hp 59 (LC (by kernel_rfl))
    refine tyAt_yes (by simp [Region.wanted, yielded, h61, h59]) ?_
    refine ty_call (f := 39) (args := #[natV k]) (by simp [execOp, go_sem, Act.eval, h61, h59]) ?_
    exact (HT.out w1 (hKT.out.at ((hL0.call (below_drew hb1)).bl) kKT)).mono fun e w2 ⟨h1, h2⟩ => ⟨_, h1, rfl, h2⟩
   ·have h59 : EV _ (fv 59) w1 := hp 59 (LC (by kernel_rfl))
    refine tyAt_yes (by simp [Region.wanted, yielded, h59]) ?_
    simp [tyUpon, execOp, go_sem, Act.eval, h59, Below.refl]
   ·have h63 : EV _ (fv 63) w1 := hp 63 (LC (by kernel_rfl))
    have h59 : EV _ (fv 59) w1 := hp 59 (LC (by kernel_rfl))
    refine tyAt_yes (by simp [Region.wanted, yielded, h63, h59]) ?_
    have hc := (hL0.call (below_drew hb1)).fc
    simp only [fcG, cellsF, neK, and_true, ne_eq, Nat.zero_add, Nat.reduceAdd] at hc
    simp [tyUpon, execOp, go_sem, Act.eval, hc, h63, h59, Below.refl]
   ·have h64 : EV _ (fv 64) w1 := hp 64 (LC (by kernel_rfl))
    have h59 : EV _ (fv 59) w1 := hp 59 (LC (by kernel_rfl))
    refine tyAt_yes (by simp [Region.wanted, yielded, h64, h59]) ?_
    refine ty_call (f := 41) (args := #[.slice g1 (tln a.natAbs) d1]) (by simp [execOp, go_sem, Act.eval, h64, h59]) ?_
    exact (HT2.out (.slice g1 (tln a.natAbs) d1) w1 (Sl.below (hS.get (List.mem_cons_of_mem _ List.mem_cons_self)) (below_drew hb1))).mono fun e w2 ⟨h1, h2⟩ => ⟨_, h1, rfl, h2⟩
   ·have h62 : EV _ (fv 62) w1 := hp 62 (LC (by kernel_rfl))
    have h65 : EV _ (fv 65) w1 := hp 65 (LC (by kernel_rfl))
    have h59 : EV _ (fv 59) w1 := hp 59 (LC (by kernel_rfl))
    refine tyAt_yes (by simp [Region.wanted, yielded, h62, h65, h59]) ?_
    simp [tyUpon, execOp, go_sem, Act.eval, h62, h65, h59, Below.refl]
   ·have h59 : EV _ (fv 59) w1 := hp 59 (LC (by kernel_rfl))
    have h66 : EV _ (fv 66) w1 := hp 66 (LC (by kernel_rfl))
    refine tyAt_none rfl ?_
    simp [tyUpon, execOp, go_sem, Act.eval, h59, h66, Below.refl]
   ·have h67 : EV _ (fv 67) w1 := hp 67 (LC (by kernel_rfl))
    refine tyAt_none rfl ?_
    simp [tyUpon, execOp, go_sem, Act.eval, h67, Below.refl]
   ·have h68 : EV _ (fv 68) w1 := hp 68 (LC (by kernel_rfl))
    refine tyAt_yes (by simp [Region.wanted, yielded, h68]) ?_
    refine ty_call (f := 23) (args := #[]) (by simp [execOp, go_sem, Act.eval, h68]) ?_
    exact (HW.out w1 (hKT.out.at ((hL0.call (below_drew hb1)).bl) kKT)).mono fun e w2 ⟨h1, h2⟩ => ⟨_, h1, rfl, h2⟩
   ·have h68 : EV _ (fv 68) w1 := hp 68 (LC (by kernel_rfl))
    have h69 : EV _ (fv 69) w1 := hp 69 (LC (by kernel_rfl))
    refine tyAt_none rfl ?_
    simp [tyUpon, execOp, go_sem, Act.eval, h68, h69, Below.refl]
   ·have h70 : EV _ (fv 70) w1 := hp 70 (LC (by kernel_rfl))
    refine tyAt_none rfl ?_
    simp [tyUpon, execOp, go_sem, Act.eval, h70, Below.refl]
  ·intro fv x9 hb1 hv
   have e0 : fv 0 = _ := hv 0 (by omega)
   have e1 : fv 1 = _ := hv 1 (by omega)
   have e2 : fv 2 = _ := hv 2 (by omega)
   have e3 : fv 3 = _ := hv 3 (by omega)
   have e4 : fv 4 = _ := hv 4 (by omega)
   have e5 : fv 5 = _ := hv 5 (by omega)
   have e6 : fv 6 = _ := hv 6 (by omega)
   have e7 : fv 7 = _ := hv 7 (by omega)
   have e8 : fv 8 = _ := hv 8 (by omega)
   have q9 : RZ x9 (fv 9) r := hv 9 (by omega)
   obtain ⟨g3, d3, e9⟩ := rz_form q9
   rw [e9] at q9
   have e10 : fv 10 = _ := hv 10 (by omega)
   have e11 : fv 11 = _ := hv 11 (by omega)
   have e12 : fv 12 = _ := hv 12 (by omega)
   have e13 : fv 13 = _ := hv 13 (by omega)
   have e14 : fv 14 = _ := hv 14 (by omega)
   have e15 : fv 15 = _ := hv 15 (by omega)
   have e16 : fv 16 = _ := hv 16 (by omega)
   have e17 : fv 17 = _ := hv 17 (by omega)
   have q18 : RZ x9 (fv 18) d := hv 18 (by omega)
   obtain ⟨g4, d4, e18⟩ := rz_form q18
   rw [e18] at q18
   have e19 : fv 19 = _ := hv 19 (by omega)
   have e20 : fv 20 = _ := hv 20 (by omega)
   have e21 : fv 21 = _ := hv 21 (by omega)
   have e22 : fv 22 = _ := hv 22 (by omega)
   have e23 : fv 23 = _ := hv 23 (by omega)
   have e24 : fv 24 = _ := hv 24 (by omega)
   have e25 : fv 25 = _ := hv 25 (by omega)
   have e26 : fv 26 = _ := hv 26 (by omega)
   have q27 : RZ x9 (fv 27) m := hv 27 (by omega)
   obtain ⟨g5, d5, e27⟩ := rz_form q27
   rw [e27] at q27
   have e28 : fv 28 = _ := hv 28 (by omega)
   have e29 : fv 29 = _ := hv 29 (by omega)
   have e30 : fv 30 = _ := hv 30 (by omega)
   have e31 : fv 31 = _ := hv 31 (by omega)
   have e32 : fv 32 = _ := hv 32 (by omega)
   have e33 : fv 33 = _ := hv 33 (by omega)
   have q34 : RZ x9 (fv 34) n := hv 34 (by omega)
   obtain ⟨g6, d6, e34⟩ := rz_form q34
   rw [e34] at q34
   have e35 : fv 35 = _ := hv 35 (by omega)
   have e36 : fv 36 = _ := hv 36 (by omega)
   have e37 : fv 37 = _ := hv 37 (by omega)
   have e38 : fv 38 = _ := hv 38 (by omega)
   have e39 : fv 39 = _ := hv 39 (by omega)
   have e40 : fv 40 = _ := hv 40 (by omega)
   have e41 : fv 41 = _ := hv 41 (by omega)
   have e42 : fv 42 = _ := hv 42 (by omega)
   have e43 : fv 43 = _ := hv 43 (by omega)
   have e44 : fv 44 = _ := hv 44 (by omega)
   have e45 : fv 45 = _ := hv 45 (by omega)
   have e46 : fv 46 = _ := hv 46 (by omega)
   have e47 : fv 47 = _ := hv 47 (by omega)
   have e48 : fv 48 = _ := hv 48 (by omega)
   have e49 : fv 49 = _ := hv 49 (by omega)
   have e50 : fv 50 = _ := hv 50 (by omega)
   have e51 : fv 51 = _ := hv 51 (by omega)
   have e52 : fv 52 = _ := hv 52 (by omega)
   have e53 : fv 53 = _ := hv 53 (by omega)
   have e54 : fv 54 = _ := hv 54 (by omega)
   have e55 : fv 55 = _ := hv 55 (by omega)
   have e56 : fv 56 = _ := hv 56 (by omega)
   have e57 : fv 57 = _ := hv 57 (by omega)
   have e58 : fv 58 = _ := hv 58 (by omega)
   have e59 : fv 59 = _ := hv 59 (by omega)
   have e60 : fv 60 = _ := hv 60 (by omega)
   have e61 : fv 61 = _ := hv 61 (by omega)
   have e62 : fv 62 = _ := hv 62 (by omega)
   have e63 : fv 63 = _ := hv 63 (by omega)
   have e64 : fv 64 = _ := hv 64 (by omega)
   have e65 : fv 65 = _ := hv 65 (by omega)
   have e66 : fv 66 = _ := hv 66 (by omega)
   have e67 : fv 67 = _ := hv 67 (by omega)
   have e68 : fv 68 = _ := hv 68 (by omega)
   have e69 : fv 69 = _ := hv 69 (by omega)
   have e70 : fv 70 = _ := hv 70 (by omega)
   have e71 : fv 71 = _ := hv 71 (by omega)
   simp only [List.take_succ_cons, List.take_zero, putsV, Act.put, List.setIfInBounds_toArray, List.set_cons_succ, List.set_cons_zero, List.drop_succ_cons, List.drop_zero, Nat.zero_add, Nat.reduceAdd, e0, e1, e2, e3, e4, e5, e6, e7, e8, e9, e10, e11, e12, e13, e14, e15, e16, e17, e18, e19, e20, e21, e22, e23, e24, e25, e26, e27, e28, e29, e30, e31, e32, e33, e34, e35, e36, e37, e38, e39, e40, e41, e42, e43, e44, e45, e46, e47, e48, e49, e50, e51, e52, e53, e54, e55, e56, e57, e58, e59, e60, e61, e62, e63, e64, e65, e66, e67, e68, e69, e70, e71]
   replace hL0 := hL0.call (below_drew hb1)
   replace hS := hS.call (below_drew hb1)
   replace hS := hS.cons (rz_rn q9)
   replace hS := hS.cons (rz_rn q18)
   replace hS := hS.cons (rz_rn q27)
   replace hS := hS.cons (rz_rn q34)
   clear e0 e1 e2 e3 e4 e5 e6 e7 e8 e9 e10 e11 e12 e13 e14 e15 e16 e17 e18 e19 e20 e21 e22 e23 e24 e25 e26 e27 e28 e29 e30 e31 e32 e33 e34 e35 e36 e37 e38 e39 e40 e41 e42 e43 e44 e45 e46 e47 e48 e49 e50 e51 e52 e53 e54 e55 e56 e57 e58 e59 e60 e61 e62 e63 e64 e65 e66 e67 e68 e69 e70 e71 hb1 hv q9 q18 q27 q34 fv
   go_wp2_with fail
   exact bodyPost_ret (v := .bool true) (by simp [results, Tryz.results4, go_sem]) rfl ⟨rfl, hL0.bl⟩
end Go.Proofs.YtdmoadfnogdfnaaGreatDoor
namespace Go.Proofs.YtdmoadfnogdfnaaGreatDoor
open Go.RowKit Go.Proofs.YtdmoadfnogdfnaaGreatDoor.Rx
attribute [local irreducible] lo hs sm s64 c64 d64 b64 mh ml pd pc qd qc val hiB str cmpI srD lz nb isq decB zl zh zs dval tln ztxt txt
set_option maxHeartbeats 4000000 in
set_option maxRecDepth 100000 in
theorem isums_ne (sx sy : Bool) (ax ay : Option Addr) (nx cx ny cy : Nat) (a b r d m n i j : Int) (k : Nat) (t : ByteArray) (Kx : World → Prop) (hKx : Keeps Kx) (GX : RK Kx 24 #[.agg #[.bool sx, .slice ax nx cx]] (intV a)) (Ky : World → Prop) (hKy : Keeps Ky) (GY : RK Ky 24 #[.agg #[.bool sy, .slice ay ny cy]] (intV b)) (RX : ∀ (w : World), Kx w → Calls Tryz.prog 25 #[.agg #[.bool sx, .slice ax nx cx]] w fun e w' => ∃ pv, e = .returned pv ∧ RZ w' pv a ∧ Below w.heap.size w w') (RY : ∀ (w : World), Ky w → Calls Tryz.prog 25 #[.agg #[.bool sy, .slice ay ny cy]] w fun e w' => ∃ pv, e = .returned pv ∧ RZ w' pv b ∧ Below w.heap.size w w') (HC : ∀ (p0 p1 : Value) (w : World), RZ w p0 a → RZ w p1 b → Calls Tryz.prog 26 #[p0, p1] w fun e w' => e = .returned (.int .i64 i) ∧ Below w.heap.size w w') (KT : World → Prop) (hKT : Keeps KT) (H0 : ∀ (p1 : Value) (w : World), KT w → RZ w p1 a → Calls Tryz.prog 27 #[intV a, p1] w fun e w' => e = .returned (.bool true) ∧ Below w.heap.size w w') (HA : RT 28 #[intV a, intV b] (intV r)) (HA2 : ∀ (p0 p1 : Value) (w : World), RZ w p0 a → RZ w p1 b → Calls Tryz.prog 29 #[p0, p1] w fun e w' => ∃ pv, e = .returned pv ∧ RZ w' pv r ∧ Below w.heap.size w w') (H1 : ∀ (p1 : Value) (w : World), KT w → RZ w p1 r → Calls Tryz.prog 27 #[intV r, p1] w fun e w' => e = .returned (.bool true) ∧ Below w.heap.size w w') (HB : RT 30 #[intV a, intV b] (intV d)) (HB2 : ∀ (p0 p1 : Value) (w : World), RZ w p0 a → RZ w p1 b → Calls Tryz.prog 31 #[p0, p1] w fun e w' => ∃ pv, e = .returned pv ∧ RZ w' pv d ∧ Below w.heap.size w w') (H2 : ∀ (p1 : Value) (w : World), KT w → RZ w p1 d → Calls Tryz.prog 27 #[intV d, p1] w fun e w' => e = .returned (.bool true) ∧ Below w.heap.size w w') (HM : RT 32 #[intV a, intV b] (intV m)) (HM2 : ∀ (p0 p1 : Value) (w : World), RZ w p0 a → RZ w p1 b → Calls Tryz.prog 33 #[p0, p1] w fun e w' => ∃ pv, e = .returned pv ∧ RZ w' pv m ∧ Below w.heap.size w w') (H3 : ∀ (p1 : Value) (w : World), KT w → RZ w p1 m → Calls Tryz.prog 27 #[intV m, p1] w fun e w' => e = .returned (.bool true) ∧ Below w.heap.size w w') (HN : RT 34 #[intV a] (intV n)) (HN2 : ∀ (p0 : Value) (w : World), RZ w p0 a → Calls Tryz.prog 35 #[p0] w fun e w' => ∃ pv, e = .returned pv ∧ RZ w' pv n ∧ Below w.heap.size w w') (H4 : ∀ (p1 : Value) (w : World), KT w → RZ w p1 n → Calls Tryz.prog 27 #[intV n, p1] w fun e w' => e = .returned (.bool true) ∧ Below w.heap.size w w') (HS : RT 36 #[intV a] (.int .i64 j)) (HS2 : ∀ (p0 : Value) (w : World), RZ w p0 a → Calls Tryz.prog 37 #[p0] w fun e w' => e = .returned (.int .i64 j) ∧ Below w.heap.size w w') (HC2 : RT 38 #[intV a, intV b] (.int .i64 i)) (HX : RT 40 #[intV a] (natV k)) (HT : RK KT 39 #[natV k] (.string t)) (HT2 : ∀ (p0 : Value) (w : World), Rn w p0 a.natAbs → Calls Tryz.prog 41 #[p0] w fun e w' => e = .returned (.string t) ∧ Below w.heap.size w w') (HW : RK KT 23 #[] (.bool true)) (hfew : decide (nx ≤ 16 ∧ ny ≤ 16) = true) (hne : a ≠ b) (hi : (i == 0) = false) (w : World) (kKx : Kx w) (kKy : Ky w) (kKT : KT w) :
  Calls Tryz.prog 4 #[.agg #[.bool sx, .slice ax nx cx], .agg #[.bool sy, .slice ay ny cy]] w fun e w' => e = .returned (.bool true) ∧ Below w.heap.size w w' := by
 replace hKx := Lib.hid hKx
 replace GX := Lib.hid GX
 replace hKy := Lib.hid hKy
 replace GY := Lib.hid GY
 replace RX := Lib.hid RX
 replace RY := Lib.hid RY
 replace HC := Lib.hid HC
 replace hKT := Lib.hid hKT
 replace H0 := Lib.hid H0
 replace HA := Lib.hid HA
 replace HA2 := Lib.hid HA2
 replace H1 := Lib.hid H1
 replace HB := Lib.hid HB
 replace HB2 := Lib.hid HB2
 replace H2 := Lib.hid H2
 replace HM := Lib.hid HM
 replace HM2 := Lib.hid HM2
 replace H3 := Lib.hid H3
 replace HN := Lib.hid HN
 replace HN2 := Lib.hid HN2
 replace H4 := Lib.hid H4
 replace HS := Lib.hid HS
 replace HS2 := Lib.hid HS2
 replace HC2 := Lib.hid HC2
 replace HX := Lib.hid HX
 replace HT := Lib.hid HT
 replace HT2 := Lib.hid HT2
 replace HW := Lib.hid HW
 have hL0 : GL w w [] := GL.start w
 have hS : SS w [] := SS.nil w
 replace hne := Lib.hid hne
 replace hS := (((hS.new (.cells #[.bool sx, .slice ax nx cx] 36)).new (.cells #[.bool sy, .slice ay ny cy] 36)).new (.cells #[.bool sx, .slice ax nx cx, .bool sy, .slice ay ny cy] 36))
 replace hL0 := (((hL0.new rfl [.bool sx, .slice ax nx cx] 36).new (K := w.heap.size + 1) (szA _ _) [.bool sy, .slice ay ny cy] 36).new (K := w.heap.size + 1 + 1) (by simp only [World.size_alloc]) [.bool sx, .slice ax nx cx, .bool sy, .slice ay ny cy] 36)
 generalize hweq : (((w.alloc (.cells #[.bool sx, .slice ax nx cx] 36)).alloc (.cells #[.bool sy, .slice ay ny cy] 36)).alloc (.cells #[.bool sx, .slice ax nx cx, .bool sy, .slice ay ny cy] 36)) = x1 at hL0 hS
 go_enter Tryz.func4, Tryz.ntmps4
 have hN0 := cells_of _ 0 [] rfl (hL0.get _ _ (List.mem_cons_of_mem _ List.mem_cons_self))
 simp only [cellsF, and_true, Nat.zero_add, Nat.reduceAdd] at hN0
 have hN1 := cells_of _ 0 [] rfl (hL0.get _ _ (List.mem_cons_of_mem _ (List.mem_cons_of_mem _ List.mem_cons_self)))
 simp only [cellsF, and_true, Nat.zero_add, Nat.reduceAdd] at hN1
 have HFw := few2 16 16 rfl (by omega) (hL0.get _ _ List.mem_cons_self)
 rw [hfew] at HFw
 replace HFw := Lib.hid HFw
 go_wp2_with fail
 with_reducible refine Calls.mono (HFw.out) ?_
 rintro e x2 ⟨rfl, rfl⟩
 clear HFw
 clear hN0 hN1
 go_upto_region 3 with fail
 clear hweq
 refine region_tal 12 [EV (.agg #[.bool sx, .slice ax nx cx]), EV (intV a), EV (.agg #[.bool sy, .slice ay ny cy]), EV (intV b), EV (.agg #[.bool sx, .slice ax nx cx]), PZ a, EV (.agg #[.bool sy, .slice ay ny cy]), PZ b, NewB x2.heap.size [.int .u64 0, .string ⟨#[]⟩, .bool false], NewB x2.heap.size [.int .u64 0, .string ⟨#[]⟩, .bool false], NewB x2.heap.size [.bool false, .slice none 0 0], NewB x2.heap.size [.bool false, .slice none 0 0]] [8, 9, 10, 11] (by kernel_rfl) (by kernel_rfl) ?_ ?_ ?_ ?_ ?_
 ·exact stays_cons (stays_eq _) (stays_cons (stays_eq _) (stays_cons (stays_eq _) (stays_cons (stays_eq _) (stays_cons (stays_eq _) (stays_cons (stays_rz _) (stays_cons (stays_eq _) (stays_cons (stays_rz _) (stays_cons (stays_new _ _) (stays_cons (stays_new _ _) (stays_cons (stays_new _ _) (stays_cons (stays_new _ _) (stays_nil))))))))))))
 ·simp only [List.take_succ_cons, List.take_zero, hopsR, and_true]
  refine ⟨?_, ?_, ?_, ?_, ?_, ?_, ?_, ?_, ?_, ?_, ?_, ?_⟩ <;> intro fv w1 hb1 hp
  all_goals (simp only [putsV, Act.put, List.setIfInBounds_toArray, List.set_cons_succ, List.set_cons_zero, Nat.zero_add, Nat.reduceAdd])
  ·refine tyAt_none rfl ?_
   have hc := (hL0.call (below_drew hb1)).fc
   simp only [fcG, cellsF, neK, and_true, ne_eq, Nat.zero_add, Nat.reduceAdd] at hc
   simp [tyUpon, execOp, go_sem, Act.eval, hc, (beq_eq_false_iff_ne.1 hi), Below.refl]
  ·have h0 : EV _ (fv 0) w1 := hp 0 (LC (by kernel_rfl))
   refine tyAt_none rfl ?_
   refine ty_call (f := 24) (args := #[.agg #[.bool sx, .slice ax nx cx]]) (by simp [execOp, go_sem, Act.eval, h0]) ?_
   exact (GX.out w1 (hKx.out.at ((hL0.call (below_drew hb1)).bl) kKx)).mono fun e w2 ⟨h1, h2⟩ => ⟨_, h1, rfl, h2⟩
  ·refine tyAt_none rfl ?_
   have hc := (hL0.call (below_drew hb1)).fc
   simp only [fcG, cellsF, neK, and_true, ne_eq, Nat.zero_add, Nat.reduceAdd] at hc
   simp [tyUpon, execOp, go_sem, Act.eval, hc, (beq_eq_false_iff_ne.1 hi), Below.refl]
  ·have h2 : EV _ (fv 2) w1 := hp 2 (LC (by kernel_rfl))
   refine tyAt_none rfl ?_
   refine ty_call (f := 24) (args := #[.agg #[.bool sy, .slice ay ny cy]]) (by simp [execOp, go_sem, Act.eval, h2]) ?_
   exact (GY.out w1 (hKy.out.at ((hL0.call (below_drew hb1)).bl) kKy)).mono fun e w2 ⟨h1, h2⟩ => ⟨_, h1, rfl, h2⟩
  ·refine tyAt_none rfl ?_
   have hc := (hL0.call (below_drew hb1)).fc
   simp only [fcG, cellsF, neK, and_true, ne_eq, Nat.zero_add, Nat.reduceAdd] at hc
   simp [tyUpon, execOp, go_sem, Act.eval, hc, (beq_eq_false_iff_ne.1 hi), Below.refl]
  ·have h4 : EV _ (fv 4) w1 := hp 4 (LC (by kernel_rfl))
   refine tyAt_none rfl ?_
   refine ty_call (f := 25) (args := #[.agg #[.bool sx, .slice ax nx cx]]) (by simp [execOp, go_sem, Act.eval, h4]) ?_
   exact (RX.out w1 (hKx.out.at ((hL0.call (below_drew hb1)).bl) kKx)).mono fun e w2 ⟨pv, h1, h2, h3⟩ => ⟨pv, h1, h2, h3⟩
  ·refine tyAt_none rfl ?_
   have hc := (hL0.call (below_drew hb1)).fc
   simp only [fcG, cellsF, neK, and_true, ne_eq, Nat.zero_add, Nat.reduceAdd] at hc
   simp [tyUpon, execOp, go_sem, Act.eval, hc, (beq_eq_false_iff_ne.1 hi), Below.refl]
  ·have h6 : EV _ (fv 6) w1 := hp 6 (LC (by kernel_rfl))
   refine tyAt_none rfl ?_
   refine ty_call (f := 25) (args := #[.agg #[.bool sy, .slice ay ny cy]]) (by simp [execOp, go_sem, Act.eval, h6]) ?_
   exact (RY.out w1 (hKy.out.at ((hL0.call (below_drew hb1)).bl) kKy)).mono fun e w2 ⟨pv, h1, h2, h3⟩ => ⟨pv, h1, h2, h3⟩
  ·exact tyAt_new rfl rfl new_int (below_drew hb1).size
  ·exact tyAt_new rfl rfl new_int (below_drew hb1).size
  ·exact tyAt_new rfl rfl new_rz (below_drew hb1).size
  ·exact tyAt_new rfl rfl new_rz (below_drew hb1).size
 ·intro j hj u w2 hT
  simp only [List.contains_iff_mem, List.mem_cons, List.not_mem_nil, or_false] at hj
  rcases hj with rfl | rfl | rfl | rfl <;> exact NewB.ptr hT
 ·exact ⟨⟨_, _, _, _, rfl, rfl, rfl, new_int⟩, ⟨_, _, _, _, rfl, rfl, rfl, new_int⟩, ⟨_, _, _, _, rfl, rfl, rfl, new_rz⟩, ⟨_, _, _, _, rfl, rfl, rfl, new_rz⟩, trivial⟩
 ·intro fv x3 hb1 hv hne
  have e0 : fv 0 = _ := hv 0 (by omega)
  have e1 : fv 1 = _ := hv 1 (by omega)
  have e2 : fv 2 = _ := hv 2 (by omega)
  have e3 : fv 3 = _ := hv 3 (by omega)
  have e4 : fv 4 = _ := hv 4 (by omega)
  have q5 : RZ x3 (fv 5) a := hv 5 (by omega)
  obtain ⟨g1, d1, e5⟩ := rz_form q5
  rw [e5] at q5
  have e6 : fv 6 = _ := hv 6 (by omega)
  have q7 : RZ x3 (fv 7) b := hv 7 (by omega)
  obtain ⟨g2, d2, e7⟩ := rz_form q7
  rw [e7] at q7
  obtain ⟨kb8, e8, n8, m8⟩ : NewB x2.heap.size [.int .u64 0, .string ⟨#[]⟩, .bool false] (fv 8) x3 := hv 8 (by omega)
  obtain ⟨kb9, e9, n9, m9⟩ : NewB x2.heap.size [.int .u64 0, .string ⟨#[]⟩, .bool false] (fv 9) x3 := hv 9 (by omega)
  obtain ⟨kb10, e10, n10, m10⟩ : NewB x2.heap.size [.bool false, .slice none 0 0] (fv 10) x3 := hv 10 (by omega)
  obtain ⟨kb11, e11, n11, m11⟩ : NewB x2.heap.size [.bool false, .slice none 0 0] (fv 11) x3 := hv 11 (by omega)
  simp only [List.take_succ_cons, List.take_zero, putsV, Act.put, List.setIfInBounds_toArray, List.set_cons_succ, List.set_cons_zero, List.drop_succ_cons, List.drop_zero, Nat.zero_add, Nat.reduceAdd, e0, e1, e2, e3, e4, e5, e6, e7, e8, e9, e10, e11]
  have hx0 := hL0
  replace hL0 := hL0.call (below_drew hb1)
  replace hS := hS.call (below_drew hb1)
  replace hL0 := GL.tnew (M := []) hL0 hx0 n8 m8 (fun p hp => by cases hp)
  replace hL0 := GL.tnew (M := [(kb8, [.int .u64 0, .string ⟨#[]⟩, .bool false])]) hL0 hx0 n9 m9 (by intro p hp; simp only [List.mem_cons, List.not_mem_nil, or_false] at hp; rcases hp with rfl; exact ptr_ne e8 e9 (hne 8 9 (by omega) (by omega) (by omega) rfl rfl))
  replace hL0 := GL.tnew (M := [(kb9, [.int .u64 0, .string ⟨#[]⟩, .bool false]), (kb8, [.int .u64 0, .string ⟨#[]⟩, .bool false])]) hL0 hx0 n10 m10 (by intro p hp; simp only [List.mem_cons, List.not_mem_nil, or_false] at hp; rcases hp with rfl | rfl; exact ptr_ne e9 e10 (hne 9 10 (by omega) (by omega) (by omega) rfl rfl); exact ptr_ne e8 e10 (hne 8 10 (by omega) (by omega) (by omega) rfl rfl))
  replace hL0 := GL.tnew (M := [(kb10, [.bool false, .slice none 0 0]), (kb9, [.int .u64 0, .string ⟨#[]⟩, .bool false]), (kb8, [.int .u64 0, .string ⟨#[]⟩, .bool false])]) hL0 hx0 n11 m11 (by intro p hp; simp only [List.mem_cons, List.not_mem_nil, or_false] at hp; rcases hp with rfl | rfl | rfl; exact ptr_ne e10 e11 (hne 10 11 (by omega) (by omega) (by omega) rfl rfl); exact ptr_ne e9 e11 (hne 9 11 (by omega) (by omega) (by omega) rfl rfl); exact ptr_ne e8 e11 (hne 8 11 (by omega) (by omega) (by omega) rfl rfl))
  simp only [List.cons_append, List.nil_append] at hL0
  replace hS := hS.cons (rz_rn q5)
  replace hS := hS.cons (rz_rn q7)
  clear e0 e1 e2 e3 e4 e5 e6 e7 e8 e9 e10 e11 hb1 hv hne hx0 n8 m8 n9 m9 n10 m10 n11 m11 q5 q7 fv
  have hS1 := hS.put ((((Upd.refl kb8 x3).setCell 0 (.int .u64 ((zl a : Nat) : Int))).setCell 1 (.string (zh a))).setCell 2 (.bool (zs a))) (hL0.get _ _ (List.mem_cons_of_mem _ (List.mem_cons_of_mem _ (List.mem_cons_of_mem _ List.mem_cons_self)))) (by intro v hv n; simp only [List.mem_cons, List.not_mem_nil, or_false] at hv; rcases hv with rfl | rfl | rfl <;> simp)
  have hA := hL0.fc
  simp only [fcG, cellsF, neK, and_true, ne_eq, Nat.zero_add, Nat.reduceAdd] at hA
  have hP := hL0.put 3 (kb8) _ rfl [.int .u64 ((zl a : Nat) : Int), .string (zh a), .bool (zs a)] rfl
  simp only [setAll, List.set_cons_zero, List.set_cons_succ] at hP
  generalize hput1 : (((x3.setCell ⟨kb8, 0, none⟩ (.int .u64 ((zl a : Nat) : Int))).setCell ⟨kb8, 1, none⟩ (.string (zh a))).setCell ⟨kb8, 2, none⟩ (.bool (zs a))) = x4 at hP hS1
  have hB1 := hP.fc
  simp only [fcG, cellsF, neK, and_true, ne_eq, Nat.zero_add, Nat.reduceAdd] at hB1
  replace hL0 := hP
  replace hS := hS1
  clear hS1
  have hS1 := hS.put ((((Upd.refl kb9 x4).setCell 0 (.int .u64 ((zl b : Nat) : Int))).setCell 1 (.string (zh b))).setCell 2 (.bool (zs b))) (hL0.get _ _ (List.mem_cons_of_mem _ (List.mem_cons_of_mem _ List.mem_cons_self))) (by intro v hv n; simp only [List.mem_cons, List.not_mem_nil, or_false] at hv; rcases hv with rfl | rfl | rfl <;> simp)
  have hP := hL0.put 2 (kb9) _ rfl [.int .u64 ((zl b : Nat) : Int), .string (zh b), .bool (zs b)] rfl
  simp only [setAll, List.set_cons_zero, List.set_cons_succ] at hP
  generalize hput2 : (((x4.setCell ⟨kb9, 0, none⟩ (.int .u64 ((zl b : Nat) : Int))).setCell ⟨kb9, 1, none⟩ (.string (zh b))).setCell ⟨kb9, 2, none⟩ (.bool (zs b))) = x5 at hP hS1
  have hB2 := hP.fc
  simp only [fcG, cellsF, neK, and_true, ne_eq, Nat.zero_add, Nat.reduceAdd] at hB2
  replace hL0 := hP
  replace hS := hS1
  clear hS1
  have hS1 := hS.put (((Upd.refl kb10 x5).setCell 0 (.bool (zs a))).setCell 1 (.slice g1 (tln a.natAbs) d1)) (hL0.get _ _ (List.mem_cons_of_mem _ List.mem_cons_self)) (by intro v hv n; simp only [List.mem_cons, List.not_mem_nil, or_false] at hv; rcases hv with rfl | rfl <;> simp)
  have hP := hL0.put 1 (kb10) _ rfl [.bool (zs a), .slice g1 (tln a.natAbs) d1] rfl
  simp only [setAll, List.set_cons_zero, List.set_cons_succ] at hP
  generalize hput3 : ((x5.setCell ⟨kb10, 0, none⟩ (.bool (zs a))).setCell ⟨kb10, 1, none⟩ (.slice g1 (tln a.natAbs) d1)) = x6 at hP hS1
  have hB3 := hP.fc
  simp only [fcG, cellsF, neK, and_true, ne_eq, Nat.zero_add, Nat.reduceAdd] at hB3
  replace hL0 := hP
  replace hS := hS1
  clear hS1
  have hS1 := hS.put (((Upd.refl kb11 x6).setCell 0 (.bool (zs b))).setCell 1 (.slice g2 (tln b.natAbs) d2)) (hL0.get _ _ List.mem_cons_self) (by intro v hv n; simp only [List.mem_cons, List.not_mem_nil, or_false] at hv; rcases hv with rfl | rfl <;> simp)
  have hP := hL0.put 0 (kb11) _ rfl [.bool (zs b), .slice g2 (tln b.natAbs) d2] rfl
  simp only [setAll, List.set_cons_zero, List.set_cons_succ] at hP
  generalize hput4 : ((x6.setCell ⟨kb11, 0, none⟩ (.bool (zs b))).setCell ⟨kb11, 1, none⟩ (.slice g2 (tln b.natAbs) d2)) = x7 at hP hS1
  have hB4 := hP.fc
  simp only [fcG, cellsF, neK, and_true, ne_eq, Nat.zero_add, Nat.reduceAdd] at hB4
  replace hL0 := hP
  replace hS := hS1
  clear hS1
  go_wp2_with fail
  clear hA
  with_reducible refine Calls.mono (HC.out (.agg #[.bool (zs a), .slice g1 (tln a.natAbs) d1]) (.agg #[.bool (zs b), .slice g2 (tln b.natAbs) d2]) _ (rz_of (hS.get (List.mem_cons_of_mem _ List.mem_cons_self))) (rz_of (hS.get List.mem_cons_self))) ?_
  rintro e x8 ⟨rfl, hb⟩
  replace hL0 := hL0.call hb
  replace hS := hS.call hb
  clear hb hput1 hB1 hput2 hB2 hput3 hB3 hput4 hB4
  go_upto_region 5 with fail
  simp only [List.append]
  refine region_tl 72 [EV (intV a), EV (.agg #[.bool (zs a), .slice g1 (tln a.natAbs) d1]), EV (.bool true), EV (.bool true), EV (intV a), EV (intV b), EV (intV r), EV (.agg #[.bool (zs a), .slice g1 (tln a.natAbs) d1]), EV (.agg #[.bool (zs b), .slice g2 (tln b.natAbs) d2]), PZ r, EV (.bool true), EV (.bool true), EV (.bool true), EV (intV a), EV (intV b), EV (intV d), EV (.agg #[.bool (zs a), .slice g1 (tln a.natAbs) d1]), EV (.agg #[.bool (zs b), .slice g2 (tln b.natAbs) d2]), PZ d, EV (.bool true), EV (.bool true), EV (.bool true), EV (intV a), EV (intV b), EV (intV m), EV (.agg #[.bool (zs a), .slice g1 (tln a.natAbs) d1]), EV (.agg #[.bool (zs b), .slice g2 (tln b.natAbs) d2]), PZ m, EV (.bool true), EV (.bool true), EV (.bool true), EV (intV a), EV (intV n), EV (.agg #[.bool (zs a), .slice g1 (tln a.natAbs) d1]), PZ n, EV (.bool true), EV (.bool true), EV (.bool true), EV (intV a), EV (.int .i64 j), EV (.agg #[.bool (zs a), .slice g1 (tln a.natAbs) d1]), EV (.int .i64 j), EV (.bool true), EV (.bool true), EV (.bool true), EV (intV a), EV (intV b), EV (.int .i64 i), EV (.int .i64 i), EV (.bool true), EV (.bool true), EV (.bool true), EV (intV a), EV (intV b), EV (.bool false), EV (.int .i64 i), EV (.bool false), EV (.bool true), EV (.bool true), EV (.bool true), EV (intV a), EV (natV k), EV (.string t), EV (.pointer (some ⟨kb10, 1, none⟩)), EV (.slice g1 (tln a.natAbs) d1), EV (.string t), EV (.bool true), EV (.bool true), EV (.bool true), EV (.bool true), EV (.bool true), EV (.bool true)] (by kernel_rfl) (by kernel_rfl) ?_ ?_ ?_
  ·exact stays_cons (stays_eq _) (stays_cons (stays_eq _) (stays_cons (stays_eq _) (stays_cons (stays_eq _) (stays_cons (stays_eq _) (stays_cons (stays_eq _) (stays_cons (stays_eq _) (stays_cons (stays_eq _) (stays_cons (stays_eq _) (stays_cons (stays_rz _) (stays_cons (stays_eq _) (stays_cons (stays_eq _) (stays_cons (stays_eq _) (stays_cons (stays_eq _) (stays_cons (stays_eq _) (stays_cons (stays_eq _) (stays_cons (stays_eq _) (stays_cons (stays_eq _) (stays_cons (stays_rz _) (stays_cons (stays_eq _) (stays_cons (stays_eq _) (stays_cons (stays_eq _) (stays_cons (stays_eq _) (stays_cons (stays_eq _) (stays_cons (stays_eq _) (stays_cons (stays_eq _) (stays_cons (stays_eq _) (stays_cons (stays_rz _) (stays_cons (stays_eq _) (stays_cons (stays_eq _) (stays_cons (stays_eq _) (stays_cons (stays_eq _) (stays_cons (stays_eq _) (stays_cons (stays_eq _) (stays_cons (stays_rz _) (stays_cons (stays_eq _) (stays_cons (stays_eq _) (stays_cons (stays_eq _) (stays_cons (stays_eq _) (stays_cons (stays_eq _) (stays_cons (stays_eq _) (stays_cons (stays_eq _) (stays_cons (stays_eq _) (stays_cons (stays_eq _) (stays_cons (stays_eq _) (stays_cons (stays_eq _) (stays_cons (stays_eq _) (stays_cons (stays_eq _) (stays_cons (stays_eq _) (stays_cons (stays_eq _) (stays_cons (stays_eq _) (stays_cons (stays_eq _) (stays_cons (stays_eq _) (stays_cons (stays_eq _) (stays_cons (stays_eq _) (stays_cons (stays_eq _) (stays_cons (stays_eq _) (stays_cons (stays_eq _) (stays_cons (stays_eq _) (stays_cons (stays_eq _) (stays_cons (stays_eq _) (stays_cons (stays_eq _) (stays_cons (stays_eq _) (stays_cons (stays_eq _) (stays_cons (stays_eq _) (stays_cons (stays_eq _) (stays_cons (stays_eq _) (stays_cons (stays_eq _) (stays_cons (stays_eq _) (stays_cons (stays_eq _) (stays_cons (stays_eq _) (stays_cons (stays_eq _) (stays_nil))))))))))))))))))))))))))))))))))))))))))))))))))))))))))))))))))))))))
  ·simp only [List.take_succ_cons, List.take_zero, hopsR, and_true]
   refine ⟨?_, ?_, ?_, ?_, ?_, ?_, ?_, ?_, ?_, ?_, ?_, ?_, ?_, ?_, ?_, ?_, ?_, ?_, ?_, ?_, ?_, ?_, ?_, ?_, ?_, ?_, ?_, ?_, ?_, ?_, ?_, ?_, ?_, ?_, ?_, ?_, ?_, ?_, ?_, ?_, ?_, ?_, ?_, ?_, ?_, ?_, ?_, ?_, ?_, ?_, ?_, ?_, ?_, ?_, ?_, ?_, ?_, ?_, ?_, ?_, ?_, ?_, ?_, ?_, ?_, ?_, ?_, ?_, ?_, ?_, ?_, ?_⟩ <;> intro fv w1 hb1 hp
   all_goals (simp only [putsV, Act.put, List.setIfInBounds_toArray, List.set_cons_succ, List.set_cons_zero, Nat.zero_add, Nat.reduceAdd])
   ·refine tyAt_none rfl ?_
    have hc := (hL0.call (below_drew hb1)).fc
    simp only [fcG, cellsF, neK, and_true, ne_eq, Nat.zero_add, Nat.reduceAdd] at hc
    simp [tyUpon, execOp, go_sem, Act.eval, hc, (beq_eq_false_iff_ne.1 hi), Below.refl]
   ·refine tyAt_none rfl ?_
    have hc := (hL0.call (below_drew hb1)).fc
    simp only [fcG, cellsF, neK, and_true, ne_eq, Nat.zero_add, Nat.reduceAdd] at hc
    simp [tyUpon, execOp, go_sem, Act.eval, hc, (beq_eq_false_iff_ne.1 hi), Below.refl]
   ·have h0 : EV _ (fv 0) w1 := hp 0 (LC (by kernel_rfl))
    have h1 : EV _ (fv 1) w1 := hp 1 (LC (by kernel_rfl))
    refine tyAt_none rfl ?_
    refine ty_call (f := 27) (args := #[intV a, .agg #[.bool (zs a), .slice g1 (tln a.natAbs) d1]]) (by simp [execOp, go_sem, Act.eval, h0, h1]) ?_
    exact (H0.out (.agg #[.bool (zs a), .slice g1 (tln a.natAbs) d1]) w1 (hKT.out.at ((hL0.call (below_drew hb1)).bl) kKT) (rz_of (Sl.below (hS.get (List.mem_cons_of_mem _ List.mem_cons_self)) (below_drew hb1)))).mono fun e w2 ⟨h1, h2⟩ => ⟨_, h1, rfl, h2⟩
   ·have h2 : EV _ (fv 2) w1 := hp 2 (LC (by kernel_rfl))
    refine tyAt_none rfl ?_
    simp [tyUpon, execOp, go_sem, Act.eval, h2, (beq_eq_false_iff_ne.1 hi), Below.refl]
   ·have h3 : EV _ (fv 3) w1 := hp 3 (LC (by kernel_rfl))
    refine tyAt_yes (by simp [Region.wanted, yielded, h3]) ?_
    have hc := (hL0.call (below_drew hb1)).fc
    simp only [fcG, cellsF, neK, and_true, ne_eq, Nat.zero_add, Nat.reduceAdd] at hc
    simp [tyUpon, execOp, go_sem, Act.eval, hc, h3, (beq_eq_false_iff_ne.1 hi), Below.refl]
   ·have h3 : EV _ (fv 3) w1 := hp 3 (LC (by kernel_rfl))
    refine tyAt_yes (by simp [Region.wanted, yielded, h3]) ?_
    have hc := (hL0.call (below_drew hb1)).fc
    simp only [fcG, cellsF, neK, and_true, ne_eq, Nat.zero_add, Nat.reduceAdd] at hc
    simp [tyUpon, execOp, go_sem, Act.eval, hc, h3, (beq_eq_false_iff_ne.1 hi), Below.refl]
   ·have h4 : EV _ (fv 4) w1 := hp 4 (LC (by kernel_rfl))
    have h5 : EV _ (fv 5) w1 := hp 5 (LC (by kernel_rfl))
    have h3 : EV _ (fv 3) w1 := hp 3 (LC (by kernel_rfl))
    refine tyAt_yes (by simp [Region.wanted, yielded, h4, h5, h3]) ?_
    refine ty_call (f := 28) (args := #[intV a, intV b]) (by simp [execOp, go_sem, Act.eval, h4, h5, h3]) ?_
    exact (HA.out w1).mono fun e w2 ⟨h1, h2⟩ => ⟨_, h1, rfl, h2⟩
   ·have h3 : EV _ (fv 3) w1 := hp 3 (LC (by kernel_rfl))
    refine tyAt_yes (by simp [Region.wanted, yielded, h3]) ?_
    have hc := (hL0.call (below_drew hb1)).fc
    simp only [fcG, cellsF, neK, and_true, ne_eq, Nat.zero_add, Nat.reduceAdd] at hc
    simp [tyUpon, execOp, go_sem, Act.eval, hc, h3, (beq_eq_false_iff_ne.1 hi), Below.refl]
   ·have h3 : EV _ (fv 3) w1 := hp 3 (LC (by kernel_rfl))
    refine tyAt_yes (by simp [Region.wanted, yielded, h3]) ?_
    have hc := (hL0.call (below_drew hb1)).fc
    simp only [fcG, cellsF, neK, and_true, ne_eq, Nat.zero_add, Nat.reduceAdd] at hc
    simp [tyUpon, execOp, go_sem, Act.eval, hc, h3, (beq_eq_false_iff_ne.1 hi), Below.refl]
   ·have h7 : EV _ (fv 7) w1 := hp 7 (LC (by kernel_rfl))
    have h8 : EV _ (fv 8) w1 := hp 8 (LC (by kernel_rfl))
    have h3 : EV _ (fv 3) w1 := hp 3 (LC (by kernel_rfl))
    refine tyAt_yes (by simp [Region.wanted, yielded, h7, h8, h3]) ?_
    refine ty_call (f := 29) (args := #[.agg #[.bool (zs a), .slice g1 (tln a.natAbs) d1], .agg #[.bool (zs b), .slice g2 (tln b.natAbs) d2]]) (by simp [execOp, go_sem, Act.eval, h7, h8, h3]) ?_
    exact (HA2.out (.agg #[.bool (zs a), .slice g1 (tln a.natAbs) d1]) (.agg #[.bool (zs b), .slice g2 (tln b.natAbs) d2]) w1 (rz_of (Sl.below (hS.get (List.mem_cons_of_mem _ List.mem_cons_self)) (below_drew hb1))) (rz_of (Sl.below (hS.get List.mem_cons_self) (below_drew hb1)))).mono fun e w2 ⟨pv, h1, h2, h3⟩ => ⟨pv, h1, h2, h3⟩
   ·have h6 : EV _ (fv 6) w1 := hp 6 (LC (by kernel_rfl))
    have h9 : PZ _ (fv 9) w1 := hp 9 (LC (by kernel_rfl))
    have h3 : EV _ (fv 3) w1 := hp 3 (LC (by kernel_rfl))
    refine tyAt_yes (by simp [Region.wanted, yielded, h6, h3]) ?_
    refine ty_call (f := 27) (args := #[intV r, fv 9]) (by simp [execOp, go_sem, Act.eval, h6, h3]) ?_
    exact (H1.out (fv 9) w1 (hKT.out.at ((hL0.call (below_drew hb1)).bl) kKT) h9).mono fun e w2 ⟨h1, h2⟩ => ⟨_, h1, rfl, h2⟩
   ·have h3 : EV _ (fv 3) w1 := hp 3 (LC (by kernel_rfl))
    have h10 : EV _ (fv 10) w1 := hp 10 (LC (by kernel_rfl))
    refine tyAt_none rfl ?_
    simp [tyUpon, execOp, go_sem, Act.eval, h3, h10, (beq_eq_false_iff_ne.1 hi), Below.refl]
   ·have h11 : EV _ (fv 11) w1 := hp 11 (LC (by kernel_rfl))
    refine tyAt_none rfl ?_
    simp [tyUpon, execOp, go_sem, Act.eval, h11, (beq_eq_false_iff_ne.1 hi), Below.refl]
   ·have h12 : EV _ (fv 12) w1 := hp 12 (LC (by kernel_rfl))
    refine tyAt_yes (by simp [Region.wanted, yielded, h12]) ?_
    have hc := (hL0.call (below_drew hb1)).fc
    simp only [fcG, cellsF, neK, and_true, ne_eq, Nat.zero_add, Nat.reduceAdd] at hc
    simp [tyUpon, execOp, go_sem, Act.eval, hc, h12, (beq_eq_false_iff_ne.1 hi), Below.refl]
   ·have h12 : EV _ (fv 12) w1 := hp 12 (LC (by kernel_rfl))
    refine tyAt_yes (by simp [Region.wanted, yielded, h12]) ?_
    have hc := (hL0.call (below_drew hb1)).fc
    simp only [fcG, cellsF, neK, and_true, ne_eq, Nat.zero_add, Nat.reduceAdd] at hc
    simp [tyUpon, execOp, go_sem, Act.eval, hc, h12, (beq_eq_false_iff_ne.1 hi), Below.refl]
   ·have h13 : EV _ (fv 13) w1 := hp 13 (LC (by kernel_rfl))
    have h14 : EV _ (fv 14) w1 := hp 14 (LC (by kernel_rfl))
    have h12 : EV _ (fv 12) w1 := hp 12 (LC (by kernel_rfl))
    refine tyAt_yes (by simp [Region.wanted, yielded, h13, h14, h12]) ?_
    refine ty_call (f := 30) (args := #[intV a, intV b]) (by simp [execOp, go_sem, Act.eval, h13, h14, h12]) ?_
    exact (HB.out w1).mono fun e w2 ⟨h1, h2⟩ => ⟨_, h1, rfl, h2⟩
   ·have h12 : EV _ (fv 12) w1 := hp 12 (LC (by kernel_rfl))
    refine tyAt_yes (by simp [Region.wanted, yielded, h12]) ?_
    have hc := (hL0.call (below_drew hb1)).fc
    simp only [fcG, cellsF, neK, and_true, ne_eq, Nat.zero_add, Nat.reduceAdd] at hc
    simp [tyUpon, execOp, go_sem, Act.eval, hc, h12, (beq_eq_false_iff_ne.1 hi), Below.refl]
   ·have h12 : EV _ (fv 12) w1 := hp 12 (LC (by kernel_rfl))
    refine tyAt_yes (by simp [Region.wanted, yielded, h12]) ?_
    have hc := (hL0.call (below_drew hb1)).fc
    simp only [fcG, cellsF, neK, and_true, ne_eq, Nat.zero_add, Nat.reduceAdd] at hc
    simp [tyUpon, execOp, go_sem, Act.eval, hc, h12, (beq_eq_false_iff_ne.1 hi), Below.refl]
   ·have h16 : EV _ (fv 16) w1 := hp 16 (LC (by kernel_rfl))
    have h17 : EV _ (fv 17) w1 := hp 17 (LC (by kernel_rfl))
    have h12 : EV _ (fv 12) w1 := hp 12 (LC (by kernel_rfl))
    refine tyAt_yes (by simp [Region.wanted, yielded, h16, h17, h12]) ?_
    refine ty_call (f := 31) (args := #[.agg #[.bool (zs a), .slice g1 (tln a.natAbs) d1], .agg #[.bool (zs b), .slice g2 (tln b.natAbs) d2]]) (by simp [execOp, go_sem, Act.eval, h16, h17, h12]) ?_
    exact (HB2.out (.agg #[.bool (zs a), .slice g1 (tln a.natAbs) d1]) (.agg #[.bool (zs b), .slice g2 (tln b.natAbs) d2]) w1 (rz_of (Sl.below (hS.get (List.mem_cons_of_mem _ List.mem_cons_self)) (below_drew hb1))) (rz_of (Sl.below (hS.get List.mem_cons_self) (below_drew hb1)))).mono fun e w2 ⟨pv, h1, h2, h3⟩ => ⟨pv, h1, h2, h3⟩
   ·have h15 : EV _ (fv 15) w1 := hp 15 (LC (by kernel_rfl))
    have h18 : PZ _ (fv 18) w1 := hp 18 (LC (by kernel_rfl))
    have h12 : EV _ (fv 12) w1 := hp 12 (LC (by kernel_rfl))
    refine tyAt_yes (by simp [Region.wanted, yielded, h15, h12]) ?_
    refine ty_call (f := 27) (args := #[intV d, fv 18]) (by simp [execOp, go_sem, Act.eval, h15, h12]) ?_
    exact (H2.out (fv 18) w1 (hKT.out.at ((hL0.call (below_drew hb1)).bl) kKT) h18).mono fun e w2 ⟨h1, h2⟩ => ⟨_, h1, rfl, h2⟩
   ·have h12 : EV _ (fv 12) w1 := hp 12 (LC (by kernel_rfl))
    have h19 : EV _ (fv 19) w1 := hp 19 (LC (by kernel_rfl))
    refine tyAt_none rfl ?_
    simp [tyUpon, execOp, go_sem, Act.eval, h12, h19, (beq_eq_false_iff_ne.1 hi), Below.refl]
   ·have h20 : EV _ (fv 20) w1 := hp 20 (LC (by kernel_rfl))
    refine tyAt_none rfl ?_
    simp [tyUpon, execOp, go_sem, Act.eval, h20, (beq_eq_false_iff_ne.1 hi), Below.refl]
   ·have h21 : EV _ (fv 21) w1 := hp 21 (LC (by kernel_rfl))
    refine tyAt_yes (by simp [Region.wanted, yielded, h21]) ?_
    have hc := (hL0.call (below_drew hb1)).fc
    simp only [fcG, cellsF, neK, and_true, ne_eq, Nat.zero_add, Nat.reduceAdd] at hc
    simp [tyUpon, execOp, go_sem, Act.eval, hc, h21, (beq_eq_false_iff_ne.1 hi), Below.refl]
   ·have h21 : EV _ (fv 21) w1 := hp 21 (LC (by kernel_rfl))
    refine tyAt_yes (by simp [Region.wanted, yielded, h21]) ?_
    have hc := (hL0.call (below_drew hb1)).fc
    simp only [fcG, cellsF, neK, and_true, ne_eq, Nat.zero_add, Nat.reduceAdd] at hc
    simp [tyUpon, execOp, go_sem, Act.eval, hc, h21, (beq_eq_false_iff_ne.1 hi), Below.refl]
   ·have h22 : EV _ (fv 22) w1 := hp 22 (LC (by kernel_rfl))
    have h23 : EV _ (fv 23) w1 := hp 23 (LC (by kernel_rfl))
    have h21 : EV _ (fv 21) w1 := hp 21 (LC (by kernel_rfl))
    refine tyAt_yes (by simp [Region.wanted, yielded, h22, h23, h21]) ?_
    refine ty_call (f := 32) (args := #[intV a, intV b]) (by simp [execOp, go_sem, Act.eval, h22, h23, h21]) ?_
    exact (HM.out w1).mono fun e w2 ⟨h1, h2⟩ => ⟨_, h1, rfl, h2⟩
   ·have h21 : EV _ (fv 21) w1 := hp 21 (LC (by kernel_rfl))
    refine tyAt_yes (by simp [Region.wanted, yielded, h21]) ?_
    have hc := (hL0.call (below_drew hb1)).fc
    simp only [fcG, cellsF, neK, and_true, ne_eq, Nat.zero_add, Nat.reduceAdd] at hc
    simp [tyUpon, execOp, go_sem, Act.eval, hc, h21, (beq_eq_false_iff_ne.1 hi), Below.refl]
   ·have h21 : EV _ (fv 21) w1 := hp 21 (LC (by kernel_rfl))
    refine tyAt_yes (by simp [Region.wanted, yielded, h21]) ?_
    have hc := (hL0.call (below_drew hb1)).fc
    simp only [fcG, cellsF, neK, and_true, ne_eq, Nat.zero_add, Nat.reduceAdd] at hc
    simp [tyUpon, execOp, go_sem, Act.eval, hc, h21, (beq_eq_false_iff_ne.1 hi), Below.refl]
   ·have h25 : EV _ (fv 25) w1 := hp 25 (LC (by kernel_rfl))
    have h26 : EV _ (fv 26) w1 := hp 26 (LC (by kernel_rfl))
    have h21 : EV _ (fv 21) w1 := hp 21 (LC (by kernel_rfl))
    refine tyAt_yes (by simp [Region.wanted, yielded, h25, h26, h21]) ?_
    refine ty_call (f := 33) (args := #[.agg #[.bool (zs a), .slice g1 (tln a.natAbs) d1], .agg #[.bool (zs b), .slice g2 (tln b.natAbs) d2]]) (by simp [execOp, go_sem, Act.eval, h25, h26, h21]) ?_
    exact (HM2.out (.agg #[.bool (zs a), .slice g1 (tln a.natAbs) d1]) (.agg #[.bool (zs b), .slice g2 (tln b.natAbs) d2]) w1 (rz_of (Sl.below (hS.get (List.mem_cons_of_mem _ List.mem_cons_self)) (below_drew hb1))) (rz_of (Sl.below (hS.get List.mem_cons_self) (below_drew hb1)))).mono fun e w2 ⟨pv, h1, h2, h3⟩ => ⟨pv, h1, h2, h3⟩
   ·have h24 : EV _ (fv 24) w1 := hp 24 (LC (by kernel_rfl))
    have h27 : PZ _ (fv 27) w1 := hp 27 (LC (by kernel_rfl))
    have h21 : EV _ (fv 21) w1 := hp 21 (LC (by kernel_rfl))
    refine tyAt_yes (by simp [Region.wanted, yielded, h24, h21]) ?_
    refine ty_call (f := 27) (args := #[intV m, fv 27]) (by simp [execOp, go_sem, Act.eval, h24, h21]) ?_
    exact (H3.out (fv 27) w1 (hKT.out.at ((hL0.call (below_drew hb1)).bl) kKT) h27).mono fun e w2 ⟨h1, h2⟩ => ⟨_, h1, rfl, h2⟩
   ·have h21 : EV _ (fv 21) w1 := hp 21 (LC (by kernel_rfl))
    have h28 : EV _ (fv 28) w1 := hp 28 (LC (by kernel_rfl))
    refine tyAt_none rfl ?_
    simp [tyUpon, execOp, go_sem, Act.eval, h21, h28, (beq_eq_false_iff_ne.1 hi), Below.refl]
   ·have h29 : EV _ (fv 29) w1 := hp 29 (LC (by kernel_rfl))
    refine tyAt_none rfl ?_
    simp [tyUpon, execOp, go_sem, Act.eval, h29, (beq_eq_false_iff_ne.1 hi), Below.refl]
   ·have h30 : EV _ (fv 30) w1 := hp 30 (LC (by kernel_rfl))
    refine tyAt_yes (by simp [Region.wanted, yielded, h30]) ?_
    have hc := (hL0.call (below_drew hb1)).fc
    simp only [fcG, cellsF, neK, and_true, ne_eq, Nat.zero_add, Nat.reduceAdd] at hc
    simp [tyUpon, execOp, go_sem, Act.eval, hc, h30, (beq_eq_false_iff_ne.1 hi), Below.refl]
   ·have h31 : EV _ (fv 31) w1 := hp 31 (LC (by kernel_rfl))
    have h30 : EV _ (fv 30) w1 := hp 30 (LC (by kernel_rfl))
    refine tyAt_yes (by simp [Region.wanted, yielded, h31, h30]) ?_
    refine ty_call (f := 34) (args := #[intV a]) (by simp [execOp, go_sem, Act.eval, h31, h30]) ?_
    exact (HN.out w1).mono fun e w2 ⟨h1, h2⟩ => ⟨_, h1, rfl, h2⟩
   ·have h30 : EV _ (fv 30) w1 := hp 30 (LC (by kernel_rfl))
    refine tyAt_yes (by simp [Region.wanted, yielded, h30]) ?_
    have hc := (hL0.call (below_drew hb1)).fc
    simp only [fcG, cellsF, neK, and_true, ne_eq, Nat.zero_add, Nat.reduceAdd] at hc
    simp [tyUpon, execOp, go_sem, Act.eval, hc, h30, (beq_eq_false_iff_ne.1 hi), Below.refl]
   ·have h33 : EV _ (fv 33) w1 := hp 33 (LC (by kernel_rfl))
    have h30 : EV _ (fv 30) w1 := hp 30 (LC (by kernel_rfl))
    refine tyAt_yes (by simp [Region.wanted, yielded, h33, h30]) ?_
    refine ty_call (f := 35) (args := #[.agg #[.bool (zs a), .slice g1 (tln a.natAbs) d1]]) (by simp [execOp, go_sem, Act.eval, h33, h30]) ?_
    exact (HN2.out (.agg #[.bool (zs a), .slice g1 (tln a.natAbs) d1]) w1 (rz_of (Sl.below (hS.get (List.mem_cons_of_mem _ List.mem_cons_self)) (below_drew hb1)))).mono fun e w2 ⟨pv, h1, h2, h3⟩ => ⟨pv, h1, h2, h3⟩
   ·have h32 : EV _ (fv 32) w1 := hp 32 (LC (by kernel_rfl))
    have h34 : PZ _ (fv 34) w1 := hp 34 (LC (by kernel_rfl))
    have h30 : EV _ (fv 30) w1 := hp 30 (LC (by kernel_rfl))
    refine tyAt_yes (by simp [Region.wanted, yielded, h32, h30]) ?_
    refine ty_call (f := 27) (args := #[intV n, fv 34]) (by simp [execOp, go_sem, Act.eval, h32, h30]) ?_
    exact (H4.out (fv 34) w1 (hKT.out.at ((hL0.call (below_drew hb1)).bl) kKT) h34).mono fun e w2 ⟨h1, h2⟩ => ⟨_, h1, rfl, h2⟩
   ·have h30 : EV _ (fv 30) w1 := hp 30 (LC (by kernel_rfl))
    have h35 : EV _ (fv 35) w1 := hp 35 (LC (by kernel_rfl))
    refine tyAt_none rfl ?_
    simp [tyUpon, execOp, go_sem, Act.eval, h30, h35, (beq_eq_false_iff_ne.1 hi), Below.refl]
   ·have h36 : EV _ (fv 36) w1 := hp 36 (LC (by kernel_rfl))
    refine tyAt_none rfl ?_
    simp [tyUpon, execOp, go_sem, Act.eval, h36, (beq_eq_false_iff_ne.1 hi), Below.refl]
   ·have h37 : EV _ (fv 37) w1 := hp 37 (LC (by kernel_rfl))
    refine tyAt_yes (by simp [Region.wanted, yielded, h37]) ?_
    have hc := (hL0.call (below_drew hb1)).fc
    simp only [fcG, cellsF, neK, and_true, ne_eq, Nat.zero_add, Nat.reduceAdd] at hc
    simp [tyUpon, execOp, go_sem, Act.eval, hc, h37, (beq_eq_false_iff_ne.1 hi), Below.refl]
   ·have h38 : EV _ (fv 38) w1 := hp 38 (LC (by kernel_rfl))
    have h37 : EV _ (fv 37) w1 := hp 37 (LC (by kernel_rfl))
    refine tyAt_yes (by simp [Region.wanted, yielded, h38, h37]) ?_
    refine ty_call (f := 36) (args := #[intV a]) (by simp [execOp, go_sem, Act.eval, h38, h37]) ?_
    exact (HS.out w1).mono fun e w2 ⟨h1, h2⟩ => ⟨_, h1, rfl, h2⟩
   ·have h37 : EV _ (fv 37) w1 := hp 37 (LC (by kernel_rfl))
    refine tyAt_yes (by simp [Region.wanted, yielded, h37]) ?_
    have hc := (hL0.call (below_drew hb1)).fc
    simp only [fcG, cellsF, neK, and_true, ne_eq, Nat.zero_add, Nat.reduceAdd] at hc
    simp [tyUpon, execOp, go_sem, Act.eval, hc, h37, (beq_eq_false_iff_ne.1 hi), Below.refl]
   ·have h40 : EV _ (fv 40) w1 := hp 40 (LC (by kernel_rfl))
    have h37 : EV _ (fv 37) w1 := hp 37 (LC (by kernel_rfl))
    refine tyAt_yes (by simp [Region.wanted, yielded, h40, h37]) ?_
    refine ty_call (f := 37) (args := #[.agg #[.bool (zs a), .slice g1 (tln a.natAbs) d1]]) (by simp [execOp, go_sem, Act.eval, h40, h37]) ?_
    exact (HS2.out (.agg #[.bool (zs a), .slice g1 (tln a.natAbs) d1]) w1 (rz_of (Sl.below (hS.get (List.mem_cons_of_mem _ List.mem_cons_self)) (below_drew hb1)))).mono fun e w2 ⟨h1, h2⟩ => ⟨_, h1, rfl, h2⟩
   ·have h39 : EV _ (fv 39) w1 := hp 39 (LC (by kernel_rfl))
    have h41 : EV _ (fv 41) w1 := hp 41 (LC (by kernel_rfl))
    have h37 : EV _ (fv 37) w1 := hp 37 (LC (by kernel_rfl))
    refine tyAt_yes (by simp [Region.wanted, yielded, h39, h41, h37]) ?_
    simp [tyUpon, execOp, go_sem, Act.eval, h39, h41, h37, (beq_eq_false_iff_ne.1 hi), Below.refl]
   ·have h37 : EV _ (fv 37) w1 := hp 37 (LC (by kernel_rfl))
    have h42 : EV _ (fv 42) w1 := hp 42 (LC (by kernel_rfl))
    refine tyAt_none rfl ?_
    simp [tyUpon, execOp, go_sem, Act.eval, h37, h42, (beq_eq_false_iff_ne.1 hi), Below.refl]
   ·have h43 : EV _ (fv 43) w1 := hp 43 (LC (by kernel_rfl))
    refine tyAt_none rfl ?_
    simp [tyUpon, execOp, go_sem, Act.eval, h43, (beq_eq_false_iff_ne.1 hi), Below.refl]
   ·have h44 : EV _ (fv 44) w1 := hp 44 (LC (by kernel_rfl))
    refine tyAt_yes (by simp [Region.wanted, yielded, h44]) ?_
    have hc := (hL0.call (below_drew hb1)).fc
    simp only [fcG, cellsF, neK, and_true, ne_eq, Nat.zero_add, Nat.reduceAdd] at hc
    simp [tyUpon, execOp, go_sem, Act.eval, hc, h44, (beq_eq_false_iff_ne.1 hi), Below.refl]
   ·have h44 : EV _ (fv 44) w1 := hp 44 (LC (by kernel_rfl))
    refine tyAt_yes (by simp [Region.wanted, yielded, h44]) ?_
    have hc := (hL0.call (below_drew hb1)).fc
    simp only [fcG, cellsF, neK, and_true, ne_eq, Nat.zero_add, Nat.reduceAdd] at hc
    simp [tyUpon, execOp, go_sem, Act.eval, hc, h44, (beq_eq_false_iff_ne.1 hi), Below.refl]
   ·have h45 : EV _ (fv 45) w1 := hp 45 (LC (by kernel_rfl))
    have h46 : EV _ (fv 46) w1 := hp 46 (LC (by kernel_rfl))
    have h44 : EV _ (fv 44) w1 := hp 44 (LC (by kernel_rfl))
    refine tyAt_yes (by simp [Region.wanted, yielded, h45, h46, h44]) ?_
    refine ty_call (f := 38) (args := #[intV a, intV b]) (by simp [execOp, go_sem, Act.eval, h45, h46, h44]) ?_
    exact (HC2.out w1).mono fun e w2 ⟨h1, h2⟩ => ⟨_, h1, rfl, h2⟩
   ·have h44 : EV _ (fv 44) w1 := hp 44 (LC (by kernel_rfl))
    refine tyAt_yes (by simp [Region.wanted, yielded, h44]) ?_
    simp [tyUpon, execOp, go_sem, Act.eval, h44, (beq_eq_false_iff_ne.1 hi), Below.refl]
   ·have h47 : EV _ (fv 47) w1 := hp 47 (LC (by kernel_rfl))
    have h48 : EV _ (fv 48) w1 := hp 48 (LC (by kernel_rfl))
    have h44 : EV _ (fv 44) w1 := hp 44 (LC (by kernel_rfl))
    refine tyAt_yes (by simp [Region.wanted, yielded, h47, h48, h44]) ?_
    simp [tyUpon, execOp, go_sem, Act.eval, h47, h48, h44, (beq_eq_false_iff_ne.1 hi), Below.refl]
   ·have h44 : EV _ (fv 44) w1 := hp 44 (LC (by kernel_rfl))
    have h49 : EV _ (fv 49) w1 := hp 49 (LC (by kernel_rfl))
    refine tyAt_none rfl ?_
    simp [tyUpon, execOp, go_sem, Act.eval, h44, h49, (beq_eq_false_iff_ne.1 hi), Below.refl]
   ·have h50 : EV _ (fv 50) w1 := hp 50 (LC (by kernel_rfl))
    refine tyAt_none rfl ?_
    simp [tyUpon, execOp, go_sem, Act.eval, h50, (beq_eq_false_iff_ne.1 hi), Below.refl]
   ·have h51 : EV _ (fv 51) w1 := hp 51 (LC (by kernel_rfl))
    refine tyAt_yes (by simp [Region.wanted, yielded, h51]) ?_
    have hc := (hL0.call (below_drew hb1)).fc
    simp only [fcG, cellsF, neK, and_true, ne_eq, Nat.zero_add, Nat.reduceAdd] at hc
    simp [tyUpon, execOp, go_sem, Act.eval, hc, h51, (beq_eq_false_iff_ne.1 hi), Below.refl]
   ·have h51 : EV _ (fv 51) w1 := hp 51 (LC (by kernel_rfl))
    refine tyAt_yes (by simp [Region.wanted, yielded, h51]) ?_
    have hc := (hL0.call (below_drew hb1)).fc
    simp only [fcG, cellsF, neK, and_true, ne_eq, Nat.zero_add, Nat.reduceAdd] at hc
    simp [tyUpon, execOp, go_sem, Act.eval, hc, h51, (beq_eq_false_iff_ne.1 hi), Below.refl]
   ·have h52 : EV _ (fv 52) w1 := hp 52 (LC (by kernel_rfl))
    have h53 : EV _ (fv 53) w1 := hp 53 (LC (by kernel_rfl))
    have h51 : EV _ (fv 51) w1 := hp 51 (LC (by kernel_rfl))
    refine tyAt_yes (by simp [Region.wanted, yielded, h52, h53, h51]) ?_
    rcases ne_int hne.out with hz | hz | hz <;> simp [tyUpon, execOp, go_sem, Act.eval, h52, h53, h51, (beq_eq_false_iff_ne.1 hi), hz, Below.refl]
   ·have h51 : EV _ (fv 51) w1 := hp 51 (LC (by kernel_rfl))
    refine tyAt_yes (by simp [Region.wanted, yielded, h51]) ?_
    simp [tyUpon, execOp, go_sem, Act.eval, h51, (beq_eq_false_iff_ne.1 hi), Below.refl]
   ·have h55 : EV _ (fv 55) w1 := hp 55 (LC (by kernel_rfl))
    have h51 : EV _ (fv 51) w1 := hp 51 (LC (by kernel_rfl))
    refine tyAt_yes (by simp [Region.wanted, yielded, h55, h51]) ?_
    simp [tyUpon, execOp, go_sem, Act.eval, h55, h51, (beq_eq_false_iff_ne.1 hi), Below.refl]
   ·have h54 : EV _ (fv 54) w1 := hp 54 (LC (by kernel_rfl))
    have h56 : EV _ (fv 56) w1 := hp 56 (LC (by kernel_rfl))
    have h51 : EV _ (fv 51) w1 := hp 51 (LC (by kernel_rfl))
    refine tyAt_yes (by simp [Region.wanted, yielded, h54, h56, h51]) ?_
    simp [tyUpon, execOp, go_sem, Act.eval, h54, h56, h51, (beq_eq_false_iff_ne.1 hi), Below.refl]
   ·have h51 : EV _ (fv 51) w1 := hp 51 (LC (by kernel_rfl))
    have h57 : EV _ (fv 57) w1 := hp 57 (LC (by kernel_rfl))
    refine tyAt_none rfl ?_
    simp [tyUpon, execOp, go_sem, Act.eval, h51, h57, (beq_eq_false_iff_ne.1 hi), Below.refl]
   ·have h58 : EV _ (fv 58) w1 := hp 58 (LC (by kernel_rfl))
    refine tyAt_none rfl ?_
    simp [tyUpon, execOp, go_sem, Act.eval, h58, (beq_eq_false_iff_ne.1 hi), Below.refl]
   ·have h59 : EV _ (fv 59) w1 := hp 59 (LC (by kernel_rfl))
    refine tyAt_yes (by simp [Region.wanted, yielded, h59]) ?_
    have hc := (hL0.call (below_drew hb1)).fc
    simp only [fcG, cellsF, neK, and_true, ne_eq, Nat.zero_add, Nat.reduceAdd] at hc
    simp [tyUpon, execOp, go_sem, Act.eval, hc, h59, (beq_eq_false_iff_ne.1 hi), Below.refl]
   ·have h60 : EV _ (fv 60) w1 := hp 60 (LC (by kernel_rfl))
    have h59 : EV _ (fv 59) w1 := hp 59 (LC (by kernel_rfl))
    refine tyAt_yes (by simp [Region.wanted, yielded, h60, h59]) ?_
    refine ty_call (f := 40) (args := #[intV a]) (by simp [execOp, go_sem, Act.eval, h60, h59]) ?_
    exact (HX.out w1).mono fun e w2 ⟨h1, h2⟩ => ⟨_, h1, rfl, h2⟩
   ·have h61 : EV _ (fv 61) w1 := hp 61 (LC (by kernel_rfl))
    have h59 : EV _ (fv 59) w1 := hp 59 (LC (by kernel_rfl))
    refine tyAt_yes (by simp [Region.wanted, yielded, h61, h59]) ?_
    refine ty_call (f := 39) (args := #[natV k]) (by simp [execOp, go_sem, Act.eval, h61, h59]) ?_
    exact (HT.out w1 (hKT.out.at ((hL0.call (below_drew hb1)).bl) kKT)).mono fun e w2 ⟨h1, h2⟩ => ⟨_, h1, rfl, h2⟩
   ·have h59 : EV _ (fv 59) w1 := hp 59 (LC (by kernel_rfl))
    refine tyAt_yes (by simp [Region.wanted, yielded, h59]) ?_
    simp [tyUpon, execOp, go_sem, Act.eval, h59, (beq_eq_false_iff_ne.1 hi), Below.refl]
   ·have h63 : EV _ (fv 63) w1 := hp 63 (LC (by kernel_rfl))
    have h59 : EV _ (fv 59) w1 := hp 59 (LC (by kernel_rfl))
    refine tyAt_yes (by simp [Region.wanted, yielded, h63, h59]) ?_
    have hc := (hL0.call (below_drew hb1)).fc
    simp only [fcG, cellsF, neK, and_true, ne_eq, Nat.zero_add, Nat.reduceAdd] at hc
    simp [tyUpon, execOp, go_sem, Act.eval, hc, h63, h59, (beq_eq_false_iff_ne.1 hi), Below.refl]
   ·have h64 : EV _ (fv 64) w1 := hp 64 (LC (by kernel_rfl))
    have h59 : EV _ (fv 59) w1 := hp 59 (LC (by kernel_rfl))
    refine tyAt_yes (by simp [Region.wanted, yielded, h64, h59]) ?_
    refine ty_call (f := 41) (args := #[.slice g1 (tln a.natAbs) d1]) (by simp [execOp, go_sem, Act.eval, h64, h59]) ?_
    exact (HT2.out (.slice g1 (tln a.natAbs) d1) w1 (Sl.below (hS.get (List.mem_cons_of_mem _ List.mem_cons_self)) (below_drew hb1))).mono fun e w2 ⟨h1, h2⟩ => ⟨_, h1, rfl, h2⟩
   ·have h62 : EV _ (fv 62) w1 := hp 62 (LC (by kernel_rfl))
    have h65 : EV _ (fv 65) w1 := hp 65 (LC (by kernel_rfl))
    have h59 : EV _ (fv 59) w1 := hp 59 (LC (by kernel_rfl))
    refine tyAt_yes (by simp [Region.wanted, yielded, h62, h65, h59]) ?_
    simp [tyUpon, execOp, go_sem, Act.eval, h62, h65, h59, (beq_eq_false_iff_ne.1 hi), Below.refl]
   ·have h59 : EV _ (fv 59) w1 := hp 59 (LC (by kernel_rfl))
    have h66 : EV _ (fv 66) w1 := hp 66 (LC (by kernel_rfl))
    refine tyAt_none rfl ?_
    simp [tyUpon, execOp, go_sem, Act.eval, h59, h66, (beq_eq_false_iff_ne.1 hi), Below.refl]
   ·have h67 : EV _ (fv 67) w1 := hp 67 (LC (by kernel_rfl))
    refine tyAt_none rfl ?_
    simp [tyUpon, execOp, go_sem, Act.eval, h67, (beq_eq_false_iff_ne.1 hi), Below.refl]
   ·have h68 : EV _ (fv 68) w1 := hp 68 (LC (by kernel_rfl))
    refine tyAt_yes (by simp [Region.wanted, yielded, h68]) ?_
    refine ty_call (f := 23) (args := #[]) (by simp [execOp, go_sem, Act.eval, h68]) ?_
    exact (HW.out w1 (hKT.out.at ((hL0.call (below_drew hb1)).bl) kKT)).mono fun e w2 ⟨h1, h2⟩ => ⟨_, h1, rfl, h2⟩
   ·have h68 : EV _ (fv 68) w1 := hp 68 (LC (by kernel_rfl))
    have h69 : EV _ (fv 69) w1 := hp 69 (LC (by kernel_rfl))
    refine tyAt_none rfl ?_
    simp [tyUpon, execOp, go_sem, Act.eval, h68, h69, (beq_eq_false_iff_ne.1 hi), Below.refl]
   ·have h70 : EV _ (fv 70) w1 := hp 70 (LC (by kernel_rfl))
    refine tyAt_none rfl ?_
    simp [tyUpon, execOp, go_sem, Act.eval, h70, (beq_eq_false_iff_ne.1 hi), Below.refl]
  ·intro fv x9 hb1 hv
   have e0 : fv 0 = _ := hv 0 (by omega)
   have e1 : fv 1 = _ := hv 1 (by omega)
   have e2 : fv 2 = _ := hv 2 (by omega)
   have e3 : fv 3 = _ := hv 3 (by omega)
   have e4 : fv 4 = _ := hv 4 (by omega)
   have e5 : fv 5 = _ := hv 5 (by omega)
   have e6 : fv 6 = _ := hv 6 (by omega)
   have e7 : fv 7 = _ := hv 7 (by omega)
   have e8 : fv 8 = _ := hv 8 (by omega)
   have q9 : RZ x9 (fv 9) r := hv 9 (by omega)
   obtain ⟨g3, d3, e9⟩ := rz_form q9
   rw [e9] at q9
   have e10 : fv 10 = _ := hv 10 (by omega)
   have e11 : fv 11 = _ := hv 11 (by omega)
   have e12 : fv 12 = _ := hv 12 (by omega)
   have e13 : fv 13 = _ := hv 13 (by omega)
   have e14 : fv 14 = _ := hv 14 (by omega)
   have e15 : fv 15 = _ := hv 15 (by omega)
   have e16 : fv 16 = _ := hv 16 (by omega)
   have e17 : fv 17 = _ := hv 17 (by omega)
   have q18 : RZ x9 (fv 18) d := hv 18 (by omega)
   obtain ⟨g4, d4, e18⟩ := rz_form q18
   rw [e18] at q18
   have e19 : fv 19 = _ := hv 19 (by omega)
   have e20 : fv 20 = _ := hv 20 (by omega)
   have e21 : fv 21 = _ := hv 21 (by omega)
   have e22 : fv 22 = _ := hv 22 (by omega)
   have e23 : fv 23 = _ := hv 23 (by omega)
   have e24 : fv 24 = _ := hv 24 (by omega)
   have e25 : fv 25 = _ := hv 25 (by omega)
   have e26 : fv 26 = _ := hv 26 (by omega)
   have q27 : RZ x9 (fv 27) m := hv 27 (by omega)
   obtain ⟨g5, d5, e27⟩ := rz_form q27
   rw [e27] at q27
   have e28 : fv 28 = _ := hv 28 (by omega)
   have e29 : fv 29 = _ := hv 29 (by omega)
   have e30 : fv 30 = _ := hv 30 (by omega)
   have e31 : fv 31 = _ := hv 31 (by omega)
   have e32 : fv 32 = _ := hv 32 (by omega)
   have e33 : fv 33 = _ := hv 33 (by omega)
   have q34 : RZ x9 (fv 34) n := hv 34 (by omega)
   obtain ⟨g6, d6, e34⟩ := rz_form q34
   rw [e34] at q34
   have e35 : fv 35 = _ := hv 35 (by omega)
   have e36 : fv 36 = _ := hv 36 (by omega)
   have e37 : fv 37 = _ := hv 37 (by omega)
   have e38 : fv 38 = _ := hv 38 (by omega)
   have e39 : fv 39 = _ := hv 39 (by omega)
   have e40 : fv 40 = _ := hv 40 (by omega)
   have e41 : fv 41 = _ := hv 41 (by omega)
   have e42 : fv 42 = _ := hv 42 (by omega)
   have e43 : fv 43 = _ := hv 43 (by omega)
   have e44 : fv 44 = _ := hv 44 (by omega)
   have e45 : fv 45 = _ := hv 45 (by omega)
   have e46 : fv 46 = _ := hv 46 (by omega)
   have e47 : fv 47 = _ := hv 47 (by omega)
   have e48 : fv 48 = _ := hv 48 (by omega)
   have e49 : fv 49 = _ := hv 49 (by omega)
   have e50 : fv 50 = _ := hv 50 (by omega)
   have e51 : fv 51 = _ := hv 51 (by omega)
   have e52 : fv 52 = _ := hv 52 (by omega)
   have e53 : fv 53 = _ := hv 53 (by omega)
   have e54 : fv 54 = _ := hv 54 (by omega)
   have e55 : fv 55 = _ := hv 55 (by omega)
   have e56 : fv 56 = _ := hv 56 (by omega)
   have e57 : fv 57 = _ := hv 57 (by omega)
   have e58 : fv 58 = _ := hv 58 (by omega)
   have e59 : fv 59 = _ := hv 59 (by omega)
   have e60 : fv 60 = _ := hv 60 (by omega)
   have e61 : fv 61 = _ := hv 61 (by omega)
   have e62 : fv 62 = _ := hv 62 (by omega)
   have e63 : fv 63 = _ := hv 63 (by omega)
   have e64 : fv 64 = _ := hv 64 (by omega)
   have e65 : fv 65 = _ := hv 65 (by omega)
   have e66 : fv 66 = _ := hv 66 (by omega)
   have e67 : fv 67 = _ := hv 67 (by omega)
   have e68 : fv 68 = _ := hv 68 (by omega)
   have e69 : fv 69 = _ := hv 69 (by omega)
   have e70 : fv 70 = _ := hv 70 (by omega)
   have e71 : fv 71 = _ := hv 71 (by omega)
   simp only [List.take_succ_cons, List.take_zero, putsV, Act.put, List.setIfInBounds_toArray, List.set_cons_succ, List.set_cons_zero, List.drop_succ_cons, List.drop_zero, Nat.zero_add, Nat.reduceAdd, e0, e1, e2, e3, e4, e5, e6, e7, e8, e9, e10, e11, e12, e13, e14, e15, e16, e17, e18, e19, e20, e21, e22, e23, e24, e25, e26, e27, e28, e29, e30, e31, e32, e33, e34, e35, e36, e37, e38, e39, e40, e41, e42, e43, e44, e45, e46, e47, e48, e49, e50, e51, e52, e53, e54, e55, e56, e57, e58, e59, e60, e61, e62, e63, e64, e65, e66, e67, e68, e69, e70, e71]
   replace hL0 := hL0.call (below_drew hb1)
   replace hS := hS.call (below_drew hb1)
   replace hS := hS.cons (rz_rn q9)
   replace hS := hS.cons (rz_rn q18)
   replace hS := hS.cons (rz_rn q27)
   replace hS := hS.cons (rz_rn q34)
   clear e0 e1 e2 e3 e4 e5 e6 e7 e8 e9 e10 e11 e12 e13 e14 e15 e16 e17 e18 e19 e20 e21 e22 e23 e24 e25 e26 e27 e28 e29 e30 e31 e32 e33 e34 e35 e36 e37 e38 e39 e40 e41 e42 e43 e44 e45 e46 e47 e48 e49 e50 e51 e52 e53 e54 e55 e56 e57 e58 e59 e60 e61 e62 e63 e64 e65 e66 e67 e68 e69 e70 e71 hb1 hv q9 q18 q27 q34 fv
   go_wp2_with fail
   exact bodyPost_ret (v := .bool true) (by simp [results, Tryz.results4, go_sem]) rfl ⟨rfl, hL0.bl⟩
end Go.Proofs.YtdmoadfnogdfnaaGreatDoor
namespace Go.Proofs.YtdmoadfnogdfnaaGreatDoor
open Go.RowKit Go.Proofs.YtdmoadfnogdfnaaGreatDoor.Rx
attribute [local irreducible] lo hs sm s64 c64 d64 b64 mh ml pd pc qd qc val hiB str cmpI srD lz nb isq decB zl zh zs
set_option maxHeartbeats 4000000 in
set_option maxRecDepth 100000 in
theorem ireads_big (s : ByteArray) (hs : 4200 < s.size) (w : World) (htab : Tab w) :
  Calls Tryz.prog 52 #[.string s] w fun e w' => e = .returned (.bool true) ∧ Below w.heap.size w w' := by
 have hL0 : GL w w [] := GL.start w
 have HW := Lib.hid (fun w h => zworks_any w h)
 have f1 : decide ((4200 : Int) < ((s.size : Nat) : Int)) = true := decide_eq_true (by omega)
 have f2 : decide (4200 < s.size) = true := decide_eq_true (by omega)
 clear hs
 go_enter Tryz.func52, Tryz.ntmps52
 go_wp2_with fail
 with_reducible refine Calls.mono (HW.out _ (htab.below hL0.bl)) ?_
 rintro e x1 ⟨rfl, hb⟩
 replace hL0 := hL0.call hb
 clear hb
 go_wp2_with fail
 exact bodyPost_ret (v := .bool true) (by simp [results, Tryz.results52, go_sem]) rfl ⟨rfl, hL0.bl⟩
set_option maxHeartbeats 4000000 in
set_option maxRecDepth 100000 in
theorem ireads_3 (s : ByteArray) (hs : s.size ≤ 4200) (b0 : Bool) (a0 : Option Addr) (n0 c0 : Nat) (HP : ∀ w, Calls Tryz.prog 121 #[.string s] w fun e w' => e = .returned (.tuple #[intV 0, .int .i64 3]) ∧ Below w.heap.size w w') (HR : ∀ w, Calls Tryz.prog 136 #[.string s] w fun e w' => e = .returned (.tuple #[.agg #[.bool b0, .slice a0 n0 c0], .int .i64 3]) ∧ Below w.heap.size w w') (w : World) (htab : Tab w) :
  Calls Tryz.prog 52 #[.string s] w fun e w' => e = .returned (.bool true) ∧ Below w.heap.size w w' := by
 have hL0 : GL w w [] := GL.start w
 have HW := Lib.hid (fun w h => zworks_any w h)
 have HI := Lib.hid (fun w => is_eq 0 (by decide) (by decide) w)
 replace HP := Lib.hid HP
 replace HR := Lib.hid HR
 have f1 : decide ((4200 : Int) < ((s.size : Nat) : Int)) = false := decide_eq_false (by omega)
 have f2 : decide (4200 < s.size) = false := decide_eq_false (by omega)
 clear hs
 go_enter Tryz.func52, Tryz.ntmps52
 go_wp2_with fail
 with_reducible refine Calls.mono (HP.out _) ?_
 rintro e x1 ⟨rfl, hb⟩
 replace hL0 := hL0.call hb
 clear hb
 replace hL0 := (hL0.new rfl [.int .u64 ((zl 0 : Nat) : Int), .string (zh 0), .bool (zs 0)] 39)
 generalize hweq : (x1.alloc (.cells #[.int .u64 ((zl 0 : Nat) : Int), .string (zh 0), .bool (zs 0)] 39)) = x2 at hL0
 go_wp2_with fail
 with_reducible refine Calls.mono (HR.out _) ?_
 rintro e x3 ⟨rfl, hb⟩
 replace hL0 := hL0.call hb
 clear hb hweq
 replace hL0 := (hL0.new rfl [.bool b0, .slice a0 n0 c0] 44)
 generalize hweq : (x3.alloc (.cells #[.bool b0, .slice a0 n0 c0] 44)) = x4 at hL0
 have hN0 := cells_of _ 0 [] rfl (hL0.get _ _ (List.mem_cons_of_mem _ List.mem_cons_self))
 simp only [cellsF, and_true, Nat.zero_add, Nat.reduceAdd] at hN0
 go_wp2_with fail
 clear hN0
 with_reducible refine Calls.mono (HI.out _) ?_
 rintro e x5 ⟨rfl, hb⟩
 replace hL0 := hL0.call hb
 clear hb hweq
 go_wp2_with fail
 with_reducible refine Calls.mono (HW.out _ (htab.below hL0.bl)) ?_
 rintro e x6 ⟨rfl, hb⟩
 replace hL0 := hL0.call hb
 clear hb
 go_wp2_with fail
 exact bodyPost_ret (v := .bool true) (by simp [results, Tryz.results52, go_sem]) rfl ⟨rfl, hL0.bl⟩
set_option maxHeartbeats 4000000 in
set_option maxRecDepth 100000 in
theorem ireads_4 (s : ByteArray) (hs : s.size ≤ 4200) (b0 : Bool) (a0 : Option Addr) (n0 c0 : Nat) (HP : ∀ w, Calls Tryz.prog 121 #[.string s] w fun e w' => e = .returned (.tuple #[intV 0, .int .i64 4]) ∧ Below w.heap.size w w') (HR : ∀ w, Calls Tryz.prog 136 #[.string s] w fun e w' => e = .returned (.tuple #[.agg #[.bool b0, .slice a0 n0 c0], .int .i64 4]) ∧ Below w.heap.size w w') (w : World) (htab : Tab w) :
  Calls Tryz.prog 52 #[.string s] w fun e w' => e = .returned (.bool true) ∧ Below w.heap.size w w' := by
 have hL0 : GL w w [] := GL.start w
 have HW := Lib.hid (fun w h => zworks_any w h)
 have HI := Lib.hid (fun w => is_eq 0 (by decide) (by decide) w)
 replace HP := Lib.hid HP
 replace HR := Lib.hid HR
 have f1 : decide ((4200 : Int) < ((s.size : Nat) : Int)) = false := decide_eq_false (by omega)
 have f2 : decide (4200 < s.size) = false := decide_eq_false (by omega)
 clear hs
 go_enter Tryz.func52, Tryz.ntmps52
 go_wp2_with fail
 with_reducible refine Calls.mono (HP.out _) ?_
 rintro e x1 ⟨rfl, hb⟩
 replace hL0 := hL0.call hb
 clear hb
 replace hL0 := (hL0.new rfl [.int .u64 ((zl 0 : Nat) : Int), .string (zh 0), .bool (zs 0)] 39)
 generalize hweq : (x1.alloc (.cells #[.int .u64 ((zl 0 : Nat) : Int), .string (zh 0), .bool (zs 0)] 39)) = x2 at hL0
 go_wp2_with fail
 with_reducible refine Calls.mono (HR.out _) ?_
 rintro e x3 ⟨rfl, hb⟩
 replace hL0 := hL0.call hb
 clear hb hweq
 replace hL0 := (hL0.new rfl [.bool b0, .slice a0 n0 c0] 44)
 generalize hweq : (x3.alloc (.cells #[.bool b0, .slice a0 n0 c0] 44)) = x4 at hL0
 have hN0 := cells_of _ 0 [] rfl (hL0.get _ _ (List.mem_cons_of_mem _ List.mem_cons_self))
 simp only [cellsF, and_true, Nat.zero_add, Nat.reduceAdd] at hN0
 go_wp2_with fail
 clear hN0
 with_reducible refine Calls.mono (HI.out _) ?_
 rintro e x5 ⟨rfl, hb⟩
 replace hL0 := hL0.call hb
 clear hb hweq
 go_wp2_with fail
 with_reducible refine Calls.mono (HW.out _ (htab.below hL0.bl)) ?_
 rintro e x6 ⟨rfl, hb⟩
 replace hL0 := hL0.call hb
 clear hb
 go_wp2_with fail
 exact bodyPost_ret (v := .bool true) (by simp [results, Tryz.results52, go_sem]) rfl ⟨rfl, hL0.bl⟩
set_option maxHeartbeats 4000000 in
set_option maxRecDepth 100000 in
theorem ireads_ok (s : ByteArray) (hs : s.size ≤ 4200) (z : Int) (n : Nat) (b : Bool) (HP : ∀ w, Calls Tryz.prog 121 #[.string s] w fun e w' => e = .returned (.tuple #[intV z, .int .i64 0]) ∧ Below w.heap.size w w') (HR : ∀ w, Calls Tryz.prog 136 #[.string s] w fun e w' => (∃ v, e = .returned (.tuple #[.agg #[.bool b, v], .int .i64 0]) ∧ Rn w' v n) ∧ Below w.heap.size w w') (HT : ∀ w, Tab w → Calls Tryz.prog 74 #[intV z] w fun e w' => e = .returned (.string s) ∧ Below w.heap.size w w') (HX : ∀ v w, Rn w v n → Calls Tryz.prog 76 #[.agg #[.bool b, v]] w fun e w' => e = .returned (.string s) ∧ Below w.heap.size w w') (w : World) (htab : Tab w) :
  Calls Tryz.prog 52 #[.string s] w fun e w' => e = .returned (.bool true) ∧ Below w.heap.size w w' := by
 have hL0 : GL w w [] := GL.start w
 have HW := Lib.hid (fun w h => zworks_any w h)
 replace HP := Lib.hid HP
 replace HR := Lib.hid HR
 replace HT := Lib.hid HT
 replace HX := Lib.hid HX
 have f1 : decide ((4200 : Int) < ((s.size : Nat) : Int)) = false := decide_eq_false (by omega)
 have f2 : decide (4200 < s.size) = false := decide_eq_false (by omega)
 clear hs
 go_enter Tryz.func52, Tryz.ntmps52
 go_wp2_with fail
 with_reducible refine Calls.mono (HP.out _) ?_
 rintro e x1 ⟨rfl, hb⟩
 replace hL0 := hL0.call hb
 clear hb
 replace hL0 := (hL0.new rfl [.int .u64 ((zl z : Nat) : Int), .string (zh z), .bool (zs z)] 39)
 generalize hweq : (x1.alloc (.cells #[.int .u64 ((zl z : Nat) : Int), .string (zh z), .bool (zs z)] 39)) = x2 at hL0
 go_wp2_with fail
 with_reducible refine Calls.mono (HR.out _) ?_
 rintro e x3 ⟨⟨v, rfl, hv⟩, hb⟩
 replace hL0 := hL0.call hb
 clear hb hweq
 obtain ⟨ao, c, rfl⟩ := hv.form
 generalize (td n).length = k at *
 replace hL0 := (hL0.new rfl [.bool b, .slice ao k c] 44)
 generalize hweq : (x3.alloc (.cells #[.bool b, .slice ao k c] 44)) = x4 at hL0
 have hv1 := Lib.hid (hv.below (show Below x3.heap.size x3 x4 by rw [← hweq]; exact (Below.refl x3.heap.size x3).alloc (Nat.le_refl _) _))
 clear hv
 have hN0 := cells_of _ 0 [] rfl (hL0.get _ _ (List.mem_cons_of_mem _ List.mem_cons_self))
 simp only [cellsF, and_true, Nat.zero_add, Nat.reduceAdd] at hN0
 go_wp2_with fail
 clear hN0
 with_reducible refine Calls.mono (HT.out _ (htab.below hL0.bl)) ?_
 rintro e x5 ⟨rfl, hb⟩
 replace hL0 := hL0.call hb
 have hv2 := Lib.hid (hv1.out.below hb)
 clear hb hweq hv1
 have hN0 := cells_of _ 0 [] rfl (hL0.get _ _ List.mem_cons_self)
 simp only [cellsF, and_true, Nat.zero_add, Nat.reduceAdd] at hN0
 go_wp2_with fail
 clear hN0
 with_reducible refine Calls.mono (HX.out _ _ hv2.out) ?_
 rintro e x6 ⟨rfl, hb⟩
 replace hL0 := hL0.call hb
 clear hb
 go_wp2_with fail
 with_reducible refine Calls.mono (HW.out _ (htab.below hL0.bl)) ?_
 rintro e x7 ⟨rfl, hb⟩
 replace hL0 := hL0.call hb
 clear hb
 go_wp2_with fail
 exact bodyPost_ret (v := .bool true) (by simp [results, Tryz.results52, go_sem]) rfl ⟨rfl, hL0.bl⟩
theorem dval_dig {l : List UInt8} (hd : isDec l) (h : l.length ≤ 4200) : (digs (dval l)).length ≤ 1000000 ∧ (td (dval l)).length ≤ 1000000 := by
 obtain ⟨K, hK⟩ : ∃ K, K = 1000000 := ⟨_, rfl⟩
 rw [← hK]
 have h1 : dval l < 10 ^ K := Nat.lt_of_lt_of_le (dval_lt hd.1) (Nat.pow_le_pow_right (by omega) (by omega))
 exact ⟨digs_length_iff.2 (Nat.lt_of_lt_of_le h1 (Nat.pow_le_pow_left (show 10 ≤ Bs by unfold Bs; omega) K)), td_length.2 (Nat.lt_of_lt_of_le h1 (Nat.pow_le_pow_left (show 10 ≤ 10000 by omega) K))⟩
theorem mk45 (r : List UInt8) : ByteArray.mk #[45] ++ st r = st (45 :: r) := by
 apply ByteArray.ext; rw [ByteArray.data_append]; simp [st]
theorem txt_st (n : Nat) : txt n = st (Lib.decDigits n) := rfl
theorem ireads_any (s : ByteArray) (w : World) (htab : Tab w) :
  Calls Tryz.prog 52 #[.string s] w fun e w' => e = .returned (.bool true) ∧ Below w.heap.size w w' := by
 obtain ⟨l, rfl⟩ : ∃ l, s = st l := ⟨s.data.toList, by cases s; rfl⟩
 rcases Nat.lt_or_ge 4200 l.length with h1 | h1
 ·exact ireads_big (st l) (by rw [st_size]; exact h1) w htab
 have hs : (st l).size ≤ 4200 := by rw [st_size]; exact h1
 cases l with
 | nil => exact ireads_4 _ hs false none 0 0 (fun w => iparse_p_form [] (by decide) (isDec_no (by decide)) (by simp) w) (fun w => rz_nil w) w htab
 | cons y r =>
  by_cases hy : y = 45
  ·subst hy
   have hr : r.length ≤ 4199 := by simp at h1; omega
   rcases Nat.lt_or_ge 4096 r.length with h2 | h2
   ·exact ireads_3 _ hs false none 0 0 (fun w => iparse_n_long r h2 (by omega) w) (fun w => rzn_long r h2 (by omega) w) w htab
   by_cases hd : isDec r
   ·by_cases hz : dval r = 0
    ·exact ireads_4 _ hs false none 0 0 (fun w => iparse_n_zero r h2 hd hz w) (fun w => rzn_zero r h2 hd hz w) w htab
    ·obtain ⟨d1, d2⟩ := dval_dig hd (by omega)
     have e1 : ztxt (-((dval r : Nat) : Int)) = st (45 :: r) := by rw [ztxt_st, if_pos (by omega), Int.natAbs_neg, Int.natAbs_natCast, dec_dval hd]
     refine ireads_ok _ hs _ (dval r) true (fun w => iparse_n_ok r h2 hd hz w) (fun w => rzn_ok r h2 hd hz w) (fun w h => ?_) (fun v w h => ?_) w htab
     ·have := textI (-((dval r : Nat) : Int)) (by rw [dI_neg, dI_nat]; exact d1) w h
      rwa [e1] at this
     ·have := rztext_true v (dval r) d2 w h
      rwa [txt_st, dec_dval hd, mk45] at this
   ·exact ireads_4 _ hs false none 0 0 (fun w => iparse_n_form r h2 hd w) (fun w => rzn_form r h2 hd w) w htab
  ·have hh : (y :: r).head? ≠ some 45 := by simpa using hy
   rcases Nat.lt_or_ge 4096 (y :: r).length with h2 | h2
   ·exact ireads_3 _ hs false none 0 0 (fun w => iparse_p_long (y :: r) h2 (by omega) hh w) (fun w => rzp_long r y hy h2 (by omega) w) w htab
   by_cases hd : isDec (y :: r)
   ·obtain ⟨d1, d2⟩ := dval_dig hd (by omega)
    have e1 : ztxt ((dval (y :: r) : Nat) : Int) = st (y :: r) := by rw [ztxt_st, if_neg (by omega), Int.natAbs_natCast, dec_dval hd]
    refine ireads_ok _ hs _ (dval (y :: r)) false (fun w => iparse_p_ok (y :: r) h2 hd hh w) (fun w => rzp_ok r y hy h2 hd w) (fun w h => ?_) (fun v w h => ?_) w htab
    ·have := textI ((dval (y :: r) : Nat) : Int) (by rw [dI_nat]; exact d1) w h
     rwa [e1] at this
    ·have := rztext_false v (dval (y :: r)) d2 w h
     rwa [txt_st, dec_dval hd] at this
   ·exact ireads_4 _ hs false none 0 0 (fun w => iparse_p_form (y :: r) h2 hd hh w) (fun w => rzp_form r y hy h2 hd w) w htab
end Go.Proofs.YtdmoadfnogdfnaaGreatDoor
namespace Go.Proofs.YtdmoadfnogdfnaaGreatDoor
open Go.RowKit Go.Proofs.YtdmoadfnogdfnaaGreatDoor.Rx
attribute [local irreducible] lo hs sm s64 c64 d64 b64 mh ml pd pc qd qc val hiB str cmpI srD lz nb isq decB zl zh dval txt
theorem cmpZ_sgn (x y : Int) : cmpZ x y = sgn (x - y) := by
 unfold cmpZ sgn
 rcases Int.lt_trichotomy x y with h | h | h
 ·rw [if_pos h, if_pos (by omega)]
 ·subst h; simp
 ·rw [if_neg (by omega), if_neg (by omega), if_neg (by omega), if_neg (by omega)]
theorem isums_any (sx sy : Bool) (ax ay : Option Addr) (nx cx ny cy : Nat) (lx ly : List Nat) (w : World) (htab : Tab w) (hwx : Ws w (.slice ax nx cx) lx) (hwy : Ws w (.slice ay ny cy) ly) :
  Calls Tryz.prog 4 #[.agg #[.bool sx, .slice ax nx cx], .agg #[.bool sy, .slice ay ny cy]] w fun e w' => e = .returned (.bool true) ∧ Below w.heap.size w w' := by
 have e1 := hwx.len
 have e2 := hwy.len
 by_cases h : nx ≤ 16 ∧ ny ≤ 16
 ·obtain ⟨h1, h2⟩ := h
  have d1 : dI (zmade sx lx) ≤ 16 := Nat.le_trans (zmade_dI hwx.lt) (by omega)
  have d2 : dI (zmade sy ly) ≤ 16 := Nat.le_trans (zmade_dI hwy.lt) (by omega)
  have GX := fun w h => zof_any sx ax nx cx lx (by omega) w h
  have GY := fun w h => zof_any sy ay ny cy ly (by omega) w h
  have RX := fun w h => zref_any sx ax nx cx lx (by omega) w h
  have RY := fun w h => zref_any sy ay ny cy ly (by omega) w h
  generalize zmade sx lx = a at *
  generalize zmade sy ly = b at *
  have t1 := dI_td d1
  have t2 := dI_td d2
  have hf : decide (nx ≤ 16 ∧ ny ≤ 16) = true := decide_eq_true ⟨h1, h2⟩
  have dn : dI (-a) ≤ 16 := by rw [dI_neg]; exact d1
  have da : (digs a.natAbs).length ≤ 16 := d1
  have HC := fun p0 p1 w h0 h1 => rzcmpI a b (by omega) (by omega) p0 p1 w h0 h1
  have HC2 := fun w => cmpII a b w
  rw [cmpZ_sgn] at HC2
  by_cases he : a = b
  ·subst he
   rw [Int.sub_self] at HC2 HC
   exact isums_eq sx sy ax ay nx cx ny cy a (a + a) (a - a) (a * a) (-a) (sgn a) a.natAbs (txt a.natAbs)
    _ (Keeps.ws _ lx) GX _ (Keeps.ws _ ly) GY RX RY HC Tab Keeps.tab (zsame a d1 (by omega))
    (addI a a (by omega) (by omega)) (fun p0 p1 w h0 h1 => rzaddI p0 p1 a a (by omega) (by omega) w h0 h1) (zsame _ (dI_add d1 d1) (by omega))
    (subI a a (by omega) (by omega)) (fun p0 p1 w h0 h1 => rzsubI p0 p1 a a (by omega) (by omega) w h0 h1) (zsame _ (dI_sub d1 d1) (by omega))
    (mulI a a (by omega) (by omega)) (fun p0 p1 w h0 h1 => rzmulI p0 p1 a a (by omega) (by omega) w h0 h1) (zsame _ (dI_mul d1 d1) (by omega))
    (negI a) (fun p0 w h0 => rznegI p0 a w h0) (zsame _ dn (by omega))
    (signI a) (rzsignI a) HC2 (absI a) (fun w ht => text_any _ (by omega) w ht) (fun p0 w h0 => rtext_any p0 _ (by omega) w h0) (fun w ht => zworks_any w ht) hf w hwx hwy htab
  ·exact isums_ne sx sy ax ay nx cx ny cy a b (a + b) (a - b) (a * b) (-a) (sgn (a - b)) (sgn a) a.natAbs (txt a.natAbs)
    _ (Keeps.ws _ lx) GX _ (Keeps.ws _ ly) GY RX RY HC Tab Keeps.tab (zsame a d1 (by omega))
    (addI a b (by omega) (by omega)) (fun p0 p1 w h0 h1 => rzaddI p0 p1 a b (by omega) (by omega) w h0 h1) (zsame _ (dI_add d1 d2) (by omega))
    (subI a b (by omega) (by omega)) (fun p0 p1 w h0 h1 => rzsubI p0 p1 a b (by omega) (by omega) w h0 h1) (zsame _ (dI_sub d1 d2) (by omega))
    (mulI a b (by omega) (by omega)) (fun p0 p1 w h0 h1 => rzmulI p0 p1 a b (by omega) (by omega) w h0 h1) (zsame _ (dI_mul d1 d2) (by omega))
    (negI a) (fun p0 w h0 => rznegI p0 a w h0) (zsame _ dn (by omega))
    (signI a) (rzsignI a) HC2 (absI a) (fun w ht => text_any _ (by omega) w ht) (fun p0 w h0 => rtext_any p0 _ (by omega) w h0) (fun w ht => zworks_any w ht) hf he
    (beq_eq_false_iff_ne.2 (by unfold sgn; split <;> (try split) <;> omega)) w hwx hwy htab
 ·exact isums_big sx sy ax ay nx cx ny cy Tab Keeps.tab (fun w ht => zworks_any w ht) (decide_eq_false h) w htab
end Go.Proofs.YtdmoadfnogdfnaaGreatDoor
namespace Go.Proofs.YtdmoadfnogdfnaaGreatDoor
open Go.RowKit Go.Proofs.YtdmoadfnogdfnaaGreatDoor.Rx
attribute [local irreducible] lo hs sm s64 c64 d64 b64 mh ml pd pc qd qc val hiB str cmpI srD lz nb isq decB zl zh zs dval tln ztxt txt
set_option maxHeartbeats 4000000 in
set_option maxRecDepth 100000 in
theorem idivs_big (sx sy : Bool) (ax ay : Option Addr) (nx cx ny cy : Nat) (KT : World → Prop) (hKT : Keeps KT) (HW : RK KT 23 #[] (.bool true)) (hfew : decide (nx ≤ 10 ∧ ny ≤ 10) = false) (w : World) (kKT : KT w) :
  Calls Tryz.prog 5 #[.agg #[.bool sx, .slice ax nx cx], .agg #[.bool sy, .slice ay ny cy]] w fun e w' => e = .returned (.bool true) ∧ Below w.heap.size w w' := by
 replace hKT := Lib.hid hKT
 replace HW := Lib.hid HW
 have hL0 : GL w w [] := GL.start w
 have hS : SS w [] := SS.nil w
 replace hS := (((hS.new (.cells #[.bool sx, .slice ax nx cx] 36)).new (.cells #[.bool sy, .slice ay ny cy] 36)).new (.cells #[.bool sx, .slice ax nx cx, .bool sy, .slice ay ny cy] 36))
 replace hL0 := (((hL0.new rfl [.bool sx, .slice ax nx cx] 36).new (K := w.heap.size + 1) (szA _ _) [.bool sy, .slice ay ny cy] 36).new (K := w.heap.size + 1 + 1) (by simp only [World.size_alloc]) [.bool sx, .slice ax nx cx, .bool sy, .slice ay ny cy] 36)
 generalize hweq : (((w.alloc (.cells #[.bool sx, .slice ax nx cx] 36)).alloc (.cells #[.bool sy, .slice ay ny cy] 36)).alloc (.cells #[.bool sx, .slice ax nx cx, .bool sy, .slice ay ny cy] 36)) = x1 at hL0 hS
 go_enter Tryz.func5, Tryz.ntmps5
 have hN0 := cells_of _ 0 [] rfl (hL0.get _ _ (List.mem_cons_of_mem _ List.mem_cons_self))
 simp only [cellsF, and_true, Nat.zero_add, Nat.reduceAdd] at hN0
 have hN1 := cells_of _ 0 [] rfl (hL0.get _ _ (List.mem_cons_of_mem _ (List.mem_cons_of_mem _ List.mem_cons_self)))
 simp only [cellsF, and_true, Nat.zero_add, Nat.reduceAdd] at hN1
 have HFw := few2 10 10 rfl (by omega) (hL0.get _ _ List.mem_cons_self)
 rw [hfew] at HFw
 replace HFw := Lib.hid HFw
 go_wp2_with fail
 with_reducible refine Calls.mono (HFw.out) ?_
 rintro e x2 ⟨rfl, rfl⟩
 clear HFw
 clear hN0 hN1
 go_wp2_with fail
 with_reducible refine Calls.mono (HW.out _ (hKT.out.at (hL0.bl) kKT)) ?_
 rintro e x3 ⟨rfl, hb⟩
 replace hL0 := hL0.call hb
 replace hS := hS.call hb
 clear hb hweq
 go_wp2_with fail
 exact bodyPost_ret (v := .bool true) (by simp [results, Tryz.results5, go_sem]) rfl ⟨rfl, hL0.bl⟩
set_option maxHeartbeats 4000000 in
set_option maxRecDepth 100000 in
theorem idivs_zero (sx sy : Bool) (ax ay : Option Addr) (nx cx ny cy : Nat) (a b g u v q r : Int) (Kx : World → Prop) (hKx : Keeps Kx) (GX : RK Kx 24 #[.agg #[.bool sx, .slice ax nx cx]] (intV a)) (Ky : World → Prop) (hKy : Keeps Ky) (GY : RK Ky 24 #[.agg #[.bool sy, .slice ay ny cy]] (intV b)) (RX : ∀ (w : World), Kx w → Calls Tryz.prog 25 #[.agg #[.bool sx, .slice ax nx cx]] w fun e w' => ∃ pv, e = .returned pv ∧ RZ w' pv a ∧ Below w.heap.size w w') (RY : ∀ (w : World), Ky w → Calls Tryz.prog 25 #[.agg #[.bool sy, .slice ay ny cy]] w fun e w' => ∃ pv, e = .returned pv ∧ RZ w' pv b ∧ Below w.heap.size w w') (HG : RT 42 #[intV a, intV b] (.tuple #[intV g, intV u, intV v])) (HG2 : ∀ (p0 p1 : Value) (w : World), RZ w p0 a → RZ w p1 b → Calls Tryz.prog 43 #[p0, p1] w fun e w' => ∃ v0 v1 v2, e = .returned (.tuple #[v0, v1, v2]) ∧ RZ w' v0 g ∧ RZ w' v1 u ∧ RZ w' v2 v ∧ Below w.heap.size w w') (KT : World → Prop) (hKT : Keeps KT) (H0 : ∀ (p1 : Value) (w : World), KT w → RZ w p1 g → Calls Tryz.prog 27 #[intV g, p1] w fun e w' => e = .returned (.bool true) ∧ Below w.heap.size w w') (H1 : ∀ (p1 : Value) (w : World), KT w → RZ w p1 u → Calls Tryz.prog 27 #[intV u, p1] w fun e w' => e = .returned (.bool true) ∧ Below w.heap.size w w') (H2 : ∀ (p1 : Value) (w : World), KT w → RZ w p1 v → Calls Tryz.prog 27 #[intV v, p1] w fun e w' => e = .returned (.bool true) ∧ Below w.heap.size w w') (HD : RT 44 #[intV a, intV b] (.tuple #[intV q, intV r, .bool false])) (HS : ∀ (p0 : Value) (w : World), RZ w p0 b → Calls Tryz.prog 37 #[p0] w fun e w' => e = .returned (.int .i64 0) ∧ Below w.heap.size w w') (H3 : RT 45 #[intV q, .int .i64 0] (.bool true)) (H4 : RT 45 #[intV r, .int .i64 0] (.bool true)) (HW : RK KT 23 #[] (.bool true)) (hfew : decide (nx ≤ 10 ∧ ny ≤ 10) = true) (w : World) (kKx : Kx w) (kKy : Ky w) (kKT : KT w) :
  Calls Tryz.prog 5 #[.agg #[.bool sx, .slice ax nx cx], .agg #[.bool sy, .slice ay ny cy]] w fun e w' => e = .returned (.bool true) ∧ Below w.heap.size w w' := by
 replace hKx := Lib.hid hKx
 replace GX := Lib.hid GX
 replace hKy := Lib.hid hKy
 replace GY := Lib.hid GY
 replace RX := Lib.hid RX
 replace RY := Lib.hid RY
 replace HG := Lib.hid HG
 replace HG2 := Lib.hid HG2
 replace hKT := Lib.hid hKT
 replace H0 := Lib.hid H0
 replace H1 := Lib.hid H1
 replace H2 := Lib.hid H2
 replace HD := Lib.hid HD
 replace HS := Lib.hid HS
 replace H3 := Lib.hid H3
 replace H4 := Lib.hid H4
 replace HW := Lib.hid HW
 have hL0 : GL w w [] := GL.start w
 have hS : SS w [] := SS.nil w
 replace hS := (((hS.new (.cells #[.bool sx, .slice ax nx cx] 36)).new (.cells #[.bool sy, .slice ay ny cy] 36)).new (.cells #[.bool sx, .slice ax nx cx, .bool sy, .slice ay ny cy] 36))
 replace hL0 := (((hL0.new rfl [.bool sx, .slice ax nx cx] 36).new (K := w.heap.size + 1) (szA _ _) [.bool sy, .slice ay ny cy] 36).new (K := w.heap.size + 1 + 1) (by simp only [World.size_alloc]) [.bool sx, .slice ax nx cx, .bool sy, .slice ay ny cy] 36)
 generalize hweq : (((w.alloc (.cells #[.bool sx, .slice ax nx cx] 36)).alloc (.cells #[.bool sy, .slice ay ny cy] 36)).alloc (.cells #[.bool sx, .slice ax nx cx, .bool sy, .slice ay ny cy] 36)) = x1 at hL0 hS
 go_enter Tryz.func5, Tryz.ntmps5
 have hN0 := cells_of _ 0 [] rfl (hL0.get _ _ (List.mem_cons_of_mem _ List.mem_cons_self))
 simp only [cellsF, and_true, Nat.zero_add, Nat.reduceAdd] at hN0
 have hN1 := cells_of _ 0 [] rfl (hL0.get _ _ (List.mem_cons_of_mem _ (List.mem_cons_of_mem _ List.mem_cons_self)))
 simp only [cellsF, and_true, Nat.zero_add, Nat.reduceAdd] at hN1
 have HFw := few2 10 10 rfl (by omega) (hL0.get _ _ List.mem_cons_self)
 rw [hfew] at HFw
 replace HFw := Lib.hid HFw
 go_wp2_with fail
 with_reducible refine Calls.mono (HFw.out) ?_
 rintro e x2 ⟨rfl, rfl⟩
 clear HFw
 clear hN0 hN1
 go_upto_region 3 with fail
 clear hweq
 refine region_tal 12 [EV (.agg #[.bool sx, .slice ax nx cx]), EV (intV a), EV (.agg #[.bool sy, .slice ay ny cy]), EV (intV b), EV (.agg #[.bool sx, .slice ax nx cx]), PZ a, EV (.agg #[.bool sy, .slice ay ny cy]), PZ b, NewB x2.heap.size [.int .u64 0, .string ⟨#[]⟩, .bool false], NewB x2.heap.size [.int .u64 0, .string ⟨#[]⟩, .bool false], NewB x2.heap.size [.bool false, .slice none 0 0], NewB x2.heap.size [.bool false, .slice none 0 0]] [8, 9, 10, 11] (by kernel_rfl) (by kernel_rfl) ?_ ?_ ?_ ?_ ?_
 ·exact stays_cons (stays_eq _) (stays_cons (stays_eq _) (stays_cons (stays_eq _) (stays_cons (stays_eq _) (stays_cons (stays_eq _) (stays_cons (stays_rz _) (stays_cons (stays_eq _) (stays_cons (stays_rz _) (stays_cons (stays_new _ _) (stays_cons (stays_new _ _) (stays_cons (stays_new _ _) (stays_cons (stays_new _ _) (stays_nil))))))))))))
 ·simp only [List.take_succ_cons, List.take_zero, hopsR, and_true]
  refine ⟨?_, ?_, ?_, ?_, ?_, ?_, ?_, ?_, ?_, ?_, ?_, ?_⟩ <;> intro fv w1 hb1 hp
  all_goals (simp only [putsV, Act.put, List.setIfInBounds_toArray, List.set_cons_succ, List.set_cons_zero, Nat.zero_add, Nat.reduceAdd])
  ·refine tyAt_none rfl ?_
   have hc := (hL0.call (below_drew hb1)).fc
   simp only [fcG, cellsF, neK, and_true, ne_eq, Nat.zero_add, Nat.reduceAdd] at hc
   simp [tyUpon, execOp, go_sem, Act.eval, hc, Below.refl]
  ·have h0 : EV _ (fv 0) w1 := hp 0 (LC (by kernel_rfl))
   refine tyAt_none rfl ?_
   refine ty_call (f := 24) (args := #[.agg #[.bool sx, .slice ax nx cx]]) (by simp [execOp, go_sem, Act.eval, h0]) ?_
   exact (GX.out w1 (hKx.out.at ((hL0.call (below_drew hb1)).bl) kKx)).mono fun e w2 ⟨h1, h2⟩ => ⟨_, h1, rfl, h2⟩
  ·refine tyAt_none rfl ?_
   have hc := (hL0.call (below_drew hb1)).fc
   simp only [fcG, cellsF, neK, and_true, ne_eq, Nat.zero_add, Nat.reduceAdd] at hc
   simp [tyUpon, execOp, go_sem, Act.eval, hc, Below.refl]
  ·have h2 : EV _ (fv 2) w1 := hp 2 (LC (by kernel_rfl))
   refine tyAt_none rfl ?_
   refine ty_call (f := 24) (args := #[.agg #[.bool sy, .slice ay ny cy]]) (by simp [execOp, go_sem, Act.eval, h2]) ?_
   exact (GY.out w1 (hKy.out.at ((hL0.call (below_drew hb1)).bl) kKy)).mono fun e w2 ⟨h1, h2⟩ => ⟨_, h1, rfl, h2⟩
  ·refine tyAt_none rfl ?_
   have hc := (hL0.call (below_drew hb1)).fc
   simp only [fcG, cellsF, neK, and_true, ne_eq, Nat.zero_add, Nat.reduceAdd] at hc
   simp [tyUpon, execOp, go_sem, Act.eval, hc, Below.refl]
  ·have h4 : EV _ (fv 4) w1 := hp 4 (LC (by kernel_rfl))
   refine tyAt_none rfl ?_
   refine ty_call (f := 25) (args := #[.agg #[.bool sx, .slice ax nx cx]]) (by simp [execOp, go_sem, Act.eval, h4]) ?_
   exact (RX.out w1 (hKx.out.at ((hL0.call (below_drew hb1)).bl) kKx)).mono fun e w2 ⟨pv, h1, h2, h3⟩ => ⟨pv, h1, h2, h3⟩
  ·refine tyAt_none rfl ?_
   have hc := (hL0.call (below_drew hb1)).fc
   simp only [fcG, cellsF, neK, and_true, ne_eq, Nat.zero_add, Nat.reduceAdd] at hc
   simp [tyUpon, execOp, go_sem, Act.eval, hc, Below.refl]
  ·have h6 : EV _ (fv 6) w1 := hp 6 (LC (by kernel_rfl))
   refine tyAt_none rfl ?_
   refine ty_call (f := 25) (args := #[.agg #[.bool sy, .slice ay ny cy]]) (by simp [execOp, go_sem, Act.eval, h6]) ?_
   exact (RY.out w1 (hKy.out.at ((hL0.call (below_drew hb1)).bl) kKy)).mono fun e w2 ⟨pv, h1, h2, h3⟩ => ⟨pv, h1, h2, h3⟩
  ·exact tyAt_new rfl rfl new_int (below_drew hb1).size
  ·exact tyAt_new rfl rfl new_int (below_drew hb1).size
  ·exact tyAt_new rfl rfl new_rz (below_drew hb1).size
  ·exact tyAt_new rfl rfl new_rz (below_drew hb1).size
 ·intro j hj u w2 hT
  simp only [List.contains_iff_mem, List.mem_cons, List.not_mem_nil, or_false] at hj
  rcases hj with rfl | rfl | rfl | rfl <;> exact NewB.ptr hT
 ·exact ⟨⟨_, _, _, _, rfl, rfl, rfl, new_int⟩, ⟨_, _, _, _, rfl, rfl, rfl, new_int⟩, ⟨_, _, _, _, rfl, rfl, rfl, new_rz⟩, ⟨_, _, _, _, rfl, rfl, rfl, new_rz⟩, trivial⟩
 ·intro fv x3 hb1 hv hne
  have e0 : fv 0 = _ := hv 0 (by omega)
  have e1 : fv 1 = _ := hv 1 (by omega)
  have e2 : fv 2 = _ := hv 2 (by omega)
  have e3 : fv 3 = _ := hv 3 (by omega)
  have e4 : fv 4 = _ := hv 4 (by omega)
  have q5 : RZ x3 (fv 5) a := hv 5 (by omega)
  obtain ⟨g1, d1, e5⟩ := rz_form q5
  rw [e5] at q5
  have e6 : fv 6 = _ := hv 6 (by omega)
  have q7 : RZ x3 (fv 7) b := hv 7 (by omega)
  obtain ⟨g2, d2, e7⟩ := rz_form q7
  rw [e7] at q7
  obtain ⟨kb8, e8, n8, m8⟩ : NewB x2.heap.size [.int .u64 0, .string ⟨#[]⟩, .bool false] (fv 8) x3 := hv 8 (by omega)
  obtain ⟨kb9, e9, n9, m9⟩ : NewB x2.heap.size [.int .u64 0, .string ⟨#[]⟩, .bool false] (fv 9) x3 := hv 9 (by omega)
  obtain ⟨kb10, e10, n10, m10⟩ : NewB x2.heap.size [.bool false, .slice none 0 0] (fv 10) x3 := hv 10 (by omega)
  obtain ⟨kb11, e11, n11, m11⟩ : NewB x2.heap.size [.bool false, .slice none 0 0] (fv 11) x3 := hv 11 (by omega)
  simp only [List.take_succ_cons, List.take_zero, putsV, Act.put, List.setIfInBounds_toArray, List.set_cons_succ, List.set_cons_zero, List.drop_succ_cons, List.drop_zero, Nat.zero_add, Nat.reduceAdd, e0, e1, e2, e3, e4, e5, e6, e7, e8, e9, e10, e11]
  have hx0 := hL0
  replace hL0 := hL0.call (below_drew hb1)
  replace hS := hS.call (below_drew hb1)
  replace hL0 := GL.tnew (M := []) hL0 hx0 n8 m8 (fun p hp => by cases hp)
  replace hL0 := GL.tnew (M := [(kb8, [.int .u64 0, .string ⟨#[]⟩, .bool false])]) hL0 hx0 n9 m9 (by intro p hp; simp only [List.mem_cons, List.not_mem_nil, or_false] at hp; rcases hp with rfl; exact ptr_ne e8 e9 (hne 8 9 (by omega) (by omega) (by omega) rfl rfl))
  replace hL0 := GL.tnew (M := [(kb9, [.int .u64 0, .string ⟨#[]⟩, .bool false]), (kb8, [.int .u64 0, .string ⟨#[]⟩, .bool false])]) hL0 hx0 n10 m10 (by intro p hp; simp only [List.mem_cons, List.not_mem_nil, or_false] at hp; rcases hp with rfl | rfl; exact ptr_ne e9 e10 (hne 9 10 (by omega) (by omega) (by omega) rfl rfl); exact ptr_ne e8 e10 (hne 8 10 (by omega) (by omega) (by omega) rfl rfl))
  replace hL0 := GL.tnew (M := [(kb10, [.bool false, .slice none 0 0]), (kb9, [.int .u64 0, .string ⟨#[]⟩, .bool false]), (kb8, [.int .u64 0, .string ⟨#[]⟩, .bool false])]) hL0 hx0 n11 m11 (by intro p hp; simp only [List.mem_cons, List.not_mem_nil, or_false] at hp; rcases hp with rfl | rfl | rfl; exact ptr_ne e10 e11 (hne 10 11 (by omega) (by omega) (by omega) rfl rfl); exact ptr_ne e9 e11 (hne 9 11 (by omega) (by omega) (by omega) rfl rfl); exact ptr_ne e8 e11 (hne 8 11 (by omega) (by omega) (by omega) rfl rfl))
  simp only [List.cons_append, List.nil_append] at hL0
  replace hS := hS.cons (rz_rn q5)
  replace hS := hS.cons (rz_rn q7)
  clear e0 e1 e2 e3 e4 e5 e6 e7 e8 e9 e10 e11 hb1 hv hne hx0 n8 m8 n9 m9 n10 m10 n11 m11 q5 q7 fv
  have hS1 := hS.put ((((Upd.refl kb8 x3).setCell 0 (.int .u64 ((zl a : Nat) : Int))).setCell 1 (.string (zh a))).setCell 2 (.bool (zs a))) (hL0.get _ _ (List.mem_cons_of_mem _ (List.mem_cons_of_mem _ (List.mem_cons_of_mem _ List.mem_cons_self)))) (by intro v hv n; simp only [List.mem_cons, List.not_mem_nil, or_false] at hv; rcases hv with rfl | rfl | rfl <;> simp)
  have hA := hL0.fc
  simp only [fcG, cellsF, neK, and_true, ne_eq, Nat.zero_add, Nat.reduceAdd] at hA
  have hP := hL0.put 3 (kb8) _ rfl [.int .u64 ((zl a : Nat) : Int), .string (zh a), .bool (zs a)] rfl
  simp only [setAll, List.set_cons_zero, List.set_cons_succ] at hP
  generalize hput1 : (((x3.setCell ⟨kb8, 0, none⟩ (.int .u64 ((zl a : Nat) : Int))).setCell ⟨kb8, 1, none⟩ (.string (zh a))).setCell ⟨kb8, 2, none⟩ (.bool (zs a))) = x4 at hP hS1
  have hB1 := hP.fc
  simp only [fcG, cellsF, neK, and_true, ne_eq, Nat.zero_add, Nat.reduceAdd] at hB1
  replace hL0 := hP
  replace hS := hS1
  clear hS1
  have hS1 := hS.put ((((Upd.refl kb9 x4).setCell 0 (.int .u64 ((zl b : Nat) : Int))).setCell 1 (.string (zh b))).setCell 2 (.bool (zs b))) (hL0.get _ _ (List.mem_cons_of_mem _ (List.mem_cons_of_mem _ List.mem_cons_self))) (by intro v hv n; simp only [List.mem_cons, List.not_mem_nil, or_false] at hv; rcases hv with rfl | rfl | rfl <;> simp)
  have hP := hL0.put 2 (kb9) _ rfl [.int .u64 ((zl b : Nat) : Int), .string (zh b), .bool (zs b)] rfl
  simp only [setAll, List.set_cons_zero, List.set_cons_succ] at hP
  generalize hput2 : (((x4.setCell ⟨kb9, 0, none⟩ (.int .u64 ((zl b : Nat) : Int))).setCell ⟨kb9, 1, none⟩ (.string (zh b))).setCell ⟨kb9, 2, none⟩ (.bool (zs b))) = x5 at hP hS1
  have hB2 := hP.fc
  simp only [fcG, cellsF, neK, and_true, ne_eq, Nat.zero_add, Nat.reduceAdd] at hB2
  replace hL0 := hP
  replace hS := hS1
  clear hS1
  have hS1 := hS.put (((Upd.refl kb10 x5).setCell 0 (.bool (zs a))).setCell 1 (.slice g1 (tln a.natAbs) d1)) (hL0.get _ _ (List.mem_cons_of_mem _ List.mem_cons_self)) (by intro v hv n; simp only [List.mem_cons, List.not_mem_nil, or_false] at hv; rcases hv with rfl | rfl <;> simp)
  have hP := hL0.put 1 (kb10) _ rfl [.bool (zs a), .slice g1 (tln a.natAbs) d1] rfl
  simp only [setAll, List.set_cons_zero, List.set_cons_succ] at hP
  generalize hput3 : ((x5.setCell ⟨kb10, 0, none⟩ (.bool (zs a))).setCell ⟨kb10, 1, none⟩ (.slice g1 (tln a.natAbs) d1)) = x6 at hP hS1
  have hB3 := hP.fc
  simp only [fcG, cellsF, neK, and_true, ne_eq, Nat.zero_add, Nat.reduceAdd] at hB3
  replace hL0 := hP
  replace hS := hS1
  clear hS1
  have hS1 := hS.put (((Upd.refl kb11 x6).setCell 0 (.bool (zs b))).setCell 1 (.slice g2 (tln b.natAbs) d2)) (hL0.get _ _ List.mem_cons_self) (by intro v hv n; simp only [List.mem_cons, List.not_mem_nil, or_false] at hv; rcases hv with rfl | rfl <;> simp)
  have hP := hL0.put 0 (kb11) _ rfl [.bool (zs b), .slice g2 (tln b.natAbs) d2] rfl
  simp only [setAll, List.set_cons_zero, List.set_cons_succ] at hP
  generalize hput4 : ((x6.setCell ⟨kb11, 0, none⟩ (.bool (zs b))).setCell ⟨kb11, 1, none⟩ (.slice g2 (tln b.natAbs) d2)) = x7 at hP hS1
  have hB4 := hP.fc
  simp only [fcG, cellsF, neK, and_true, ne_eq, Nat.zero_add, Nat.reduceAdd] at hB4
  replace hL0 := hP
  replace hS := hS1
  clear hS1
  go_wp2_with fail
  clear hA
  with_reducible refine Calls.mono (HG.out _) ?_
  rintro e x8 ⟨rfl, hb⟩
  replace hL0 := hL0.call hb
  replace hS := hS.call hb
  clear hb hput1 hB1 hput2 hB2 hput3 hB3 hput4 hB4
  replace hS := (((hS.new (.cells #[.int .u64 ((zl g : Nat) : Int), .string (zh g), .bool (zs g)] 39)).new (.cells #[.int .u64 ((zl u : Nat) : Int), .string (zh u), .bool (zs u)] 39)).new (.cells #[.int .u64 ((zl v : Nat) : Int), .string (zh v), .bool (zs v)] 39))
  replace hL0 := (((hL0.new rfl [.int .u64 ((zl g : Nat) : Int), .string (zh g), .bool (zs g)] 39).new (K := x8.heap.size + 1) (szA _ _) [.int .u64 ((zl u : Nat) : Int), .string (zh u), .bool (zs u)] 39).new (K := x8.heap.size + 1 + 1) (by simp only [World.size_alloc]) [.int .u64 ((zl v : Nat) : Int), .string (zh v), .bool (zs v)] 39)
  generalize hweq : (((x8.alloc (.cells #[.int .u64 ((zl g : Nat) : Int), .string (zh g), .bool (zs g)] 39)).alloc (.cells #[.int .u64 ((zl u : Nat) : Int), .string (zh u), .bool (zs u)] 39)).alloc (.cells #[.int .u64 ((zl v : Nat) : Int), .string (zh v), .bool (zs v)] 39)) = x9 at hL0 hS
  have hN0 := cells_of _ 0 [] rfl (hL0.get _ _ (List.mem_cons_of_mem _ (List.mem_cons_of_mem _ (List.mem_cons_of_mem _ List.mem_cons_self))))
  simp only [cellsF, and_true, Nat.zero_add, Nat.reduceAdd] at hN0
  have hN1 := cells_of _ 0 [] rfl (hL0.get _ _ (List.mem_cons_of_mem _ (List.mem_cons_of_mem _ (List.mem_cons_of_mem _ (List.mem_cons_of_mem _ List.mem_cons_self)))))
  simp only [cellsF, and_true, Nat.zero_add, Nat.reduceAdd] at hN1
  go_wp2_with fail
  clear hN0 hN1
  with_reducible refine Calls.mono (HG2.out (.agg #[.bool (zs a), .slice g1 (tln a.natAbs) d1]) (.agg #[.bool (zs b), .slice g2 (tln b.natAbs) d2]) _ (rz_of (hS.get (List.mem_cons_of_mem _ List.mem_cons_self))) (rz_of (hS.get List.mem_cons_self))) ?_
  rintro e x10 ⟨v0, v1, v2, rfl, q0, q1, q2, hb⟩
  replace hL0 := hL0.call hb
  replace hS := hS.call hb
  clear hb hweq
  obtain ⟨g3, d3, rfl⟩ := rz_form q0
  replace hS := hS.cons (rz_rn q0)
  clear q0
  obtain ⟨g4, d4, rfl⟩ := rz_form q1
  replace hS := hS.cons (rz_rn q1)
  clear q1
  obtain ⟨g5, d5, rfl⟩ := rz_form q2
  replace hS := hS.cons (rz_rn q2)
  clear q2
  replace hS := (((hS.new (.cells #[.bool (zs g), .slice g3 (tln g.natAbs) d3] 44)).new (.cells #[.bool (zs u), .slice g4 (tln u.natAbs) d4] 44)).new (.cells #[.bool (zs v), .slice g5 (tln v.natAbs) d5] 44))
  replace hL0 := (((hL0.new rfl [.bool (zs g), .slice g3 (tln g.natAbs) d3] 44).new (K := x10.heap.size + 1) (szA _ _) [.bool (zs u), .slice g4 (tln u.natAbs) d4] 44).new (K := x10.heap.size + 1 + 1) (by simp only [World.size_alloc]) [.bool (zs v), .slice g5 (tln v.natAbs) d5] 44)
  generalize hweq : (((x10.alloc (.cells #[.bool (zs g), .slice g3 (tln g.natAbs) d3] 44)).alloc (.cells #[.bool (zs u), .slice g4 (tln u.natAbs) d4] 44)).alloc (.cells #[.bool (zs v), .slice g5 (tln v.natAbs) d5] 44)) = x11 at hL0 hS
  have hN0 := cells_of _ 0 [] rfl (hL0.get _ _ (List.mem_cons_of_mem _ (List.mem_cons_of_mem _ List.mem_cons_self)))
  simp only [cellsF, and_true, Nat.zero_add, Nat.reduceAdd] at hN0
  have hN1 := cells_of _ 0 [] rfl (hL0.get _ _ (List.mem_cons_of_mem _ (List.mem_cons_of_mem _ (List.mem_cons_of_mem _ (List.mem_cons_of_mem _ (List.mem_cons_of_mem _ List.mem_cons_self))))))
  simp only [cellsF, and_true, Nat.zero_add, Nat.reduceAdd] at hN1
  go_wp2_with fail
  clear hN0 hN1
  with_reducible refine Calls.mono (H0.out (.agg #[.bool (zs g), .slice g3 (tln g.natAbs) d3]) _ (hKT.out.at (hL0.bl) kKT) (rz_of (hS.get (List.mem_cons_of_mem _ (List.mem_cons_of_mem _ List.mem_cons_self))))) ?_
  rintro e x12 ⟨rfl, hb⟩
  replace hL0 := hL0.call hb
  replace hS := hS.call hb
  clear hb hweq
  have hN0 := cells_of _ 0 [] rfl (hL0.get _ _ (List.mem_cons_of_mem _ List.mem_cons_self))
  simp only [cellsF, and_true, Nat.zero_add, Nat.reduceAdd] at hN0
  have hN1 := cells_of _ 0 [] rfl (hL0.get _ _ (List.mem_cons_of_mem _ (List.mem_cons_of_mem _ (List.mem_cons_of_mem _ (List.mem_cons_of_mem _ List.mem_cons_self)))))
  simp only [cellsF, and_true, Nat.zero_add, Nat.reduceAdd] at hN1
  go_wp2_with fail
  clear hN0 hN1
  with_reducible refine Calls.mono (H1.out (.agg #[.bool (zs u), .slice g4 (tln u.natAbs) d4]) _ (hKT.out.at (hL0.bl) kKT) (rz_of (hS.get (List.mem_cons_of_mem _ List.mem_cons_self)))) ?_
  rintro e x13 ⟨rfl, hb⟩
  replace hL0 := hL0.call hb
  replace hS := hS.call hb
  clear hb
  have hN0 := cells_of _ 0 [] rfl (hL0.get _ _ List.mem_cons_self)
  simp only [cellsF, and_true, Nat.zero_add, Nat.reduceAdd] at hN0
  have hN1 := cells_of _ 0 [] rfl (hL0.get _ _ (List.mem_cons_of_mem _ (List.mem_cons_of_mem _ (List.mem_cons_of_mem _ List.mem_cons_self))))
  simp only [cellsF, and_true, Nat.zero_add, Nat.reduceAdd] at hN1
  go_wp2_with fail
  clear hN0 hN1
  with_reducible refine Calls.mono (H2.out (.agg #[.bool (zs v), .slice g5 (tln v.natAbs) d5]) _ (hKT.out.at (hL0.bl) kKT) (rz_of (hS.get List.mem_cons_self))) ?_
  rintro e x14 ⟨rfl, hb⟩
  replace hL0 := hL0.call hb
  replace hS := hS.call hb
  clear hb
  have hN0 := cells_of _ 0 [] rfl (hL0.get _ _ (List.mem_cons_of_mem _ (List.mem_cons_of_mem _ (List.mem_cons_of_mem _ (List.mem_cons_of_mem _ (List.mem_cons_of_mem _ (List.mem_cons_of_mem _ (List.mem_cons_of_mem _ (List.mem_cons_of_mem _ List.mem_cons_self)))))))))
  simp only [cellsF, and_true, Nat.zero_add, Nat.reduceAdd] at hN0
  have hN1 := cells_of _ 0 [] rfl (hL0.get _ _ (List.mem_cons_of_mem _ (List.mem_cons_of_mem _ (List.mem_cons_of_mem _ (List.mem_cons_of_mem _ (List.mem_cons_of_mem _ (List.mem_cons_of_mem _ (List.mem_cons_of_mem _ (List.mem_cons_of_mem _ (List.mem_cons_of_mem _ List.mem_cons_self))))))))))
  simp only [cellsF, and_true, Nat.zero_add, Nat.reduceAdd] at hN1
  go_wp2_with fail
  clear hN0 hN1
  with_reducible refine Calls.mono (HD.out _) ?_
  rintro e x15 ⟨rfl, hb⟩
  replace hL0 := hL0.call hb
  replace hS := hS.call hb
  clear hb
  replace hS := ((hS.new (.cells #[.int .u64 ((zl q : Nat) : Int), .string (zh q), .bool (zs q)] 39)).new (.cells #[.int .u64 ((zl r : Nat) : Int), .string (zh r), .bool (zs r)] 39))
  replace hL0 := ((hL0.new rfl [.int .u64 ((zl q : Nat) : Int), .string (zh q), .bool (zs q)] 39).new (K := x15.heap.size + 1) (szA _ _) [.int .u64 ((zl r : Nat) : Int), .string (zh r), .bool (zs r)] 39)
  generalize hweq : ((x15.alloc (.cells #[.int .u64 ((zl q : Nat) : Int), .string (zh q), .bool (zs q)] 39)).alloc (.cells #[.int .u64 ((zl r : Nat) : Int), .string (zh r), .bool (zs r)] 39)) = x16 at hL0 hS
  have hN0 := cells_of _ 0 [] rfl (hL0.get _ _ (List.mem_cons_of_mem _ (List.mem_cons_of_mem _ (List.mem_cons_of_mem _ (List.mem_cons_of_mem _ (List.mem_cons_of_mem _ (List.mem_cons_of_mem _ (List.mem_cons_of_mem _ (List.mem_cons_of_mem _ List.mem_cons_self)))))))))
  simp only [cellsF, and_true, Nat.zero_add, Nat.reduceAdd] at hN0
  go_wp2_with fail
  clear hN0
  with_reducible refine Calls.mono (HS.out (.agg #[.bool (zs b), .slice g2 (tln b.natAbs) d2]) _ (rz_of (hS.get (List.mem_cons_of_mem _ (List.mem_cons_of_mem _ (List.mem_cons_of_mem _ List.mem_cons_self)))))) ?_
  rintro e x17 ⟨rfl, hb⟩
  replace hL0 := hL0.call hb
  replace hS := hS.call hb
  clear hb hweq
  have hN0 := cells_of _ 0 [] rfl (hL0.get _ _ (List.mem_cons_of_mem _ List.mem_cons_self))
  simp only [cellsF, and_true, Nat.zero_add, Nat.reduceAdd] at hN0
  go_wp2_with fail
  clear hN0
  with_reducible refine Calls.mono (H3.out _) ?_
  rintro e x18 ⟨rfl, hb⟩
  replace hL0 := hL0.call hb
  replace hS := hS.call hb
  clear hb
  have hN0 := cells_of _ 0 [] rfl (hL0.get _ _ List.mem_cons_self)
  simp only [cellsF, and_true, Nat.zero_add, Nat.reduceAdd] at hN0
  go_wp2_with fail
  clear hN0
  with_reducible refine Calls.mono (H4.out _) ?_
  rintro e x19 ⟨rfl, hb⟩
  replace hL0 := hL0.call hb
  replace hS := hS.call hb
  clear hb
  go_wp2_with fail
  with_reducible refine Calls.mono (HW.out _ (hKT.out.at (hL0.bl) kKT)) ?_
  rintro e x20 ⟨rfl, hb⟩
  replace hL0 := hL0.call hb
  replace hS := hS.call hb
  clear hb
  go_wp2_with fail
  exact bodyPost_ret (v := .bool true) (by simp [results, Tryz.results5, go_sem]) rfl ⟨rfl, hL0.bl⟩
set_option maxHeartbeats 4000000 in
set_option maxRecDepth 100000 in
theorem idivs_pos (sx sy : Bool) (ax ay : Option Addr) (nx cx ny cy : Nat) (a b g u v q r j : Int) (Kx : World → Prop) (hKx : Keeps Kx) (GX : RK Kx 24 #[.agg #[.bool sx, .slice ax nx cx]] (intV a)) (Ky : World → Prop) (hKy : Keeps Ky) (GY : RK Ky 24 #[.agg #[.bool sy, .slice ay ny cy]] (intV b)) (RX : ∀ (w : World), Kx w → Calls Tryz.prog 25 #[.agg #[.bool sx, .slice ax nx cx]] w fun e w' => ∃ pv, e = .returned pv ∧ RZ w' pv a ∧ Below w.heap.size w w') (RY : ∀ (w : World), Ky w → Calls Tryz.prog 25 #[.agg #[.bool sy, .slice ay ny cy]] w fun e w' => ∃ pv, e = .returned pv ∧ RZ w' pv b ∧ Below w.heap.size w w') (HG : RT 42 #[intV a, intV b] (.tuple #[intV g, intV u, intV v])) (HG2 : ∀ (p0 p1 : Value) (w : World), RZ w p0 a → RZ w p1 b → Calls Tryz.prog 43 #[p0, p1] w fun e w' => ∃ v0 v1 v2, e = .returned (.tuple #[v0, v1, v2]) ∧ RZ w' v0 g ∧ RZ w' v1 u ∧ RZ w' v2 v ∧ Below w.heap.size w w') (KT : World → Prop) (hKT : Keeps KT) (H0 : ∀ (p1 : Value) (w : World), KT w → RZ w p1 g → Calls Tryz.prog 27 #[intV g, p1] w fun e w' => e = .returned (.bool true) ∧ Below w.heap.size w w') (H1 : ∀ (p1 : Value) (w : World), KT w → RZ w p1 u → Calls Tryz.prog 27 #[intV u, p1] w fun e w' => e = .returned (.bool true) ∧ Below w.heap.size w w') (H2 : ∀ (p1 : Value) (w : World), KT w → RZ w p1 v → Calls Tryz.prog 27 #[intV v, p1] w fun e w' => e = .returned (.bool true) ∧ Below w.heap.size w w') (HD : RT 44 #[intV a, intV b] (.tuple #[intV q, intV r, .bool true])) (HS : ∀ (p0 : Value) (w : World), RZ w p0 b → Calls Tryz.prog 37 #[p0] w fun e w' => e = .returned (.int .i64 j) ∧ Below w.heap.size w w') (HD2 : ∀ (p0 p1 : Value) (w : World), RZ w p0 a → RZ w p1 b → Calls Tryz.prog 46 #[p0, p1] w fun e w' => ∃ v0 v1, e = .returned (.tuple #[v0, v1]) ∧ RZ w' v0 q ∧ RZ w' v1 r ∧ Below w.heap.size w w') (H3 : ∀ (p1 : Value) (w : World), KT w → RZ w p1 q → Calls Tryz.prog 27 #[intV q, p1] w fun e w' => e = .returned (.bool true) ∧ Below w.heap.size w w') (H4 : ∀ (p1 : Value) (w : World), KT w → RZ w p1 r → Calls Tryz.prog 27 #[intV r, p1] w fun e w' => e = .returned (.bool true) ∧ Below w.heap.size w w') (HW : RK KT 23 #[] (.bool true)) (hfew : decide (nx ≤ 10 ∧ ny ≤ 10) = true) (hj : (j == 0) = false) (w : World) (kKx : Kx w) (kKy : Ky w) (kKT : KT w) :
  Calls Tryz.prog 5 #[.agg #[.bool sx, .slice ax nx cx], .agg #[.bool sy, .slice ay ny cy]] w fun e w' => e = .returned (.bool true) ∧ Below w.heap.size w w' := by
 replace hKx := Lib.hid hKx
 replace GX := Lib.hid GX
 replace hKy := Lib.hid hKy
 replace GY := Lib.hid GY
 replace RX := Lib.hid RX
 replace RY := Lib.hid RY
 replace HG := Lib.hid HG
 replace HG2 := Lib.hid HG2
 replace hKT := Lib.hid hKT
 replace H0 := Lib.hid H0
 replace H1 := Lib.hid H1
 replace H2 := Lib.hid H2
 replace HD := Lib.hid HD
 replace HS := Lib.hid HS
 replace HD2 := Lib.hid HD2
 replace H3 := Lib.hid H3
 replace H4 := Lib.hid H4
 replace HW := Lib.hid HW
 have hL0 : GL w w [] := GL.start w
 have hS : SS w [] := SS.nil w
 replace hS := (((hS.new (.cells #[.bool sx, .slice ax nx cx] 36)).new (.cells #[.bool sy, .slice ay ny cy] 36)).new (.cells #[.bool sx, .slice ax nx cx, .bool sy, .slice ay ny cy] 36))
 replace hL0 := (((hL0.new rfl [.bool sx, .slice ax nx cx] 36).new (K := w.heap.size + 1) (szA _ _) [.bool sy, .slice ay ny cy] 36).new (K := w.heap.size + 1 + 1) (by simp only [World.size_alloc]) [.bool sx, .slice ax nx cx, .bool sy, .slice ay ny cy] 36)
 generalize hweq : (((w.alloc (.cells #[.bool sx, .slice ax nx cx] 36)).alloc (.cells #[.bool sy, .slice ay ny cy] 36)).alloc (.cells #[.bool sx, .slice ax nx cx, .bool sy, .slice ay ny cy] 36)) = x1 at hL0 hS
 go_enter Tryz.func5, Tryz.ntmps5
 have hN0 := cells_of _ 0 [] rfl (hL0.get _ _ (List.mem_cons_of_mem _ List.mem_cons_self))
 simp only [cellsF, and_true, Nat.zero_add, Nat.reduceAdd] at hN0
 have hN1 := cells_of _ 0 [] rfl (hL0.get _ _ (List.mem_cons_of_mem _ (List.mem_cons_of_mem _ List.mem_cons_self)))
 simp only [cellsF, and_true, Nat.zero_add, Nat.reduceAdd] at hN1
 have HFw := few2 10 10 rfl (by omega) (hL0.get _ _ List.mem_cons_self)
 rw [hfew] at HFw
 replace HFw := Lib.hid HFw
 go_wp2_with fail
 with_reducible refine Calls.mono (HFw.out) ?_
 rintro e x2 ⟨rfl, rfl⟩
 clear HFw
 clear hN0 hN1
 go_upto_region 3 with fail
 clear hweq
 refine region_tal 12 [EV (.agg #[.bool sx, .slice ax nx cx]), EV (intV a), EV (.agg #[.bool sy, .slice ay ny cy]), EV (intV b), EV (.agg #[.bool sx, .slice ax nx cx]), PZ a, EV (.agg #[.bool sy, .slice ay ny cy]), PZ b, NewB x2.heap.size [.int .u64 0, .string ⟨#[]⟩, .bool false], NewB x2.heap.size [.int .u64 0, .string ⟨#[]⟩, .bool false], NewB x2.heap.size [.bool false, .slice none 0 0], NewB x2.heap.size [.bool false, .slice none 0 0]] [8, 9, 10, 11] (by kernel_rfl) (by kernel_rfl) ?_ ?_ ?_ ?_ ?_
 ·exact stays_cons (stays_eq _) (stays_cons (stays_eq _) (stays_cons (stays_eq _) (stays_cons (stays_eq _) (stays_cons (stays_eq _) (stays_cons (stays_rz _) (stays_cons (stays_eq _) (stays_cons (stays_rz _) (stays_cons (stays_new _ _) (stays_cons (stays_new _ _) (stays_cons (stays_new _ _) (stays_cons (stays_new _ _) (stays_nil))))))))))))
 ·simp only [List.take_succ_cons, List.take_zero, hopsR, and_true]
  refine ⟨?_, ?_, ?_, ?_, ?_, ?_, ?_, ?_, ?_, ?_, ?_, ?_⟩ <;> intro fv w1 hb1 hp
  all_goals (simp only [putsV, Act.put, List.setIfInBounds_toArray, List.set_cons_succ, List.set_cons_zero, Nat.zero_add, Nat.reduceAdd])
  ·refine tyAt_none rfl ?_
   have hc := (hL0.call (below_drew hb1)).fc
   simp only [fcG, cellsF, neK, and_true, ne_eq, Nat.zero_add, Nat.reduceAdd] at hc
   simp [tyUpon, execOp, go_sem, Act.eval, hc, Below.refl]
  ·have h0 : EV _ (fv 0) w1 := hp 0 (LC (by kernel_rfl))
   refine tyAt_none rfl ?_
   refine ty_call (f := 24) (args := #[.agg #[.bool sx, .slice ax nx cx]]) (by simp [execOp, go_sem, Act.eval, h0]) ?_
   exact (GX.out w1 (hKx.out.at ((hL0.call (below_drew hb1)).bl) kKx)).mono fun e w2 ⟨h1, h2⟩ => ⟨_, h1, rfl, h2⟩
  ·refine tyAt_none rfl ?_
   have hc := (hL0.call (below_drew hb1)).fc
   simp only [fcG, cellsF, neK, and_true, ne_eq, Nat.zero_add, Nat.reduceAdd] at hc
   simp [tyUpon, execOp, go_sem, Act.eval, hc, Below.refl]
  ·have h2 : EV _ (fv 2) w1 := hp 2 (LC (by kernel_rfl))
   refine tyAt_none rfl ?_
   refine ty_call (f := 24) (args := #[.agg #[.bool sy, .slice ay ny cy]]) (by simp [execOp, go_sem, Act.eval, h2]) ?_
   exact (GY.out w1 (hKy.out.at ((hL0.call (below_drew hb1)).bl) kKy)).mono fun e w2 ⟨h1, h2⟩ => ⟨_, h1, rfl, h2⟩
  ·refine tyAt_none rfl ?_
   have hc := (hL0.call (below_drew hb1)).fc
   simp only [fcG, cellsF, neK, and_true, ne_eq, Nat.zero_add, Nat.reduceAdd] at hc
   simp [tyUpon, execOp, go_sem, Act.eval, hc, Below.refl]
  ·have h4 : EV _ (fv 4) w1 := hp 4 (LC (by kernel_rfl))
   refine tyAt_none rfl ?_
   refine ty_call (f := 25) (args := #[.agg #[.bool sx, .slice ax nx cx]]) (by simp [execOp, go_sem, Act.eval, h4]) ?_
   exact (RX.out w1 (hKx.out.at ((hL0.call (below_drew hb1)).bl) kKx)).mono fun e w2 ⟨pv, h1, h2, h3⟩ => ⟨pv, h1, h2, h3⟩
  ·refine tyAt_none rfl ?_
   have hc := (hL0.call (below_drew hb1)).fc
   simp only [fcG, cellsF, neK, and_true, ne_eq, Nat.zero_add, Nat.reduceAdd] at hc
   simp [tyUpon, execOp, go_sem, Act.eval, hc, Below.refl]
  ·have h6 : EV _ (fv 6) w1 := hp 6 (LC (by kernel_rfl))
   refine tyAt_none rfl ?_
   refine ty_call (f := 25) (args := #[.agg #[.bool sy, .slice ay ny cy]]) (by simp [execOp, go_sem, Act.eval, h6]) ?_
   exact (RY.out w1 (hKy.out.at ((hL0.call (below_drew hb1)).bl) kKy)).mono fun e w2 ⟨pv, h1, h2, h3⟩ => ⟨pv, h1, h2, h3⟩
  ·exact tyAt_new rfl rfl new_int (below_drew hb1).size
  ·exact tyAt_new rfl rfl new_int (below_drew hb1).size
  ·exact tyAt_new rfl rfl new_rz (below_drew hb1).size
  ·exact tyAt_new rfl rfl new_rz (below_drew hb1).size
 ·intro j hj u w2 hT
  simp only [List.contains_iff_mem, List.mem_cons, List.not_mem_nil, or_false] at hj
  rcases hj with rfl | rfl | rfl | rfl <;> exact NewB.ptr hT
 ·exact ⟨⟨_, _, _, _, rfl, rfl, rfl, new_int⟩, ⟨_, _, _, _, rfl, rfl, rfl, new_int⟩, ⟨_, _, _, _, rfl, rfl, rfl, new_rz⟩, ⟨_, _, _, _, rfl, rfl, rfl, new_rz⟩, trivial⟩
 ·intro fv x3 hb1 hv hne
  have e0 : fv 0 = _ := hv 0 (by omega)
  have e1 : fv 1 = _ := hv 1 (by omega)
  have e2 : fv 2 = _ := hv 2 (by omega)
  have e3 : fv 3 = _ := hv 3 (by omega)
  have e4 : fv 4 = _ := hv 4 (by omega)
  have q5 : RZ x3 (fv 5) a := hv 5 (by omega)
  obtain ⟨g1, d1, e5⟩ := rz_form q5
  rw [e5] at q5
  have e6 : fv 6 = _ := hv 6 (by omega)
  have q7 : RZ x3 (fv 7) b := hv 7 (by omega)
  obtain ⟨g2, d2, e7⟩ := rz_form q7
  rw [e7] at q7
  obtain ⟨kb8, e8, n8, m8⟩ : NewB x2.heap.size [.int .u64 0, .string ⟨#[]⟩, .bool false] (fv 8) x3 := hv 8 (by omega)
  obtain ⟨kb9, e9, n9, m9⟩ : NewB x2.heap.size [.int .u64 0, .string ⟨#[]⟩, .bool false] (fv 9) x3 := hv 9 (by omega)
  obtain ⟨kb10, e10, n10, m10⟩ : NewB x2.heap.size [.bool false, .slice none 0 0] (fv 10) x3 := hv 10 (by omega)
  obtain ⟨kb11, e11, n11, m11⟩ : NewB x2.heap.size [.bool false, .slice none 0 0] (fv 11) x3 := hv 11 (by omega)
  simp only [List.take_succ_cons, List.take_zero, putsV, Act.put, List.setIfInBounds_toArray, List.set_cons_succ, List.set_cons_zero, List.drop_succ_cons, List.drop_zero, Nat.zero_add, Nat.reduceAdd, e0, e1, e2, e3, e4, e5, e6, e7, e8, e9, e10, e11]
  have hx0 := hL0
  replace hL0 := hL0.call (below_drew hb1)
  replace hS := hS.call (below_drew hb1)
  replace hL0 := GL.tnew (M := []) hL0 hx0 n8 m8 (fun p hp => by cases hp)
  replace hL0 := GL.tnew (M := [(kb8, [.int .u64 0, .string ⟨#[]⟩, .bool false])]) hL0 hx0 n9 m9 (by intro p hp; simp only [List.mem_cons, List.not_mem_nil, or_false] at hp; rcases hp with rfl; exact ptr_ne e8 e9 (hne 8 9 (by omega) (by omega) (by omega) rfl rfl))
  replace hL0 := GL.tnew (M := [(kb9, [.int .u64 0, .string ⟨#[]⟩, .bool false]), (kb8, [.int .u64 0, .string ⟨#[]⟩, .bool false])]) hL0 hx0 n10 m10 (by intro p hp; simp only [List.mem_cons, List.not_mem_nil, or_false] at hp; rcases hp with rfl | rfl; exact ptr_ne e9 e10 (hne 9 10 (by omega) (by omega) (by omega) rfl rfl); exact ptr_ne e8 e10 (hne 8 10 (by omega) (by omega) (by omega) rfl rfl))
  replace hL0 := GL.tnew (M := [(kb10, [.bool false, .slice none 0 0]), (kb9, [.int .u64 0, .string ⟨#[]⟩, .bool false]), (kb8, [.int .u64 0, .string ⟨#[]⟩, .bool false])]) hL0 hx0 n11 m11 (by intro p hp; simp only [List.mem_cons, List.not_mem_nil, or_false] at hp; rcases hp with rfl | rfl | rfl; exact ptr_ne e10 e11 (hne 10 11 (by omega) (by omega) (by omega) rfl rfl); exact ptr_ne e9 e11 (hne 9 11 (by omega) (by omega) (by omega) rfl rfl); exact ptr_ne e8 e11 (hne 8 11 (by omega) (by omega) (by omega) rfl rfl))
  simp only [List.cons_append, List.nil_append] at hL0
  replace hS := hS.cons (rz_rn q5)
  replace hS := hS.cons (rz_rn q7)
  clear e0 e1 e2 e3 e4 e5 e6 e7 e8 e9 e10 e11 hb1 hv hne hx0 n8 m8 n9 m9 n10 m10 n11 m11 q5 q7 fv
  have hS1 := hS.put ((((Upd.refl kb8 x3).setCell 0 (.int .u64 ((zl a : Nat) : Int))).setCell 1 (.string (zh a))).setCell 2 (.bool (zs a))) (hL0.get _ _ (List.mem_cons_of_mem _ (List.mem_cons_of_mem _ (List.mem_cons_of_mem _ List.mem_cons_self)))) (by intro v hv n; simp only [List.mem_cons, List.not_mem_nil, or_false] at hv; rcases hv with rfl | rfl | rfl <;> simp)
  have hA := hL0.fc
  simp only [fcG, cellsF, neK, and_true, ne_eq, Nat.zero_add, Nat.reduceAdd] at hA
  have hP := hL0.put 3 (kb8) _ rfl [.int .u64 ((zl a : Nat) : Int), .string (zh a), .bool (zs a)] rfl
  simp only [setAll, List.set_cons_zero, List.set_cons_succ] at hP
  generalize hput1 : (((x3.setCell ⟨kb8, 0, none⟩ (.int .u64 ((zl a : Nat) : Int))).setCell ⟨kb8, 1, none⟩ (.string (zh a))).setCell ⟨kb8, 2, none⟩ (.bool (zs a))) = x4 at hP hS1
  have hB1 := hP.fc
  simp only [fcG, cellsF, neK, and_true, ne_eq, Nat.zero_add, Nat.reduceAdd] at hB1
  replace hL0 := hP
  replace hS := hS1
  clear hS1
  have hS1 := hS.put ((((Upd.refl kb9 x4).setCell 0 (.int .u64 ((zl b : Nat) : Int))).setCell 1 (.string (zh b))).setCell 2 (.bool (zs b))) (hL0.get _ _ (List.mem_cons_of_mem _ (List.mem_cons_of_mem _ List.mem_cons_self))) (by intro v hv n; simp only [List.mem_cons, List.not_mem_nil, or_false] at hv; rcases hv with rfl | rfl | rfl <;> simp)
  have hP := hL0.put 2 (kb9) _ rfl [.int .u64 ((zl b : Nat) : Int), .string (zh b), .bool (zs b)] rfl
  simp only [setAll, List.set_cons_zero, List.set_cons_succ] at hP
  generalize hput2 : (((x4.setCell ⟨kb9, 0, none⟩ (.int .u64 ((zl b : Nat) : Int))).setCell ⟨kb9, 1, none⟩ (.string (zh b))).setCell ⟨kb9, 2, none⟩ (.bool (zs b))) = x5 at hP hS1
  have hB2 := hP.fc
  simp only [fcG, cellsF, neK, and_true, ne_eq, Nat.zero_add, Nat.reduceAdd] at hB2
  replace hL0 := hP
  replace hS := hS1
  clear hS1
  have hS1 := hS.put (((Upd.refl kb10 x5).setCell 0 (.bool (zs a))).setCell 1 (.slice g1 (tln a.natAbs) d1)) (hL0.get _ _ (List.mem_cons_of_mem _ List.mem_cons_self)) (by intro v hv n; simp only [List.mem_cons, List.not_mem_nil, or_false] at hv; rcases hv with rfl | rfl <;> simp)
  have hP := hL0.put 1 (kb10) _ rfl [.bool (zs a), .slice g1 (tln a.natAbs) d1] rfl
  simp only [setAll, List.set_cons_zero, List.set_cons_succ] at hP
  generalize hput3 : ((x5.setCell ⟨kb10, 0, none⟩ (.bool (zs a))).setCell ⟨kb10, 1, none⟩ (.slice g1 (tln a.natAbs) d1)) = x6 at hP hS1
  have hB3 := hP.fc
  simp only [fcG, cellsF, neK, and_true, ne_eq, Nat.zero_add, Nat.reduceAdd] at hB3
  replace hL0 := hP
  replace hS := hS1
  clear hS1
  have hS1 := hS.put (((Upd.refl kb11 x6).setCell 0 (.bool (zs b))).setCell 1 (.slice g2 (tln b.natAbs) d2)) (hL0.get _ _ List.mem_cons_self) (by intro v hv n; simp only [List.mem_cons, List.not_mem_nil, or_false] at hv; rcases hv with rfl | rfl <;> simp)
  have hP := hL0.put 0 (kb11) _ rfl [.bool (zs b), .slice g2 (tln b.natAbs) d2] rfl
  simp only [setAll, List.set_cons_zero, List.set_cons_succ] at hP
  generalize hput4 : ((x6.setCell ⟨kb11, 0, none⟩ (.bool (zs b))).setCell ⟨kb11, 1, none⟩ (.slice g2 (tln b.natAbs) d2)) = x7 at hP hS1
  have hB4 := hP.fc
  simp only [fcG, cellsF, neK, and_true, ne_eq, Nat.zero_add, Nat.reduceAdd] at hB4
  replace hL0 := hP
  replace hS := hS1
  clear hS1
  go_wp2_with fail
  clear hA
  with_reducible refine Calls.mono (HG.out _) ?_
  rintro e x8 ⟨rfl, hb⟩
  replace hL0 := hL0.call hb
  replace hS := hS.call hb
  clear hb hput1 hB1 hput2 hB2 hput3 hB3 hput4 hB4
  replace hS := (((hS.new (.cells #[.int .u64 ((zl g : Nat) : Int), .string (zh g), .bool (zs g)] 39)).new (.cells #[.int .u64 ((zl u : Nat) : Int), .string (zh u), .bool (zs u)] 39)).new (.cells #[.int .u64 ((zl v : Nat) : Int), .string (zh v), .bool (zs v)] 39))
  replace hL0 := (((hL0.new rfl [.int .u64 ((zl g : Nat) : Int), .string (zh g), .bool (zs g)] 39).new (K := x8.heap.size + 1) (szA _ _) [.int .u64 ((zl u : Nat) : Int), .string (zh u), .bool (zs u)] 39).new (K := x8.heap.size + 1 + 1) (by simp only [World.size_alloc]) [.int .u64 ((zl v : Nat) : Int), .string (zh v), .bool (zs v)] 39)
  generalize hweq : (((x8.alloc (.cells #[.int .u64 ((zl g : Nat) : Int), .string (zh g), .bool (zs g)] 39)).alloc (.cells #[.int .u64 ((zl u : Nat) : Int), .string (zh u), .bool (zs u)] 39)).alloc (.cells #[.int .u64 ((zl v : Nat) : Int), .string (zh v), .bool (zs v)] 39)) = x9 at hL0 hS
  have hN0 := cells_of _ 0 [] rfl (hL0.get _ _ (List.mem_cons_of_mem _ (List.mem_cons_of_mem _ (List.mem_cons_of_mem _ List.mem_cons_self))))
  simp only [cellsF, and_true, Nat.zero_add, Nat.reduceAdd] at hN0
  have hN1 := cells_of _ 0 [] rfl (hL0.get _ _ (List.mem_cons_of_mem _ (List.mem_cons_of_mem _ (List.mem_cons_of_mem _ (List.mem_cons_of_mem _ List.mem_cons_self)))))
  simp only [cellsF, and_true, Nat.zero_add, Nat.reduceAdd] at hN1
  go_wp2_with fail
  clear hN0 hN1
  with_reducible refine Calls.mono (HG2.out (.agg #[.bool (zs a), .slice g1 (tln a.natAbs) d1]) (.agg #[.bool (zs b), .slice g2 (tln b.natAbs) d2]) _ (rz_of (hS.get (List.mem_cons_of_mem _ List.mem_cons_self))) (rz_of (hS.get List.mem_cons_self))) ?_
  rintro e x10 ⟨v0, v1, v2, rfl, q0, q1, q2, hb⟩
  replace hL0 := hL0.call hb
  replace hS := hS.call hb
  clear hb hweq
  obtain ⟨g3, d3, rfl⟩ := rz_form q0
  replace hS := hS.cons (rz_rn q0)
  clear q0
  obtain ⟨g4, d4, rfl⟩ := rz_form q1
  replace hS := hS.cons (rz_rn q1)
  clear q1
  obtain ⟨g5, d5, rfl⟩ := rz_form q2
  replace hS := hS.cons (rz_rn q2)
  clear q2
  replace hS := (((hS.new (.cells #[.bool (zs g), .slice g3 (tln g.natAbs) d3] 44)).new (.cells #[.bool (zs u), .slice g4 (tln u.natAbs) d4] 44)).new (.cells #[.bool (zs v), .slice g5 (tln v.natAbs) d5] 44))
  replace hL0 := (((hL0.new rfl [.bool (zs g), .slice g3 (tln g.natAbs) d3] 44).new (K := x10.heap.size + 1) (szA _ _) [.bool (zs u), .slice g4 (tln u.natAbs) d4] 44).new (K := x10.heap.size + 1 + 1) (by simp only [World.size_alloc]) [.bool (zs v), .slice g5 (tln v.natAbs) d5] 44)
  generalize hweq : (((x10.alloc (.cells #[.bool (zs g), .slice g3 (tln g.natAbs) d3] 44)).alloc (.cells #[.bool (zs u), .slice g4 (tln u.natAbs) d4] 44)).alloc (.cells #[.bool (zs v), .slice g5 (tln v.natAbs) d5] 44)) = x11 at hL0 hS
  have hN0 := cells_of _ 0 [] rfl (hL0.get _ _ (List.mem_cons_of_mem _ (List.mem_cons_of_mem _ List.mem_cons_self)))
  simp only [cellsF, and_true, Nat.zero_add, Nat.reduceAdd] at hN0
  have hN1 := cells_of _ 0 [] rfl (hL0.get _ _ (List.mem_cons_of_mem _ (List.mem_cons_of_mem _ (List.mem_cons_of_mem _ (List.mem_cons_of_mem _ (List.mem_cons_of_mem _ List.mem_cons_self))))))
  simp only [cellsF, and_true, Nat.zero_add, Nat.reduceAdd] at hN1
  go_wp2_with fail
  clear hN0 hN1
  with_reducible refine Calls.mono (H0.out (.agg #[.bool (zs g), .slice g3 (tln g.natAbs) d3]) _ (hKT.out.at (hL0.bl) kKT) (rz_of (hS.get (List.mem_cons_of_mem _ (List.mem_cons_of_mem _ List.mem_cons_self))))) ?_
  rintro e x12 ⟨rfl, hb⟩
  replace hL0 := hL0.call hb
  replace hS := hS.call hb
  clear hb hweq
  have hN0 := cells_of _ 0 [] rfl (hL0.get _ _ (List.mem_cons_of_mem _ List.mem_cons_self))
  simp only [cellsF, and_true, Nat.zero_add, Nat.reduceAdd] at hN0
  have hN1 := cells_of _ 0 [] rfl (hL0.get _ _ (List.mem_cons_of_mem _ (List.mem_cons_of_mem _ (List.mem_cons_of_mem _ (List.mem_cons_of_mem _ List.mem_cons_self)))))
  simp only [cellsF, and_true, Nat.zero_add, Nat.reduceAdd] at hN1
  go_wp2_with fail
  clear hN0 hN1
  with_reducible refine Calls.mono (H1.out (.agg #[.bool (zs u), .slice g4 (tln u.natAbs) d4]) _ (hKT.out.at (hL0.bl) kKT) (rz_of (hS.get (List.mem_cons_of_mem _ List.mem_cons_self)))) ?_
  rintro e x13 ⟨rfl, hb⟩
  replace hL0 := hL0.call hb
  replace hS := hS.call hb
  clear hb
  have hN0 := cells_of _ 0 [] rfl (hL0.get _ _ List.mem_cons_self)
  simp only [cellsF, and_true, Nat.zero_add, Nat.reduceAdd] at hN0
  have hN1 := cells_of _ 0 [] rfl (hL0.get _ _ (List.mem_cons_of_mem _ (List.mem_cons_of_mem _ (List.mem_cons_of_mem _ List.mem_cons_self))))
  simp only [cellsF, and_true, Nat.zero_add, Nat.reduceAdd] at hN1
  go_wp2_with fail
  clear hN0 hN1
  with_reducible refine Calls.mono (H2.out (.agg #[.bool (zs v), .slice g5 (tln v.natAbs) d5]) _ (hKT.out.at (hL0.bl) kKT) (rz_of (hS.get List.mem_cons_self))) ?_
  rintro e x14 ⟨rfl, hb⟩
  replace hL0 := hL0.call hb
  replace hS := hS.call hb
  clear hb
  have hN0 := cells_of _ 0 [] rfl (hL0.get _ _ (List.mem_cons_of_mem _ (List.mem_cons_of_mem _ (List.mem_cons_of_mem _ (List.mem_cons_of_mem _ (List.mem_cons_of_mem _ (List.mem_cons_of_mem _ (List.mem_cons_of_mem _ (List.mem_cons_of_mem _ List.mem_cons_self)))))))))
  simp only [cellsF, and_true, Nat.zero_add, Nat.reduceAdd] at hN0
  have hN1 := cells_of _ 0 [] rfl (hL0.get _ _ (List.mem_cons_of_mem _ (List.mem_cons_of_mem _ (List.mem_cons_of_mem _ (List.mem_cons_of_mem _ (List.mem_cons_of_mem _ (List.mem_cons_of_mem _ (List.mem_cons_of_mem _ (List.mem_cons_of_mem _ (List.mem_cons_of_mem _ List.mem_cons_self))))))))))
  simp only [cellsF, and_true, Nat.zero_add, Nat.reduceAdd] at hN1
  go_wp2_with fail
  clear hN0 hN1
  with_reducible refine Calls.mono (HD.out _) ?_
  rintro e x15 ⟨rfl, hb⟩
  replace hL0 := hL0.call hb
  replace hS := hS.call hb
  clear hb
  replace hS := ((hS.new (.cells #[.int .u64 ((zl q : Nat) : Int), .string (zh q), .bool (zs q)] 39)).new (.cells #[.int .u64 ((zl r : Nat) : Int), .string (zh r), .bool (zs r)] 39))
  replace hL0 := ((hL0.new rfl [.int .u64 ((zl q : Nat) : Int), .string (zh q), .bool (zs q)] 39).new (K := x15.heap.size + 1) (szA _ _) [.int .u64 ((zl r : Nat) : Int), .string (zh r), .bool (zs r)] 39)
  generalize hweq : ((x15.alloc (.cells #[.int .u64 ((zl q : Nat) : Int), .string (zh q), .bool (zs q)] 39)).alloc (.cells #[.int .u64 ((zl r : Nat) : Int), .string (zh r), .bool (zs r)] 39)) = x16 at hL0 hS
  have hN0 := cells_of _ 0 [] rfl (hL0.get _ _ (List.mem_cons_of_mem _ (List.mem_cons_of_mem _ (List.mem_cons_of_mem _ (List.mem_cons_of_mem _ (List.mem_cons_of_mem _ (List.mem_cons_of_mem _ (List.mem_cons_of_mem _ (List.mem_cons_of_mem _ List.mem_cons_self)))))))))
  simp only [cellsF, and_true, Nat.zero_add, Nat.reduceAdd] at hN0
  go_wp2_with fail
  clear hN0
  with_reducible refine Calls.mono (HS.out (.agg #[.bool (zs b), .slice g2 (tln b.natAbs) d2]) _ (rz_of (hS.get (List.mem_cons_of_mem _ (List.mem_cons_of_mem _ (List.mem_cons_of_mem _ List.mem_cons_self)))))) ?_
  rintro e x17 ⟨rfl, hb⟩
  replace hL0 := hL0.call hb
  replace hS := hS.call hb
  clear hb hweq
  have hN0 := cells_of _ 0 [] rfl (hL0.get _ _ (List.mem_cons_of_mem _ (List.mem_cons_of_mem _ (List.mem_cons_of_mem _ (List.mem_cons_of_mem _ (List.mem_cons_of_mem _ (List.mem_cons_of_mem _ (List.mem_cons_of_mem _ (List.mem_cons_of_mem _ List.mem_cons_self)))))))))
  simp only [cellsF, and_true, Nat.zero_add, Nat.reduceAdd] at hN0
  have hN1 := cells_of _ 0 [] rfl (hL0.get _ _ (List.mem_cons_of_mem _ (List.mem_cons_of_mem _ (List.mem_cons_of_mem _ (List.mem_cons_of_mem _ (List.mem_cons_of_mem _ (List.mem_cons_of_mem _ (List.mem_cons_of_mem _ (List.mem_cons_of_mem _ (List.mem_cons_of_mem _ List.mem_cons_self))))))))))
  simp only [cellsF, and_true, Nat.zero_add, Nat.reduceAdd] at hN1
  go_wp2_with fail
  clear hN0 hN1
  with_reducible refine Calls.mono (HD2.out (.agg #[.bool (zs a), .slice g1 (tln a.natAbs) d1]) (.agg #[.bool (zs b), .slice g2 (tln b.natAbs) d2]) _ (rz_of (hS.get (List.mem_cons_of_mem _ (List.mem_cons_of_mem _ (List.mem_cons_of_mem _ (List.mem_cons_of_mem _ List.mem_cons_self)))))) (rz_of (hS.get (List.mem_cons_of_mem _ (List.mem_cons_of_mem _ (List.mem_cons_of_mem _ List.mem_cons_self)))))) ?_
  rintro e x18 ⟨v0, v1, rfl, q0, q1, hb⟩
  replace hL0 := hL0.call hb
  replace hS := hS.call hb
  clear hb
  obtain ⟨g6, d6, rfl⟩ := rz_form q0
  replace hS := hS.cons (rz_rn q0)
  clear q0
  obtain ⟨g7, d7, rfl⟩ := rz_form q1
  replace hS := hS.cons (rz_rn q1)
  clear q1
  replace hS := ((hS.new (.cells #[.bool (zs q), .slice g6 (tln q.natAbs) d6] 44)).new (.cells #[.bool (zs r), .slice g7 (tln r.natAbs) d7] 44))
  replace hL0 := ((hL0.new rfl [.bool (zs q), .slice g6 (tln q.natAbs) d6] 44).new (K := x18.heap.size + 1) (szA _ _) [.bool (zs r), .slice g7 (tln r.natAbs) d7] 44)
  generalize hweq : ((x18.alloc (.cells #[.bool (zs q), .slice g6 (tln q.natAbs) d6] 44)).alloc (.cells #[.bool (zs r), .slice g7 (tln r.natAbs) d7] 44)) = x19 at hL0 hS
  have hN0 := cells_of _ 0 [] rfl (hL0.get _ _ (List.mem_cons_of_mem _ List.mem_cons_self))
  simp only [cellsF, and_true, Nat.zero_add, Nat.reduceAdd] at hN0
  have hN1 := cells_of _ 0 [] rfl (hL0.get _ _ (List.mem_cons_of_mem _ (List.mem_cons_of_mem _ (List.mem_cons_of_mem _ List.mem_cons_self))))
  simp only [cellsF, and_true, Nat.zero_add, Nat.reduceAdd] at hN1
  go_wp2_with fail
  clear hN0 hN1
  with_reducible refine Calls.mono (H3.out (.agg #[.bool (zs q), .slice g6 (tln q.natAbs) d6]) _ (hKT.out.at (hL0.bl) kKT) (rz_of (hS.get (List.mem_cons_of_mem _ List.mem_cons_self)))) ?_
  rintro e x20 ⟨rfl, hb⟩
  replace hL0 := hL0.call hb
  replace hS := hS.call hb
  clear hb hweq
  have hN0 := cells_of _ 0 [] rfl (hL0.get _ _ List.mem_cons_self)
  simp only [cellsF, and_true, Nat.zero_add, Nat.reduceAdd] at hN0
  have hN1 := cells_of _ 0 [] rfl (hL0.get _ _ (List.mem_cons_of_mem _ (List.mem_cons_of_mem _ List.mem_cons_self)))
  simp only [cellsF, and_true, Nat.zero_add, Nat.reduceAdd] at hN1
  go_wp2_with fail
  clear hN0 hN1
  with_reducible refine Calls.mono (H4.out (.agg #[.bool (zs r), .slice g7 (tln r.natAbs) d7]) _ (hKT.out.at (hL0.bl) kKT) (rz_of (hS.get List.mem_cons_self))) ?_
  rintro e x21 ⟨rfl, hb⟩
  replace hL0 := hL0.call hb
  replace hS := hS.call hb
  clear hb
  go_wp2_with fail
  with_reducible refine Calls.mono (HW.out _ (hKT.out.at (hL0.bl) kKT)) ?_
  rintro e x22 ⟨rfl, hb⟩
  replace hL0 := hL0.call hb
  replace hS := hS.call hb
  clear hb
  go_wp2_with fail
  exact bodyPost_ret (v := .bool true) (by simp [results, Tryz.results5, go_sem]) rfl ⟨rfl, hL0.bl⟩
end Go.Proofs.YtdmoadfnogdfnaaGreatDoor
namespace Go.Proofs.YtdmoadfnogdfnaaGreatDoor
open Go.RowKit Go.Proofs.YtdmoadfnogdfnaaGreatDoor.Rx
attribute [local irreducible] lo hs sm s64 c64 d64 b64 mh ml pd pc qd qc val hiB str cmpI srD lz nb isq decB zl zh dval txt
theorem idivs_any (sx sy : Bool) (ax ay : Option Addr) (nx cx ny cy : Nat) (lx ly : List Nat) (w : World) (htab : Tab w) (hwx : Ws w (.slice ax nx cx) lx) (hwy : Ws w (.slice ay ny cy) ly) :
  Calls Tryz.prog 5 #[.agg #[.bool sx, .slice ax nx cx], .agg #[.bool sy, .slice ay ny cy]] w fun e w' => e = .returned (.bool true) ∧ Below w.heap.size w w' := by
 have e1 := hwx.len
 have e2 := hwy.len
 by_cases h : nx ≤ 10 ∧ ny ≤ 10
 ·obtain ⟨h1, h2⟩ := h
  have d1 : dI (zmade sx lx) ≤ 10 := Nat.le_trans (zmade_dI hwx.lt) (by omega)
  have d2 : dI (zmade sy ly) ≤ 10 := Nat.le_trans (zmade_dI hwy.lt) (by omega)
  have GX := fun w h => zof_any sx ax nx cx lx (by omega) w h
  have GY := fun w h => zof_any sy ay ny cy ly (by omega) w h
  have RX := fun w h => zref_any sx ax nx cx lx (by omega) w h
  have RY := fun w h => zref_any sy ay ny cy ly (by omega) w h
  generalize zmade sx lx = a at *
  generalize zmade sy ly = b at *
  have t1 := dI_td d1
  have t2 := dI_td d2
  have hf : decide (nx ≤ 10 ∧ ny ≤ 10) = true := decide_eq_true ⟨h1, h2⟩
  obtain ⟨g1, g2, g3⟩ := xgcd_dI d1 d2
  have HG := fun w => gcdI a b (by omega) (by omega) w
  have HG2 := rzgcd_any (k := 10) (by omega) b.natAbs a b (Nat.le_refl _) d1 d2
  have H0 := zsame _ (k := 30) (Nat.le_trans g1 (by omega)) (by omega)
  have H1 := zsame _ (k := 30) (Nat.le_trans g2 (by omega)) (by omega)
  have H2 := zsame _ (k := 30) (Nat.le_trans g3 (by omega)) (by omega)
  by_cases h0 : b = 0
  ·subst h0
   have HS := rzsignI 0
   rw [sgn_zero] at HS
   exact idivs_zero sx sy ax ay nx cx ny cy a 0 _ _ _ 0 0 _ (Keeps.ws _ lx) GX _ (Keeps.ws _ ly) GY RX RY HG HG2 Tab Keeps.tab H0 H1 H2 (div0I a) HS (is_eq 0 (by decide) (by decide)) (is_eq 0 (by decide) (by decide)) (fun w ht => zworks_any w ht) hf w hwx hwy htab
  ·have q1 : dI (a / b) ≤ 10 := Nat.le_trans (dI_mono (Int.natAbs_ediv_le_natAbs _ _)) d1
   have m0 := Int.emod_nonneg a h0
   have m1 := Int.emod_lt a h0
   have q2 : dI (a % b) ≤ 10 := Nat.le_trans (dI_mono (by omega)) d2
   exact idivs_pos sx sy ax ay nx cx ny cy a b _ _ _ (a / b) (a % b) _ _ (Keeps.ws _ lx) GX _ (Keeps.ws _ ly) GY RX RY HG HG2 Tab Keeps.tab H0 H1 H2 (divI a b h0 (by omega) (by omega)) (rzsignI b) (rzdivI a b h0 (by omega) (by omega)) (zsame _ q1 (by omega)) (zsame _ q2 (by omega)) (fun w ht => zworks_any w ht) hf
    (beq_eq_false_iff_ne.2 (by unfold sgn; split <;> (try split) <;> omega)) w hwx hwy htab
 ·exact idivs_big sx sy ax ay nx cx ny cy Tab Keeps.tab (fun w ht => zworks_any w ht) (decide_eq_false h) w htab
end Go.Proofs.YtdmoadfnogdfnaaGreatDoor
namespace Go.Proofs.YtdmoadfnogdfnaaGreatDoor
open Go.RowKit
attribute [local irreducible] lo hs sm s64 c64 d64 b64 mh ml pd pc qd qc val hiB str cmpI srD lz nb isq decB dval
def uv (d : Nat) : Value := .int .u32 (d : Int)
def iv64 (d : Int) : Value := .int .i64 d
theorem ws_box {w : World} {k : Nat} (l : List Nat) (n : Nat) (c : List Value) (h : Hd w k c) (hc : c = l.map uv) (hn : l.length = n) (hl : ∀ x ∈ l, x < 4294967296) : Ws w (.slice (some ⟨k, 0, none⟩) n n) l := by
 subst hc hn
 refine .inr ⟨_, _, rfl, hl, fun i hi => ?_, h.lt⟩
 have e : (⟨k, 0, none⟩ : Addr).add i = ⟨k, i, none⟩ := by
  unfold Addr.add; by_cases h : i = 0
  ·subst h; simp
  ·simp [h]
 rw [e, h.cell i (by simpa using hi)]
 simp [uv]
theorem ws_nil (w : World) : Ws w (.slice none 0 0) [] := .inl ⟨_, _, rfl, rfl⟩
theorem ints_cell {w : World} {k : Nat} (l : List Int) (h : Hd w k (l.map iv64)) (i : Nat) (hi : i < l.length) (hb : ∀ x ∈ l, -9223372036854775808 ≤ x ∧ x ≤ 9223372036854775807) :
  ∃ m : Int, w.cell? ⟨k, i, none⟩ = some (.int .i64 m) ∧ -9223372036854775808 ≤ m ∧ m ≤ 9223372036854775807 := by
 refine ⟨l[i], ?_, hb _ (List.getElem_mem hi)⟩
 rw [h.cell i (by simpa using hi)]
 simp [iv64]
theorem join_size (s t : ByteArray) (m : Nat) (h : m ≤ t.size) : (s ++ t.extract m t.size).size = s.size + (t.size - m) := by
 rw [ByteArray.size_append, ByteArray.size_extract]; omega
def isStrK : Value → Bool
 | .string _ => true
 | _ => false
theorem strsK_ok (w : World) (arr : Array Value) (T : TypeId) (h : arr.all isStrK = true) (j : Nat) (hj : j < arr.size) : ∃ s, (w.alloc (.cells arr T)).cell? ⟨w.heap.size, j, none⟩ = some (.string s) := by
 rw [cell_of_row _ w.heap.size j _ _ _ (heap_alloc_new w _)]
 have h1 := (Array.all_eq_true.1 h) j hj
 have h2 : arr[j]? = some arr[j] := Array.getElem?_eq_getElem hj
 generalize arr[j] = v at *
 cases v <;> simp [isStrK] at h1
 exact ⟨_, h2⟩
end Go.Proofs.YtdmoadfnogdfnaaGreatDoor
