/-
  The law answers true at every input, and leaves its arguments as they were: a part of the proof. CONDITIONS: the package-level tables start as the program's text lays them (the card ties them).
-/
import Derived.Test.YtfmakoiiibacjaaDoorVda
import Derived.Laws.AppendOwnNone
set_option linter.unusedVariables false
set_option linter.unusedSimpArgs false
namespace Go.Proofs.YtfmakoiiibacjaaDoor.Rx
open Go.RowKit
attribute [local irreducible] tv dg cmpI nb isq
theorem add_add (a : Addr) (i j : Nat) : (a.add i).add j = a.add (i + j) := by
 unfold Addr.add
 by_cases h : i = 0
 ·subst h; simp
 ·by_cases h2 : j = 0
  ·subst h2; simp [h]
  ·simp [h, h2, Nat.add_assoc]
theorem small_len {k : Nat} (hk : k ≤ 9999) : (td k).length ≤ 1 := td_length.2 (by rw [Nat.pow_one]; omega)
theorem own_one (w : World) (x : Int) : (w.alloc (.cells #[.int .i64 x] 3)).ownsRow w.heap.size 3 1 (.slice (some ⟨w.heap.size, 0, none⟩) 1 1) 1 [.int .i64 x] :=
 ⟨rfl, .inr ⟨w.heap.size, 1, #[.int .i64 x], rfl, Nat.le_refl _, heap_alloc_new w _, Nat.le_refl _, by unfold maxLen; omega, rfl, rfl⟩⟩
theorem slice_from (w : World) (aA : Addr) (L ca i1 : Nat) (h : i1 ≤ L) (hc : L ≤ ca) :
  (Instr.slice 63 (.slice (some aA) L ca) (some (.int .i64 (i1 : Int))) none none).run Tryd.prog w = .ok (.slice (some (if ca = i1 then aA else aA.add i1)) (L - i1) (ca - i1)) w := by
 obtain ⟨i0, hi, hz0, hz1, hz2⟩ := info_parts Tryd.infoI
 have h1 : (0 : Int) ≤ (i1 : Int) := by omega
 have h2 : (i1 : Int) ≤ (L : Int) := by omega
 by_cases hh : ca = i1
 ·simp [Instr.slice, Instr.sliceBounds, run_underlying Tryd.underlying63, run_sliceBound, h1, h2, hh, go_sem] <;> rfl
 ·simp [Instr.slice, Instr.sliceBounds, run_underlying Tryd.underlying63, run_sliceBound, h1, h2, hh, go_sem] <;> rfl
theorem made2 (w : World) (o : Obj) : ((w.alloc o).alloc (.cells #[] 3)).ownsRow (w.heap.size + 1) 3 1 (.slice (some ⟨w.heap.size + 1, 0, none⟩) 0 0) 0 [] := by
 have h := World.ownsRow_made (base := w.heap.size + 1) (e := 3) (size := 1) (w.alloc o) #[] 0 (by rw [World.size_alloc]; exact Nat.le_refl _) (Nat.zero_le _) rfl
 rwa [World.size_alloc] at h
/-- trim leaves the block that its argument looks into. -/
theorem trim_blk (v : Value) (l : List Nat) (hd : ∀ d ∈ l, d < 10000) (hB : l.length < 9223372036854775807) (w : World) (h : Sl w v l) :
  Calls Tryd.prog 98 #[v] w fun e w' => ∃ v', e = .returned v' ∧ Sl w v' (td (tv l)) ∧ v'.ownBlock = v.ownBlock ∧ w = w' := by
 obtain ⟨z, hz⟩ := td_tv hd
 rcases h with ⟨ao, c, rfl, rfl, hc0⟩ | ⟨a, c, rfl, h2, h3⟩
 ·refine (trim_nil ao c w).mono ?_
  rintro e w' ⟨rfl, rfl⟩
  exact ⟨_, rfl, .inl ⟨ao, c, rfl, by rw [tv_nil, td_zero], hc0⟩, rfl, rfl⟩
 ·have hlen : l.length = (td (tv l)).length + z := by
   have := congrArg List.length hz
   rwa [List.length_append, List.length_replicate] at this
  rw [hz] at h3
  rw [hlen] at h2 hB ⊢
  refine (trim_row a c _ z (td (tv l)) rfl h2 hB (fun h => td_last h) w h3).mono ?_
  rintro e w' ⟨rfl, rfl⟩
  exact ⟨_, rfl, .inr ⟨a, c, rfl, by omega, h3.left⟩, rfl, rfl⟩
theorem Sl.set_off {w : World} {v : Value} {l : List Nat} {g k : Nat} {u : Value} (h : Sl w v l) (ho : v.ownBlock ≠ some g) : Sl (w.setCell ⟨g, k, none⟩ u) v l := by
 rcases h with h | ⟨a, c, rfl, h2, h3⟩
 ·exact .inl h
 ·have hne : a.block ≠ g := fun e => ho (by rw [← e]; rfl)
  refine .inr ⟨a, c, rfl, h2, fun i hi => ?_, ?_⟩
  ·rw [← h3.cell i hi]
   exact World.cell?_of_block (by rw [addB]; exact Below.heap_setCell _ _ _ _ hne)
  ·have := h3.blk
   simpa [World.setCell] using this
theorem wpList_append_sl {w : World} {ops : Array Oper} {rest : List Oper} {o : Oper} {a : Act} {Q : Exit → Act → World → Prop} (hgd : o.guard = none) (s x : Operand)
  (ho : o.op = .call { callee := .builtin .append, args := #[s, x], argTypes := #[63, 63] })
  (base : Nat) (v : Value) (n : Nat) (xs : List Value) (hs : a.eval s = v) (hown : w.ownsRow base 3 1 v n xs)
  (v2 : Value) (l : List Nat) (hx : a.eval x = v2) (hsl : Sl w v2 l) (hn : n + l.length ≤ 1000000) (hbase : base ≤ w.heap.size)
  (h : ∀ v' w', w'.ownsRow base 3 1 v' (n + l.length) (xs ++ l.map iv) → w.grownBy w' v.ownBlock → wpList Tryd.prog ops Q rest (a.put o.dst v') w') : wpList Tryd.prog ops Q (o :: rest) a w := by
 obtain ⟨i0, hi, hz0, hz1, hz2⟩ := info_parts Tryd.infoI
 rcases hsl.src with ⟨e, rfl⟩ | ⟨ad, c, e, hnews⟩
 ·rw [e] at hx
  refine wpList_append_own_none hgd s x _ ho base 3 i0 1 Tryd.underlying63 hi v n xs hs hown hx (h v w ?_ ⟨rfl, rfl, rfl, Nat.le_refl _, fun _ _ _ => rfl⟩)
  simpa using hown
 ·rw [e] at hx
  exact wpList_append_own w hgd s x _ ho base 3 i0 (.int .i64 0) 1 8 Tryd.underlying63 hi hz0 hz1 hz2 rfl (by decide) v n xs hs hown ad l.length c (l.map iv) hx (by rw [List.length_map, Nat.mul_one]) hnews
   (fun u hu => by obtain ⟨y, -, rfl⟩ := List.mem_map.1 hu; rfl) (by unfold maxLen; omega) (by omega) hbase fun v' w' h1 h2 _ => h v' w' h1 h2
set_option maxHeartbeats 4000000 in
set_option maxRecDepth 100000 in
theorem rdiv_small (va vb : Value) (a b : Nat) (hab : a < b) (la : (td a).length ≤ 1000) (lb : (td b).length ≤ 1000) (w : World) (ha : Rn w va a) (hb : Rn w vb b) :
  Calls Tryd.prog 83 #[va, vb] w fun e w' => e = .returned (.tuple #[.slice none 0 0, va]) ∧ Below w.heap.size w w' := by
 have C := rcmp_any va vb a b (by omega) (by omega) w ha hb
 rw [cmpI_lt hab] at C
 replace C := Lib.hid C
 clear ha hb hab
 go_enter Tryd.func83, Tryd.ntmps83
 go_wp2_with fail
 with_reducible refine Calls.mono C.out ?_
 rintro e w1 ⟨rfl, hb1⟩
 go_wp2_with fail
 exact bodyPost_ret (v := .tuple #[.slice none 0 0, va]) (by simp [results, Tryd.results83, go_sem]) rfl ⟨rfl, hb1⟩
set_option maxHeartbeats 8000000 in
set_option maxRecDepth 100000 in
theorem rdiv_big (va vb : Value) (a b : Nat) (hab : b ≤ a) (hb0 : 0 < b) (la : (td a).length ≤ 1000) (w : World) (ha : Rn w va a) (hb : Rn w vb b) :
  Calls Tryd.prog 83 #[va, vb] w fun e w' => ∃ v1 v2, e = .returned (.tuple #[v1, v2]) ∧ Rn w' v1 (a / b) ∧ Rn w' v2 (a % b) ∧ Below w.heap.size w w' := by
 obtain ⟨i0, hi, hz0, hz1, hz2⟩ := info_parts Tryd.infoI
 obtain ⟨ao, ca, ea, hva⟩ := ha.view
 obtain ⟨bo, cb, eb⟩ := hb.form
 subst ea eb
 have lb := Nat.le_trans (td_mono hab) la
 have hML := td_mono hab
 obtain ⟨i1, hi1, hst⟩ := DivS.start hab hb0
 have hM0 : 0 < (td b).length := by
  rcases Nat.eq_zero_or_pos (td b).length with h | h
  ·have := td_nil.1 (List.eq_nil_of_length_eq_zero h); omega
  ·exact h
 have hAlt := td_lt a
 obtain ⟨F, hF⟩ : ∃ F, F = (td b).length - 3 := ⟨_, rfl⟩
 have hdrop := td_drop b F
 have ht0 : 0 < b / 10000 ^ F := by
  refine Nat.pos_of_ne_zero fun h => ?_
  rw [h, td_zero] at hdrop
  have := congrArg List.length hdrop
  rw [List.length_drop, List.length_nil] at this
  omega
 have Le := Lib.hid (fun (wx : World) (hh : Rn wx (.slice bo (td b).length cb) b) => rleading_any (.slice bo (td b).length cb) (td b) F (td_lt b) (by omega) (by omega) wx hh)
 rw [hdrop, tv_td] at Le
 have htb : b / 10000 ^ F < 1000000000000 := by
  have h1 : (td (b / 10000 ^ F)).length ≤ 3 := by rw [← hdrop, List.length_drop]; omega
  exact Nat.lt_of_lt_of_le (td_length.1 h1) (by decide)
 have C := Lib.hid (fun (wx : World) (h1 : Rn wx (.slice ao (td a).length ca) a) (h2 : Rn wx (.slice bo (td b).length cb) b) => rcmp_any _ _ a b (by omega) (by omega) wx h1 h2)
 have hcw : decide (cmpI a b < 0) = false := decide_eq_false (by unfold cmpI; split <;> (try split) <;> omega)
 generalize cmpI a b = z at *
 obtain ⟨t, ht⟩ : ∃ t, t = b / 10000 ^ F := ⟨_, rfl⟩
 rw [← ht] at Le ht0 htb
 -- the search for a digit
 have low := fun y => lead_low (y := y) ht
 have high := fun y => lead_high (y := y) ht ht0
 have lead := Lib.hid (fun (v : Value) (y : Nat) (hy : y < 10000 * b) (wx : World) (hv : Rn wx v y) => rleading_any v (td y) F (td_lt y) (by omega) (by
  have h1 : (td y).length ≤ (td b).length + 1 := td_length.2 (by
   have := td_length.1 (Nat.le_refl (td b).length)
   rw [Nat.pow_succ]; omega)
  omega) wx hv)
 have fb : ∀ y, y < 10000 * b → y / 10000 ^ F < 20000000000000000 := fun y hy => by
  have hp : 0 < 10000 ^ F := Nat.pow_pos (by omega)
  have h1 : b < 10000 ^ F * (t + 1) := by
   have := Nat.lt_mul_div_succ b hp
   rwa [← ht] at this
  refine (Nat.div_lt_iff_lt_mul hp).2 ?_
  have h2 : 10000 * b < 10000 * (10000 ^ F * (t + 1)) := Nat.mul_lt_mul_of_pos_left h1 (by omega)
  have h3 : 10000 ^ F * (t + 1) ≤ 10000 ^ F * 1000000000000 := Nat.mul_le_mul_left _ (by omega)
  generalize 10000 ^ F * (t + 1) = p at *
  generalize 10000 ^ F = q at *
  omega
 have MB := Lib.hid (fun (k : Nat) (hk : k ≤ 9999) (vx : Value) (wx : World) (h1 : Rn wx (.slice bo (td b).length cb) b) (h2 : Rn wx vx k) => rmul_any (.slice bo (td b).length cb) vx b k (by omega) (Nat.le_trans (small_len hk) (by omega)) wx h1 h2)
 have hbk : ∀ k, k ≤ 9999 → (td (b * k)).length ≤ 1001 := fun k hk => Nat.le_trans (td_mul_le lb (small_len hk)) (by omega)
 have hyl : ∀ y, y < 10000 * b → (td y).length ≤ 1001 := fun y hy => by
  have h1 : (td y).length ≤ (td b).length + 1 := td_length.2 (by
   have := td_length.1 (Nat.le_refl (td b).length)
   rw [Nat.pow_succ]; omega)
  omega
 have CM := Lib.hid (fun (k : Nat) (hk : k ≤ 9999) (y : Nat) (hy : y < 10000 * b) (vx vy : Value) (wx : World) (h1 : Rn wx vx (b * k)) (h2 : Rn wx vy y) => rcmp_any vx vy (b * k) y (Nat.le_trans (hbk k hk) (by omega)) (Nat.le_trans (hyl y hy) (by omega)) wx h1 h2)
 have SB := Lib.hid (fun (k y : Nat) (hy : y < 10000 * b) (hle : b * k ≤ y) (vx vy : Value) (wx : World) (h1 : Rn wx vy y) (h2 : Rn wx vx (b * k)) => rsub_any vy vx y (b * k) (Nat.le_trans (hyl y hy) (by omega)) hle wx h1 h2)
 have hTR : ∀ (x y r : Nat) (hy : y = x + 10000 * r) (hx : x < 10000) (hyb : y < 10000 * b) (v : Value) (wx : World), Sl wx v (x :: td r) → Calls Tryd.prog 98 #[v] wx fun e w' => ∃ v', e = .returned v' ∧ Rn w' v' y ∧ v'.ownBlock = v.ownBlock ∧ wx = w' := fun x y r hy hx hyb v wx hv => by
  have h1 : tv (x :: td r) = y := by rw [tv_cons, tv_td, hy]
  have h2 : (td r).length ≤ 1001 := Nat.le_trans (td_mono (show r ≤ y by omega)) (hyl y hyb)
  have := trim_blk v (x :: td r) (fun d hd => by
   rcases List.mem_cons.1 hd with rfl | hd
   ·exact hx
   ·exact td_lt r d hd) (by rw [List.length_cons]; omega) wx hv
  rw [h1] at this
  refine Calls.mono this ?_
  rintro e w' ⟨v', rfl, h, h', rfl⟩
  exact ⟨v', rfl, h, h', rfl⟩
 replace hTR := Lib.hid hTR
 clear hbk hyl hdrop ht
 obtain ⟨L, hL⟩ : ∃ L, L = (td a).length := ⟨_, rfl⟩
 obtain ⟨M, hM⟩ : ∃ M, M = (td b).length := ⟨_, rfl⟩
 rw [← hL] at la ha hva C hi1 hML ⊢
 rw [← hM] at lb hb C Le MB hi1 hM0 hF hML ⊢
 obtain ⟨aA, rfl, hca, hsd⟩ := hva (by omega)
 have hsd := Lib.hid hsd
 obtain ⟨ad, had⟩ : ∃ ad, ad = (if ca = i1 then aA else aA.add i1) := ⟨_, rfl⟩
 obtain ⟨r0, hr0⟩ : ∃ r0, r0 = a / 10000 ^ i1 := ⟨_, rfl⟩
 have htr : (td a).drop i1 = td r0 := by rw [hr0, td_drop]
 have hmk : ∀ w, (Instr.makeSlice 63 (.int .i64 (i1 : Int)) (.int .i64 (i1 : Int))).run Tryd.prog w = .ok (.slice (some ⟨w.heap.size, 0, none⟩) i1 i1) (w.alloc (zobjI i1)) :=
  fun w => makeN w _ i1 rfl (by omega)
 have hsf : ∀ w, (Instr.slice 63 (.slice (some aA) L ca) (some (.int .i64 (i1 : Int))) none none).run Tryd.prog w = .ok (.slice (some ad) (L - i1) (ca - i1)) w :=
  fun w => by rw [had]; exact slice_from w aA L ca i1 (by omega) hca
 have hsr : ∀ wx, Below w.heap.size w wx → Sl wx (.slice (some ad) (L - i1) (ca - i1)) (td r0) := by
  intro wx hbx
  have hlr : (td r0).length = L - i1 := by rw [← htr, List.length_drop, ← hL]
  by_cases hz : L = i1
  ·exact .inl ⟨some ad, ca - i1, by rw [hz, Nat.sub_self], List.eq_nil_of_length_eq_zero (by rw [hlr, hz, Nat.sub_self]), fun h => by simp at h⟩
  ·have hne : ca ≠ i1 := by omega
   rw [if_neg hne] at had
   refine .inr ⟨ad, ca - i1, by rw [hlr], by omega, fun j hj => ?_, ?_⟩
   ·have hjl : i1 + j < (td a).length := by omega
    have := (hsd.out.below hbx).cell (i1 + j) hjl
    rw [had, add_add, this]
    congr 3
    simp only [← htr, List.getElem_drop]
   ·rw [had, addB]; exact (hsd.out.below hbx).blk
 have hLM : (L : Int) - (M : Int) + 1 = (i1 : Int) := by omega
 obtain ⟨m1, hm1⟩ : ∃ m1, m1 = L - i1 := ⟨_, rfl⟩
 have hLi : L - i1 = m1 := hm1.symm
 have hm1b : m1 ≤ 1000 := by omega
 have hiL : (i1 : Int) ≤ (L : Int) := by omega
 have hi0 : (1 : Int) ≤ (i1 : Int) := by omega
 have hm1' := Lib.hid (show m1 = L - i1 ∧ i1 + M = L + 1 ∧ M ≤ L from ⟨hm1, hi1, by omega⟩)
 clear hm1
 have hmax : max (0 : Int) ((M : Int) - 3) = (F : Int) := by omega
 replace ha := Lib.hid ha
 replace hb := Lib.hid hb
 have hm1r : (td r0).length = m1 := by rw [← htr, List.length_drop, ← hL, hLi]
 rw [htr, tv_td] at hst
 rw [hLi] at hsr
 replace hst := Lib.hid hst
 replace hsr := Lib.hid hsr
 replace htr := Lib.hid htr
 replace hr0 := Lib.hid hr0
 replace hca := Lib.hid hca
 replace had := Lib.hid had
 clear hva
 replace hL := Lib.hid hL
 replace hM := Lib.hid hM
 replace hAlt := Lib.hid hAlt
 replace low := Lib.hid low
 replace high := Lib.hid high
 replace fb := Lib.hid fb
 have hi1' := Lib.hid hi1
 have hF' := Lib.hid hF
 have k1 : (M : Int) ≤ (L : Int) := by omega
 clear hi1 hF
 go_enter Tryd.func83, Tryd.ntmps83
 go_wp2_with fail
 with_reducible refine Calls.mono (C.out _ ha.out hb.out) ?_
 rintro e w1 ⟨rfl, hb1⟩
 go_wp2_with fail
 with_reducible refine Calls.mono (Le.out _ (hb.out.below hb1)) ?_
 rintro e w2 ⟨rfl, rfl⟩
 have hD0 := ((hb1.alloc hb1.size (zobjI i1)).alloc (by rw [World.size_alloc]; have := hb1.size; omega) (.cells #[] 3))
 have hr0S := Lib.hid (hsr.out _ hD0)
 have hm1r' : 0 + (td r0).length ≤ 1000000 := by omega
 replace hD0 := Lib.hid hD0
 replace hm1r' := Lib.hid hm1r'
 go_wp2_with (at_builtin; refine wpList_append_sl rfl _ _ rfl (w1.heap.size + 1) _ 0 [] rfl (made2 _ _) _ (td r0) rfl hr0S.out hm1r'.out (by simp) ?_)
 intro v2 w2 hown hgrow
 have hB2 : Below (w1.heap.size + 1) (w1.alloc (zobjI i1)) w2 := ((Below.refl _ _).alloc (by rw [World.size_alloc]; exact Nat.le_refl _) _).grown hgrow (by simp [World.size_alloc]) (fun j hj => by simp [Value.ownBlock] at hj; omega)
 have hX0 := (IB.zeros w1 i1).below hB2 (Nat.lt_succ_self _)
 have hgB : w.heap.size ≤ w1.heap.size := hb1.size
 have hD2 := (hb1.alloc hb1.size (zobjI i1)).trans (hB2.mono (Nat.le_trans hgB (Nat.le_succ _)))
 have hR2 : Rn w2 v2 r0 := Sl.owned hown hm1r.symm
 clear hown hgrow hB2 hD0 hr0S hsf hsr hmk hm1r'
 replace hX0 := Lib.hid hX0
 replace hR2 := Lib.hid hR2
 obtain ⟨g, hg⟩ : ∃ g, g = w1.heap.size := ⟨_, rfl⟩
 rw [← hg] at hX0 hgB ⊢
 clear hg
 go_wp2_with fail
 go_loopw [8, 10] (fun zv rv wr => ∃ (j : Nat) (X : List Nat) (r : Nat), zv = .int .i64 ((j : Int) - 1) ∧ j ≤ i1 ∧ X.length = i1 ∧ DivS a b (td a) X j r ∧ IB wr g X ∧ Rn wr rv r ∧ Below w.heap.size w wr) (fun zv _ _ => (intOf zv + 1).toNat)
 case atStart => exact ⟨i1, _, r0, (by rw [show (L : Int) - (M : Int) = (i1 : Int) - 1 by omega]), Nat.le_refl _, List.length_replicate, hst.out, hX0.out, hR2.out, hD2⟩
 case round =>
  obtain ⟨j, X, r, rfl, hj, hXl, hS, hX, hr, hbl⟩ := hrel
  clear hX0 hR2 hst hD2 C Le
  cases j with
  | zero =>
   have HT := trim_any _ X hS.lt (by rw [hXl]; omega) wr (hX.sl i1 (by omega))
   obtain ⟨hq, hrm⟩ := hS.done
   rw [hq, hXl] at HT
   replace HT := Lib.hid HT
   rw [hrm] at hr
   obtain ⟨ro, rc, erv⟩ := hr.form
   subst erv
   replace hr := Lib.hid hr
   clear hS hX hXl hq hrm
   go_wp2_with fail
   with_reducible refine Calls.mono HT.out ?_
   rintro e w3 ⟨v', rfl, hv, rfl⟩
   replace hv := Lib.hid hv
   go_wp2_with fail
   exact bodyPost_ret (v := .tuple #[v', .slice ro (td (a % b)).length rc]) (by simp [results, Tryd.results83, go_sem]) rfl ⟨_, _, rfl, hv.out, hr.out, hbl⟩
  | succ k =>
   have hki : k < i1 := by omega
   have hkL : k < L := by omega
   have e1 : (((k + 1 : Nat) : Int) - 1) = (k : Int) := by omega
   have hxb : dg (td a) k < 10000 := dg_lt hAlt.out k
   have hcell : wr.cell? (aA.add k) = some (.int .i64 ((dg (td a) k : Nat) : Int)) := by
    rw [dg_in (by rw [← hL.out]; exact hkL)]
    exact (hsd.out.below hbl).cell k (by rw [← hL.out]; exact hkL)
   have hkX : k < X.length := by rw [hXl]; exact hki
   obtain ⟨y, hy⟩ : ∃ y, y = dg (td a) k + 10000 * r := ⟨_, rfl⟩
   obtain ⟨hq9, hN⟩ := hS.step hAlt.out hkX hy
   generalize dg (td a) k = x at *
   have hrb := hS.rem
   have hyb : y < 10000 * b := by omega
   have hlr : (td r).length ≤ 1000 := Nat.le_trans (td_mono (Nat.le_of_lt hrb)) (by rw [← hM.out]; exact lb)
   obtain ⟨f, hf⟩ : ∃ f, f = y / 10000 ^ F := ⟨_, rfl⟩
   have hfb : f < 20000000000000000 := by rw [hf]; exact fb.out y hyb
   have LD := Lib.hid (fun (v : Value) (wx : World) (h : Rn wx v y) => lead.out v y hyb wx h)
   rw [td_drop, tv_td, ← hf] at LD
   obtain ⟨l0, hl0⟩ : ∃ l0, l0 = f / (t + 1) := ⟨_, rfl⟩
   obtain ⟨h0, hh0⟩ : ∃ h0, h0 = f / t := ⟨_, rfl⟩
   obtain ⟨h9, hh9⟩ : ∃ h9, h9 = min h0 9999 := ⟨_, rfl⟩
   have m1q : l0 * b ≤ y := by rw [hl0, hf]; exact low.out y
   have m2q : y / b ≤ h0 := by rw [hh0, hf]; exact high.out y
   have m3q : y / b ≤ h9 := by omega
   have m4q : l0 ≤ y / b := (Nat.le_div_iff_mul_le hb0).2 m1q
   have m5q : l0 ≤ h9 := Nat.le_trans m4q m3q
   have m6q : y < b * (h9 + 1) := by
    have := (Nat.div_lt_iff_lt_mul hb0).1 (Nat.lt_succ_of_le m3q)
    rwa [Nat.mul_comm] at this
   have m7q : h9 ≤ 9999 := by omega
   have i1q : (f : Int) / ((t : Int) + 1) = (l0 : Int) := by rw [hl0]; exact (Int.natCast_ediv f (t + 1)).symm
   have i2q : (f : Int) / (t : Int) = (h0 : Int) := by rw [hh0]; exact (Int.natCast_ediv f t).symm
   have i3q : min (h0 : Int) 9999 = (h9 : Int) := by omega
   have h0b : h0 ≤ f := by rw [hh0]; exact Nat.div_le_self _ _
   have hTR1 := Lib.hid (fun v wx h => hTR.out x y r hy hxb hyb v wx h)
   rw [Nat.mul_comm] at m1q
   replace m1q := Lib.hid m1q
   replace m6q := Lib.hid m6q
   replace hN := Lib.hid hN
   replace hy := Lib.hid hy
   replace hq9 := Lib.hid hq9
   replace hr := Lib.hid hr
   replace hkX := Lib.hid hkX
   replace hXl := Lib.hid hXl
   have hcX := hX.cell k hkX.out
   have hfX := hX.frozen k
   replace hX := Lib.hid hX
   replace hyb := Lib.hid hyb
   clear hS m2q m3q m4q hf hl0 hh0 hh9 lead hTR low high fb hrb
   rw [e1]
   have hrA := Lib.hid (hr.out.below ((Below.refl wr.heap.size wr).alloc (Nat.le_refl _) (.cells #[.int .i64 (x : Int)] 3)))
   have hlr1 := Lib.hid (show 1 + (td r).length ≤ 1000000 by omega)
   clear hlr
   go_wp2_with (at_builtin; refine wpList_append_sl rfl _ _ rfl wr.heap.size _ 1 [.int .i64 (x : Int)] rfl (own_one wr x) _ (td r) rfl hrA.out hlr1.out (by simp) ?_)
   intro v3 w3 hown hgrow
   have hs3 := Lib.hid (show Sl w3 v3 (x :: td r) from Sl.owned hown (by rw [List.length_cons, Nat.add_comm]))
   have hB3 : Below wr.heap.size wr w3 := ((Below.refl _ _).alloc (Nat.le_refl _) _).grown hgrow (by simp) (fun j hj => by simp [Value.ownBlock] at hj; omega)
   have hD3 := hbl.trans (hB3.mono hbl.size)
   have hX3 := Lib.hid (hX.out.below hB3 hX.out.lt)
   have ho3 : v3.ownBlock ≠ some g := fun e => by
    have := (hown.lt g e).1
    have := hX.out.lt
    omega
   clear hown hgrow hB3 hX hbl hcX hfX hcell hrA hr hlr1
   go_wp2_with fail
   with_reducible refine Calls.mono (hTR1.out _ _ hs3.out) ?_
   rintro e w4 ⟨v4, rfl, hv4, ho4, rfl⟩
   rw [← ho4] at ho3
   replace ho3 := Lib.hid ho3
   clear ho4
   replace hv4 := Lib.hid hv4
   clear hs3
   go_wp2_with fail
   with_reducible refine Calls.mono (LD.out _ _ hv4.out) ?_
   rintro e w4 ⟨rfl, rfl⟩
   have t1 : ¬ (t : Int) + 1 = 0 := by omega
   have t2 : ¬ (t : Int) = 0 := by omega
   go_wp2_with fail
   go_quiet (fail)
   go_wp2_with fail
   have hX3' := Lib.hid (hX3.out.drewN nq)
   have hD3' := ibdrew hD3 nq
   have hv4' := Lib.hid (show Rn (w3.drewN nq) v4 y from hv4.out.below (ibdrew (Below.refl _ _) nq))
   generalize hW4 : w3.drewN nq = w4 at *
   clear hW4 hX3 hD3 hv4
   go_loopw [12, 13] (fun lv hv wx => ∃ (l h : Nat), lv = .int .i64 (l : Int) ∧ hv = .int .i64 (h : Int) ∧ l ≤ h ∧ h ≤ 9999 ∧ b * l ≤ y ∧ y < b * (h + 1) ∧ IB wx g X ∧ Rn wx v4 y ∧ Below w.heap.size w wx) (fun lv hv _ => (intOf hv - intOf lv).toNat)
   case atStart => exact ⟨l0, h9, rfl, rfl, m5q, m7q, m1q.out, m6q.out, hX3'.out, hv4'.out, hD3'⟩
   case round =>
    obtain ⟨l, h, rfl, rfl, hlh, hh9, hq1, hq2, hXb, hvb, hbl⟩ := hrel
    replace hq1 := Lib.hid hq1
    replace hq2 := Lib.hid hq2
    have hXlt := hXb.lt
    clear hX3' hD3' hv4' m1q m6q m5q m7q i1q i2q i3q h0b hfb t1 t2 LD hTR1
    rcases Nat.lt_or_ge l h with hlt | hge
    ·have k2 : (l : Int) < (h : Int) := by omega
     obtain ⟨mid, hmid⟩ : ∃ mid, mid = (l + h + 1) / 2 := ⟨_, rfl⟩
     have hmv : ((l : Int) + (h : Int) + 1) / 2 = (mid : Int) := by omega
     have hm1 : l < mid := by omega
     have hm2 : mid ≤ h := by omega
     have hm9 : mid ≤ 9999 := by omega
     have hmidy : mid = (mid - 1) + 1 := by omega
     have OF := Lib.hid (fun wx => rof_any mid (by omega) wx)
     have hmB := Lib.hid (fun vx wx h1 h2 => MB.out mid hm9 vx wx h1 h2)
     have hcM := Lib.hid (fun vx wx h1 h2 => CM.out mid hm9 y hyb.out vx v4 wx h1 h2)
     replace hmid := Lib.hid hmid
     replace hmidy := Lib.hid hmidy
     replace hXb := Lib.hid hXb
     replace hvb := Lib.hid hvb
     go_wp2_with fail
     with_reducible refine Calls.mono (OF.out _) ?_
     rintro e w5 ⟨v5, rfl, hv5, hb5⟩
     replace hv5 := Lib.hid hv5
     have B5 := hbl.trans (hb5.mono hbl.size)
     have hvb5 := Lib.hid (hvb.out.below hb5)
     have hX5 := Lib.hid (hXb.out.below hb5 hXb.out.lt)
     clear hb5
     go_wp2_with fail
     with_reducible refine Calls.mono (hmB.out _ _ (hb.out.below B5) hv5.out) ?_
     rintro e w6 ⟨v6, rfl, hv6, hb6⟩
     replace hv6 := Lib.hid hv6
     have B6 := B5.trans (hb6.mono B5.size)
     have hvb6 := Lib.hid (hvb5.out.below hb6)
     have hX6 := Lib.hid (hX5.out.below hb6 hX5.out.lt)
     clear hb6 B5
     by_cases hle : b * mid ≤ y
     ·have k3 : decide (cmpI (b * mid) y ≤ 0) = true := decide_eq_true (by unfold cmpI; split <;> (try split) <;> omega)
      replace hle := Lib.hid hle
      generalize cmpI (b * mid) y = zz at *
      go_wp2_with fail
      with_reducible refine Calls.mono (hcM.out _ _ hv6.out hvb6.out) ?_
      rintro e w7 ⟨rfl, hb7⟩
      have B7 := B6.trans (hb7.mono B6.size)
      have hvb7 := Lib.hid (hvb6.out.below hb7)
      have hX7 := Lib.hid (hX6.out.below hb7 hX6.out.lt)
      clear hb7 B6
      go_wp2_with fail
      go_roundw
      case rel => exact ⟨mid, h, rfl, rfl, hm2, hh9, hle.out, hq2.out, hX7.out, hvb7.out, B7⟩
      case measure => simp [intOf]; omega
     ·have k3 : decide (cmpI (b * mid) y ≤ 0) = false := decide_eq_false (by rw [cmpI_gt (by omega)]; omega)
      replace hle := Lib.hid hle
      generalize cmpI (b * mid) y = zz at *
      go_wp2_with fail
      with_reducible refine Calls.mono (hcM.out _ _ hv6.out hvb6.out) ?_
      rintro e w7 ⟨rfl, hb7⟩
      have B7 := B6.trans (hb7.mono B6.size)
      have hvb7 := Lib.hid (hvb6.out.below hb7)
      have hX7 := Lib.hid (hX6.out.below hb7 hX6.out.lt)
      clear hb7 B6
      go_wp2_with fail
      go_roundw
      case rel => exact ⟨l, mid - 1, rfl, by first | rfl | go_num, by omega, by omega, hq1.out, (by rw [← hmidy.out]; exact Nat.lt_of_not_le hle.out), hX7.out, hvb7.out, B7⟩
      case measure => simp [intOf]; omega
    ·obtain rfl : l = h := by omega
     have k2 : ¬ (l : Int) < (l : Int) := by omega
     have hyd : y / b = l := Nat.div_eq_of_lt_le (by rw [Nat.mul_comm]; exact hq1.out) (by rw [Nat.mul_comm]; exact hq2.out)
     rw [hyd] at hN hq9
     have OF := Lib.hid (fun wx => rof_any l (by omega) wx)
     have hmB := Lib.hid (fun vx wx h1 h2 => MB.out l hh9 vx wx h1 h2)
     have hsB := Lib.hid (fun vx wx h1 h2 => SB.out l y hyb.out hq1.out vx v4 wx h1 h2)
     have hcX := hXb.cell k hkX.out
     have hfX := hXb.frozen k
     have hb1 := hbl.setCell (p := ⟨g, k, none⟩) hgB (.int .i64 (l : Int))
     have hXs := Lib.hid (hXb.set k l)
     have hvs := Lib.hid (Sl.set_off (k := k) (u := .int .i64 (l : Int)) hvb ho3.out)
     replace hXb := Lib.hid hXb
     go_wp2_with fail
     with_reducible refine Calls.mono (OF.out _) ?_
     rintro e w5 ⟨v5, rfl, hv5, hb5⟩
     replace hv5 := Lib.hid hv5
     have B5 := hb1.trans (hb5.mono hb1.size)
     have hvb5 := Lib.hid (hvs.out.below hb5)
     have hX5 := Lib.hid (hXs.out.below hb5 hXs.out.lt)
     clear hb5 hXs hvs hcX hfX hb1
     go_wp2_with fail
     with_reducible refine Calls.mono (hmB.out _ _ (hb.out.below B5) hv5.out) ?_
     rintro e w6 ⟨v6, rfl, hv6, hb6⟩
     replace hv6 := Lib.hid hv6
     have B6 := B5.trans (hb6.mono B5.size)
     have hvb6 := Lib.hid (hvb5.out.below hb6)
     have hX6 := Lib.hid (hX5.out.below hb6 hX5.out.lt)
     clear hb6 B5
     go_wp2_with fail
     with_reducible refine Calls.mono (hsB.out _ _ hvb6.out hv6.out) ?_
     rintro e w7 ⟨v7, rfl, hv7, hb7⟩
     replace hv7 := Lib.hid hv7
     have B7 := B6.trans (hb7.mono B6.size)
     have hX7 := Lib.hid (hX6.out.below hb7 hX6.out.lt)
     clear hb7 B6
     go_wp2_with fail
     go_roundw
     case rel => exact ⟨k, X.set k l, y - b * l, by first | rfl | go_num, by omega, by rw [List.length_set]; exact hXl.out, hN.out, hX7.out, hv7.out, B7⟩
     case measure => simp [intOf]
set_option maxHeartbeats 4000000 in
/-- Div, for b above 0. -/
theorem rdiv_any (va vb : Value) (a b : Nat) (hb0 : 0 < b) (la : (td a).length ≤ 1000) (lb : (td b).length ≤ 1000) (w : World) (ha : Rn w va a) (hb : Rn w vb b) :
  Calls Tryd.prog 83 #[va, vb] w fun e w' => ∃ v1 v2, e = .returned (.tuple #[v1, v2]) ∧ Rn w' v1 (a / b) ∧ Rn w' v2 (a % b) ∧ Below w.heap.size w w' := by
 rcases Nat.lt_or_ge a b with h | h
 ·refine (rdiv_small va vb a b h la lb w ha hb).mono ?_
  rintro e w' ⟨rfl, hbl⟩
  refine ⟨_, _, rfl, ?_, ?_, hbl⟩
  ·rw [Nat.div_eq_of_lt h]
   show Sl w' _ (td 0)
   rw [td_zero]; exact Sl.nil w'
  ·rw [Nat.mod_eq_of_lt h]; exact ha.below hbl
 ·exact rdiv_big va vb a b h hb0 la w ha hb
end Go.Proofs.YtfmakoiiibacjaaDoor.Rx
namespace Go.Proofs.YtfmakoiiibacjaaDoor.Rx
open Go.RowKit
attribute [local irreducible] tv dg cmpI nb isq
theorem Sl.inj {w : World} {v : Value} {l m : List Nat} (h : Sl w v l) (k : Sl w v m) : l = m := by
 rcases h with ⟨ao, c, e1, rfl, -⟩ | ⟨a, c, e1, -, h3⟩
 ·rcases k with ⟨_, _, _, rfl, -⟩ | ⟨a', c', e2, -, -⟩
  ·rfl
  ·rw [e1] at e2
   injection e2 with _ e3 _
   exact (List.eq_nil_of_length_eq_zero e3.symm).symm
 ·rcases k with ⟨_, _, e2, rfl, -⟩ | ⟨a', c', e2, -, k3⟩
  ·rw [e1] at e2
   injection e2 with _ e3 _
   exact List.eq_nil_of_length_eq_zero e3
  ·rw [e1] at e2
   injection e2 with e4 e3 _
   injection e4 with e4
   subst e4
   refine List.ext_getElem e3 fun i h1 h2 => ?_
   have := (h3.cell i h1).symm.trans (k3.cell i h2)
   injection this with this
   injection this with _ this
   exact Int.ofNat.inj this
theorem Rn.inj {w : World} {v : Value} {x y : Nat} (h : Rn w v x) (k : Rn w v y) : x = y := by
 have := congrArg tv (Sl.inj h k)
 rwa [tv_td, tv_td] at this
end Go.Proofs.YtfmakoiiibacjaaDoor.Rx
namespace Go.Proofs.YtfmakoiiibacjaaDoor
open Go.RowKit Go.Proofs.YtfmakoiiibacjaaDoor.Rx
attribute [local irreducible] lo hs sm s64 c64 d64 b64 mh ml pd pc qd qc val hiB str cmpI srD lz nb isq zl zh zs dval
theorem td_of_digs {n k : Nat} (h : (digs n).length ≤ k) : (td n).length ≤ 5 * k := by
 rw [td_length, Nat.pow_mul]
 refine Nat.lt_of_lt_of_le (digs_length_iff.1 h) (Nat.pow_le_pow_left ?_ k)
 unfold Bs; omega
theorem td_one : (td 1).length ≤ 1 := by rw [td_length]; omega
theorem one_r (w : World) : Calls Tryd.prog 65 #[.int .u64 1] w fun e w' => ∃ v, e = .returned v ∧ Rn w' v 1 ∧ Below w.heap.size w w' := rof_val 1 1 rfl (by omega) w
/-- From, of a sign and a size. -/
theorem rz_from (b : Bool) (n : Nat) (z : Int) (hb : (b && decide (n ≠ 0)) = decide (z < 0)) (hn : n = z.natAbs) (v : Value) (w : World) (h : Rn w v n) :
  Calls Tryd.prog 61 #[.bool b, v] w fun e w' => ∃ v, e = .returned v ∧ RZ w' v z ∧ Below w.heap.size w w' :=
 (rfrom_any b v n w h).mono fun e w' ⟨h1, h2⟩ => ⟨_, h1, RZ.of (Sl.below h h2) hb hn, h2⟩
theorem rzsignI (z : Int) (v : Value) (w : World) (h : RZ w v z) : Calls Tryd.prog 60 #[v] w fun e w' => e = .returned (.int .i64 (sgn z)) ∧ Below w.heap.size w w' := by
 obtain ⟨ao, c, rfl⟩ := rz_form h
 unfold sgn
 by_cases h0 : z < 0
 ·rw [if_pos h0, show zs z = true from by unfold zs; exact decide_eq_true h0]
  exact rzsign_neg ao _ c (Nat.pos_of_ne_zero fun e => by have := (td_len_zero _).1 e; omega) w
 ·rw [if_neg h0, show zs z = false from by unfold zs; exact decide_eq_false h0]
  by_cases h1 : z = 0
  ·rw [if_pos h1]
   exact rzsign_zero false ao _ c ((td_len_zero _).2 (by omega)) w
  ·rw [if_neg h1]
   exact rzsign_pos ao _ c (Nat.pos_of_ne_zero fun e => by have := (td_len_zero _).1 e; omega) w
theorem rzof_one (w : World) : Calls Tryd.prog 38 #[.int .i64 1] w fun e w' => ∃ v, e = .returned v ∧ RZ w' v 1 ∧ Below w.heap.size w w' :=
 rzof_pos 1 1 1 1 one_r (rz_from false 1 1 rfl rfl) (by decide) (by decide) w
theorem ed_uniq {x y q r : Int} (h0 : y ≠ 0) (h : r + y * q = x) (h1 : 0 ≤ r) (h2 : r < (y.natAbs : Int)) : x / y = q ∧ x % y = r := by
 rcases Int.lt_or_gt_of_ne h0 with hy | hy
 ·have h3 := (Int.ediv_emod_unique (a := x) (b := -y) (q := -q) (r := r) (by omega)).2 ⟨by rw [Int.neg_mul_neg]; exact h, h1, by omega⟩
  rw [Int.ediv_neg, Int.emod_neg] at h3
  exact ⟨by omega, h3.2⟩
 ·exact (Int.ediv_emod_unique hy).2 ⟨h, h1, by omega⟩
/-- The division of integers. -/
theorem rzdivI (x y : Int) (h0 : y ≠ 0) (lx : (Rx.td x.natAbs).length ≤ 1000) (ly : (Rx.td y.natAbs).length ≤ 1000) (v1 v2 : Value) (w : World) (h1 : RZ w v1 x) (h2 : RZ w v2 y) :
  Calls Tryd.prog 62 #[v1, v2] w fun e w' => ∃ a b, e = .returned (.tuple #[a, b]) ∧ RZ w' a (x / y) ∧ RZ w' b (x % y) ∧ Below w.heap.size w w' := by
 have hy : 0 < y.natAbs := by omega
 have HD := fun a b w ha hb => rdiv_any a b x.natAbs y.natAbs hy lx ly w ha hb
 have hm := Nat.mod_lt x.natAbs hy
 have hdm := Nat.div_add_mod x.natAbs y.natAbs
 have lq : (Rx.td (x.natAbs / y.natAbs)).length ≤ 1000 := Nat.le_trans (td_mono (Nat.div_le_self _ _)) lx
 have lm : (Rx.td (x.natAbs % y.natAbs)).length ≤ 1000 := Nat.le_trans (td_mono (Nat.mod_le _ _)) lx
 generalize x.natAbs / y.natAbs = q at *
 generalize x.natAbs % y.natAbs = m at *
 -- the two signed parts
 obtain ⟨u, hu, hub, hul⟩ : ∃ u : Int, (u = if zs x == zs y then (q : Int) else -q) ∧ ((!(zs x == zs y)) && decide (q ≠ 0)) = decide (u < 0) ∧ q = u.natAbs := by
  refine ⟨_, rfl, ?_, ?_⟩
  ·rw [Bool.eq_iff_iff]; cases zs x == zs y <;> simp <;> omega
  ·split <;> simp
 obtain ⟨v, hv, hvb, hvl⟩ : ∃ v : Int, (v = if zs x then -(m : Int) else m) ∧ (zs x && decide (m ≠ 0)) = decide (v < 0) ∧ m = v.natAbs := by
  refine ⟨_, rfl, ?_, ?_⟩
  ·rw [Bool.eq_iff_iff]; cases zs x <;> simp <;> omega
  ·split <;> simp
 have hx : v + y * u = x := by
  have e : (y.natAbs : Int) * (q : Int) + m = (x.natAbs : Int) := by exact_mod_cast hdm
  have zx : zs x = decide (x < 0) := by unfold zs; rfl
  have zy : zs y = decide (y < 0) := by unfold zs; rfl
  rw [hu, hv, zx, zy]
  have ey' : (y.natAbs : Int) = if y < 0 then -y else y := by split <;> omega
  have ex' : (x.natAbs : Int) = if x < 0 then -x else x := by split <;> omega
  rw [ey', ex'] at e
  by_cases ex : x < 0 <;> by_cases ey : y < 0 <;> simp [ex, ey] at e ⊢ <;> grind
 have lu : (Rx.td u.natAbs).length ≤ 1000 := by rw [← hul]; exact lq
 have lv : (Rx.td v.natAbs).length ≤ 1000 := by rw [← hvl]; exact lm
 have HF := fun a w ha => rz_from (!(zs x == zs y)) q u hub hul a w ha
 have HG := fun a w ha => rz_from (zs x) m v hvb hvl a w ha
 have l1 : (Rx.td (1 : Int).natAbs).length ≤ 1000000 := Nat.le_trans td_one (by omega)
 by_cases hv0 : v < 0
 ·have s0 : decide (sgn v < 0) = true := decide_eq_true (by unfold sgn; rw [if_pos hv0]; omega)
  by_cases hy0 : 0 < y
  ·obtain ⟨d1, d2⟩ := ed_uniq (x := x) (q := u - 1) (r := v + y) h0 (by rw [Int.mul_sub, Int.mul_one]; omega) (by omega) (by omega)
   rw [d1, d2]
   exact rzdiv_pos x y u v (sgn v) (sgn y) q m 1 _ _ HD HF HG (rzsignI v) (rzsignI y) (rzof_one) (fun a b w ha hb => rzsubI a b _ _ (by omega) l1 w ha hb) (fun a b w ha hb => rzaddI a b _ _ (by omega) (by omega) w ha hb) s0 (decide_eq_true (by unfold sgn; rw [if_neg (by omega), if_neg (by omega)]; omega)) v1 v2 w h1 h2
  ·obtain ⟨d1, d2⟩ := ed_uniq (x := x) (q := u + 1) (r := v - y) h0 (by rw [Int.mul_add, Int.mul_one]; omega) (by omega) (by omega)
   rw [d1, d2]
   exact rzdiv_neg x y u v (sgn v) (sgn y) q m 1 _ _ HD HF HG (rzsignI v) (rzsignI y) (rzof_one) (fun a b w ha hb => rzaddI a b _ _ (by omega) l1 w ha hb) (fun a b w ha hb => rzsubI a b _ _ (by omega) (by omega) w ha hb) s0 (decide_eq_false (by unfold sgn; rw [if_pos (by omega)]; omega)) v1 v2 w h1 h2
 ·obtain ⟨d1, d2⟩ := ed_uniq (x := x) (q := u) (r := v) h0 hx (by omega) (by omega)
  rw [d1, d2]
  exact rzdiv_plain x y u v (sgn v) 0 q m HD HF HG (rzsignI v) (decide_eq_false (by unfold sgn; rw [if_neg hv0]; split <;> omega)) v1 v2 w h1 h2
end Go.Proofs.YtfmakoiiibacjaaDoor
namespace Go.Proofs.YtfmakoiiibacjaaDoor
open Go.RowKit Go.Proofs.YtfmakoiiibacjaaDoor.Rx
attribute [local irreducible] lo hs sm s64 c64 d64 b64 mh ml pd pc qd qc val hiB str cmpI srD lz nb isq zl zh zs dval tln
set_option maxHeartbeats 4000000 in
set_option maxRecDepth 100000 in
theorem rzcmp_w (x y d c : Int) (HB : ∀ (p0 p1 : Value) (w : World), RZ w p0 x → RZ w p1 y → Calls Tryd.prog 63 #[p0, p1] w fun e w' => ∃ pv, e = .returned pv ∧ RZ w' pv d ∧ Below w.heap.size w w') (HS : ∀ (p0 : Value) (w : World), RZ w p0 d → Calls Tryd.prog 60 #[p0] w fun e w' => e = .returned (.int .i64 c) ∧ Below w.heap.size w w') (p0 : Value) (p1 : Value) (w : World) (r0 : RZ w p0 x) (r1 : RZ w p1 y) :
  Calls Tryd.prog 39 #[p0, p1] w fun e w' => e = .returned (.int .i64 c) ∧ Below w.heap.size w w' := by
 obtain ⟨a0, c0, rfl⟩ := rz_form r0
 have f0 := Lib.hid (rz_rn r0)
 clear r0
 obtain ⟨a1, c1, rfl⟩ := rz_form r1
 have f1 := Lib.hid (rz_rn r1)
 clear r1
 replace HB := Lib.hid HB
 replace HS := Lib.hid HS
 have hL0 : GL w w [] := GL.start w
 have hS : SS w [] := SS.nil w
 replace hS := ((hS.new (.cells #[.bool (zs x), .slice a0 (tln x.natAbs) c0] 65)).new (.cells #[.bool (zs y), .slice a1 (tln y.natAbs) c1] 65))
 replace hL0 := ((hL0.new rfl [.bool (zs x), .slice a0 (tln x.natAbs) c0] 65).new (K := w.heap.size + 1) (szA _ _) [.bool (zs y), .slice a1 (tln y.natAbs) c1] 65)
 generalize hweq : ((w.alloc (.cells #[.bool (zs x), .slice a0 (tln x.natAbs) c0] 65)).alloc (.cells #[.bool (zs y), .slice a1 (tln y.natAbs) c1] 65)) = x1 at hL0 hS
 go_enter Tryd.func39, Tryd.ntmps39
 have hN0 := cells_of _ 0 [] rfl (hL0.get _ _ List.mem_cons_self)
 simp only [cellsF, and_true, Nat.zero_add, Nat.reduceAdd] at hN0
 have hN1 := cells_of _ 0 [] rfl (hL0.get _ _ (List.mem_cons_of_mem _ List.mem_cons_self))
 simp only [cellsF, and_true, Nat.zero_add, Nat.reduceAdd] at hN1
 go_wp2_with fail
 clear hN0 hN1
 with_reducible refine Calls.mono (HB.out (.agg #[.bool (zs x), .slice a0 (tln x.natAbs) c0]) (.agg #[.bool (zs y), .slice a1 (tln y.natAbs) c1]) _ (rz_of (Sl.below f0.out hL0.bl)) (rz_of (Sl.below f1.out hL0.bl))) ?_
 rintro e x2 ⟨v0, rfl, q0, hb⟩
 replace hL0 := hL0.call hb
 replace hS := hS.call hb
 clear hb hweq
 obtain ⟨g1, d1, rfl⟩ := rz_form q0
 replace hS := hS.cons (rz_rn q0)
 clear q0
 go_wp2_with fail
 with_reducible refine Calls.mono (HS.out (.agg #[.bool (zs d), .slice g1 (tln d.natAbs) d1]) _ (rz_of (hS.get List.mem_cons_self))) ?_
 rintro e x3 ⟨rfl, hb⟩
 replace hL0 := hL0.call hb
 replace hS := hS.call hb
 clear hb
 go_wp2_with fail
 exact bodyPost_ret (v := .int .i64 c) (by simp [results, Tryd.results39, go_sem]) rfl ⟨rfl, hL0.bl⟩
set_option maxHeartbeats 4000000 in
set_option maxRecDepth 100000 in
theorem rzgcd_zero (x y g t k s : Int) (HY : ∀ (p0 : Value) (w : World), RZ w p0 y → Calls Tryd.prog 60 #[p0] w fun e w' => e = .returned (.int .i64 0) ∧ Below w.heap.size w w') (HX : ∀ (p0 : Value) (w : World), RZ w p0 x → Calls Tryd.prog 60 #[p0] w fun e w' => e = .returned (.int .i64 s) ∧ Below w.heap.size w w') (HF : ∀ (p1 : Value) (w : World), Rn w p1 x.natAbs → Calls Tryd.prog 61 #[.bool false, p1] w fun e w' => ∃ pv, e = .returned pv ∧ RZ w' pv g ∧ Below w.heap.size w w') (HO : ∀ (w : World), Calls Tryd.prog 38 #[.int .i64 s] w fun e w' => ∃ pv, e = .returned pv ∧ RZ w' pv t ∧ Below w.heap.size w w') (HZ : ∀ (w : World), Calls Tryd.prog 38 #[.int .i64 0] w fun e w' => ∃ pv, e = .returned pv ∧ RZ w' pv k ∧ Below w.heap.size w w') (p0 : Value) (p1 : Value) (w : World) (r0 : RZ w p0 x) (r1 : RZ w p1 y) :
  Calls Tryd.prog 37 #[p0, p1] w fun e w' => ∃ v0 v1 v2, e = .returned (.tuple #[v0, v1, v2]) ∧ RZ w' v0 g ∧ RZ w' v1 t ∧ RZ w' v2 k ∧ Below w.heap.size w w' := by
 obtain ⟨a0, c0, rfl⟩ := rz_form r0
 have f0 := Lib.hid (rz_rn r0)
 clear r0
 obtain ⟨a1, c1, rfl⟩ := rz_form r1
 have f1 := Lib.hid (rz_rn r1)
 clear r1
 replace HY := Lib.hid HY
 replace HX := Lib.hid HX
 replace HF := Lib.hid HF
 replace HO := Lib.hid HO
 replace HZ := Lib.hid HZ
 have hL0 : GL w w [] := GL.start w
 have hS : SS w [] := SS.nil w
 replace hS := (((((hS.new (.cells #[.bool (zs x), .slice a0 (tln x.natAbs) c0] 65)).new (.cells #[.bool (zs y), .slice a1 (tln y.natAbs) c1] 65)).new (.cells #[.bool false, .slice none 0 0] 65)).new (.cells #[.bool false, .slice none 0 0] 65)).new (.cells #[.bool false, .slice none 0 0] 65))
 replace hL0 := (((((hL0.new rfl [.bool (zs x), .slice a0 (tln x.natAbs) c0] 65).new (K := w.heap.size + 1) (szA _ _) [.bool (zs y), .slice a1 (tln y.natAbs) c1] 65).new (K := w.heap.size + 1 + 1) (by simp only [World.size_alloc]) [.bool false, .slice none 0 0] 65).new (K := w.heap.size + 1 + 1 + 1) (by simp only [World.size_alloc]) [.bool false, .slice none 0 0] 65).new (K := w.heap.size + 1 + 1 + 1 + 1) (by simp only [World.size_alloc]) [.bool false, .slice none 0 0] 65)
 generalize hweq : (((((w.alloc (.cells #[.bool (zs x), .slice a0 (tln x.natAbs) c0] 65)).alloc (.cells #[.bool (zs y), .slice a1 (tln y.natAbs) c1] 65)).alloc (.cells #[.bool false, .slice none 0 0] 65)).alloc (.cells #[.bool false, .slice none 0 0] 65)).alloc (.cells #[.bool false, .slice none 0 0] 65)) = x1 at hL0 hS
 go_enter Tryd.func37, Tryd.ntmps37
 have hN0 := cells_of _ 0 [] rfl (hL0.get _ _ (List.mem_cons_of_mem _ (List.mem_cons_of_mem _ (List.mem_cons_of_mem _ List.mem_cons_self))))
 simp only [cellsF, and_true, Nat.zero_add, Nat.reduceAdd] at hN0
 go_wp2_with fail
 clear hN0
 with_reducible refine Calls.mono (HY.out (.agg #[.bool (zs y), .slice a1 (tln y.natAbs) c1]) _ (rz_of (Sl.below f1.out hL0.bl))) ?_
 rintro e x2 ⟨rfl, hb⟩
 replace hL0 := hL0.call hb
 replace hS := hS.call hb
 clear hb hweq
 go_upto_region 2 with fail
 refine region_tl 7 [EV (.pointer (some ⟨w.heap.size, 1, none⟩)), EV (.slice a0 (tln x.natAbs) c0), PZ g, EV (.agg #[.bool (zs x), .slice a0 (tln x.natAbs) c0]), EV (.int .i64 s), PZ t, PZ k] (by kernel_rfl) (by kernel_rfl) ?_ ?_ ?_
 ·exact stays_cons (stays_eq _) (stays_cons (stays_eq _) (stays_cons (stays_rz _) (stays_cons (stays_eq _) (stays_cons (stays_eq _) (stays_cons (stays_rz _) (stays_cons (stays_rz _) (stays_nil)))))))
 ·simp only [List.take_succ_cons, List.take_zero, hopsR, and_true]
  refine ⟨?_, ?_, ?_, ?_, ?_, ?_, ?_⟩ <;> intro fv w1 hb1 hp
  all_goals (simp only [putsV, Act.put, List.setIfInBounds_toArray, List.set_cons_succ, List.set_cons_zero, Nat.zero_add, Nat.reduceAdd])
  ·refine tyAt_none rfl ?_
   simp [tyUpon, execOp, go_sem, Act.eval, Below.refl]
  ·have h0 : EV _ (fv 0) w1 := hp 0 (LC (by kernel_rfl))
   refine tyAt_none rfl ?_
   have hc := (hL0.call (below_drew hb1)).fc
   simp only [fcG, cellsF, neK, and_true, ne_eq, Nat.zero_add, Nat.reduceAdd] at hc
   simp [tyUpon, execOp, go_sem, Act.eval, hc, h0, Below.refl]
  ·have h1 : EV _ (fv 1) w1 := hp 1 (LC (by kernel_rfl))
   refine tyAt_none rfl ?_
   refine ty_call (f := 61) (args := #[.bool false, .slice a0 (tln x.natAbs) c0]) (by simp [execOp, go_sem, Act.eval, h1]) ?_
   exact (HF.out (.slice a0 (tln x.natAbs) c0) w1 (Sl.below (Sl.below f0.out hL0.bl) (below_drew hb1))).mono fun e w2 ⟨pv, h1, h2, h3⟩ => ⟨pv, h1, h2, h3⟩
  ·refine tyAt_none rfl ?_
   have hc := (hL0.call (below_drew hb1)).fc
   simp only [fcG, cellsF, neK, and_true, ne_eq, Nat.zero_add, Nat.reduceAdd] at hc
   simp [tyUpon, execOp, go_sem, Act.eval, hc, Below.refl]
  ·have h3 : EV _ (fv 3) w1 := hp 3 (LC (by kernel_rfl))
   refine tyAt_none rfl ?_
   refine ty_call (f := 60) (args := #[.agg #[.bool (zs x), .slice a0 (tln x.natAbs) c0]]) (by simp [execOp, go_sem, Act.eval, h3]) ?_
   exact (HX.out (.agg #[.bool (zs x), .slice a0 (tln x.natAbs) c0]) w1 (rz_of (Sl.below (Sl.below f0.out hL0.bl) (below_drew hb1)))).mono fun e w2 ⟨h1, h2⟩ => ⟨_, h1, rfl, h2⟩
  ·have h4 : EV _ (fv 4) w1 := hp 4 (LC (by kernel_rfl))
   refine tyAt_none rfl ?_
   refine ty_call (f := 38) (args := #[.int .i64 s]) (by simp [execOp, go_sem, Act.eval, h4]) ?_
   exact (HO.out w1).mono fun e w2 ⟨pv, h1, h2, h3⟩ => ⟨pv, h1, h2, h3⟩
  ·refine tyAt_none rfl ?_
   refine ty_call (f := 38) (args := #[.int .i64 0]) (by simp [execOp, go_sem, Act.eval]) ?_
   exact (HZ.out w1).mono fun e w2 ⟨pv, h1, h2, h3⟩ => ⟨pv, h1, h2, h3⟩
 ·intro fv x3 hb1 hv
  have e0 : fv 0 = _ := hv 0 (by omega)
  have e1 : fv 1 = _ := hv 1 (by omega)
  have q2 : RZ x3 (fv 2) g := hv 2 (by omega)
  obtain ⟨g1, d1, e2⟩ := rz_form q2
  rw [e2] at q2
  have e3 : fv 3 = _ := hv 3 (by omega)
  have e4 : fv 4 = _ := hv 4 (by omega)
  have q5 : RZ x3 (fv 5) t := hv 5 (by omega)
  obtain ⟨g2, d2, e5⟩ := rz_form q5
  rw [e5] at q5
  have q6 : RZ x3 (fv 6) k := hv 6 (by omega)
  obtain ⟨g3, d3, e6⟩ := rz_form q6
  rw [e6] at q6
  simp only [List.take_succ_cons, List.take_zero, putsV, Act.put, List.setIfInBounds_toArray, List.set_cons_succ, List.set_cons_zero, List.drop_succ_cons, List.drop_zero, Nat.zero_add, Nat.reduceAdd, e0, e1, e2, e3, e4, e5, e6]
  replace hL0 := hL0.call (below_drew hb1)
  replace hS := hS.call (below_drew hb1)
  replace hS := hS.cons (rz_rn q2)
  replace hS := hS.cons (rz_rn q5)
  replace hS := hS.cons (rz_rn q6)
  clear e0 e1 e2 e3 e4 e5 e6 hb1 hv q2 q5 q6 fv
  have hS1 := hS.put (((Upd.refl (w.heap.size + 1 + 1) x3).setCell 0 (.bool (zs g))).setCell 1 (.slice g1 (tln g.natAbs) d1)) (hL0.get _ _ (List.mem_cons_of_mem _ (List.mem_cons_of_mem _ List.mem_cons_self))) (by intro v hv n; simp only [List.mem_cons, List.not_mem_nil, or_false] at hv; rcases hv with rfl | rfl <;> simp)
  have hA := hL0.fc
  simp only [fcG, cellsF, neK, and_true, ne_eq, Nat.zero_add, Nat.reduceAdd] at hA
  have hP := hL0.put 2 (w.heap.size + 1 + 1) _ rfl [.bool (zs g), .slice g1 (tln g.natAbs) d1] rfl
  simp only [setAll, List.set_cons_zero, List.set_cons_succ] at hP
  generalize hput1 : ((x3.setCell ⟨w.heap.size + 1 + 1, 0, none⟩ (.bool (zs g))).setCell ⟨w.heap.size + 1 + 1, 1, none⟩ (.slice g1 (tln g.natAbs) d1)) = x4 at hP hS1
  have hB1 := hP.fc
  simp only [fcG, cellsF, neK, and_true, ne_eq, Nat.zero_add, Nat.reduceAdd] at hB1
  replace hL0 := hP
  replace hS := hS1
  clear hS1
  have hS1 := hS.put (((Upd.refl (w.heap.size + 1 + 1 + 1) x4).setCell 0 (.bool (zs t))).setCell 1 (.slice g2 (tln t.natAbs) d2)) (hL0.get _ _ (List.mem_cons_of_mem _ List.mem_cons_self)) (by intro v hv n; simp only [List.mem_cons, List.not_mem_nil, or_false] at hv; rcases hv with rfl | rfl <;> simp)
  have hP := hL0.put 1 (w.heap.size + 1 + 1 + 1) _ rfl [.bool (zs t), .slice g2 (tln t.natAbs) d2] rfl
  simp only [setAll, List.set_cons_zero, List.set_cons_succ] at hP
  generalize hput2 : ((x4.setCell ⟨w.heap.size + 1 + 1 + 1, 0, none⟩ (.bool (zs t))).setCell ⟨w.heap.size + 1 + 1 + 1, 1, none⟩ (.slice g2 (tln t.natAbs) d2)) = x5 at hP hS1
  have hB2 := hP.fc
  simp only [fcG, cellsF, neK, and_true, ne_eq, Nat.zero_add, Nat.reduceAdd] at hB2
  replace hL0 := hP
  replace hS := hS1
  clear hS1
  have hS1 := hS.put (((Upd.refl (w.heap.size + 1 + 1 + 1 + 1) x5).setCell 0 (.bool (zs k))).setCell 1 (.slice g3 (tln k.natAbs) d3)) (hL0.get _ _ List.mem_cons_self) (by intro v hv n; simp only [List.mem_cons, List.not_mem_nil, or_false] at hv; rcases hv with rfl | rfl <;> simp)
  have hP := hL0.put 0 (w.heap.size + 1 + 1 + 1 + 1) _ rfl [.bool (zs k), .slice g3 (tln k.natAbs) d3] rfl
  simp only [setAll, List.set_cons_zero, List.set_cons_succ] at hP
  generalize hput3 : ((x5.setCell ⟨w.heap.size + 1 + 1 + 1 + 1, 0, none⟩ (.bool (zs k))).setCell ⟨w.heap.size + 1 + 1 + 1 + 1, 1, none⟩ (.slice g3 (tln k.natAbs) d3)) = x6 at hP hS1
  have hB3 := hP.fc
  simp only [fcG, cellsF, neK, and_true, ne_eq, Nat.zero_add, Nat.reduceAdd] at hB3
  replace hL0 := hP
  replace hS := hS1
  clear hS1
  go_wp2_with fail
  exact bodyPost_ret (v := .tuple #[.agg #[.bool (zs g), .slice g1 (tln g.natAbs) d1], .agg #[.bool (zs t), .slice g2 (tln t.natAbs) d2], .agg #[.bool (zs k), .slice g3 (tln k.natAbs) d3]]) (by simp [results, Tryd.results37, go_sem, hB3]) rfl ⟨_, _, _, rfl, (rz_of (hS.get (List.mem_cons_of_mem _ (List.mem_cons_of_mem _ List.mem_cons_self)))), (rz_of (hS.get (List.mem_cons_of_mem _ List.mem_cons_self))), (rz_of (hS.get List.mem_cons_self)), hL0.bl⟩
set_option maxHeartbeats 4000000 in
set_option maxRecDepth 100000 in
theorem rzgcd_step (x y r q m g u v s p : Int) (HY : ∀ (p0 : Value) (w : World), RZ w p0 y → Calls Tryd.prog 60 #[p0] w fun e w' => e = .returned (.int .i64 r) ∧ Below w.heap.size w w') (HD : ∀ (p0 p1 : Value) (w : World), RZ w p0 x → RZ w p1 y → Calls Tryd.prog 62 #[p0, p1] w fun e w' => ∃ v0 v1, e = .returned (.tuple #[v0, v1]) ∧ RZ w' v0 q ∧ RZ w' v1 m ∧ Below w.heap.size w w') (HG : ∀ (p0 p1 : Value) (w : World), RZ w p0 y → RZ w p1 m → Calls Tryd.prog 37 #[p0, p1] w fun e w' => ∃ v0 v1 v2, e = .returned (.tuple #[v0, v1, v2]) ∧ RZ w' v0 g ∧ RZ w' v1 u ∧ RZ w' v2 v ∧ Below w.heap.size w w') (HM : ∀ (p0 p1 : Value) (w : World), RZ w p0 q → RZ w p1 v → Calls Tryd.prog 64 #[p0, p1] w fun e w' => ∃ pv, e = .returned pv ∧ RZ w' pv p ∧ Below w.heap.size w w') (HB : ∀ (p0 p1 : Value) (w : World), RZ w p0 u → RZ w p1 p → Calls Tryd.prog 63 #[p0, p1] w fun e w' => ∃ pv, e = .returned pv ∧ RZ w' pv s ∧ Below w.heap.size w w') (h0 : (r == 0) = false) (p0 : Value) (p1 : Value) (w : World) (r0 : RZ w p0 x) (r1 : RZ w p1 y) :
  Calls Tryd.prog 37 #[p0, p1] w fun e w' => ∃ v0 v1 v2, e = .returned (.tuple #[v0, v1, v2]) ∧ RZ w' v0 g ∧ RZ w' v1 v ∧ RZ w' v2 s ∧ Below w.heap.size w w' := by
 obtain ⟨a0, c0, rfl⟩ := rz_form r0
 have f0 := Lib.hid (rz_rn r0)
 clear r0
 obtain ⟨a1, c1, rfl⟩ := rz_form r1
 have f1 := Lib.hid (rz_rn r1)
 clear r1
 replace HY := Lib.hid HY
 replace HD := Lib.hid HD
 replace HG := Lib.hid HG
 replace HM := Lib.hid HM
 replace HB := Lib.hid HB
 have hL0 : GL w w [] := GL.start w
 have hS : SS w [] := SS.nil w
 replace hS := (((((hS.new (.cells #[.bool (zs x), .slice a0 (tln x.natAbs) c0] 65)).new (.cells #[.bool (zs y), .slice a1 (tln y.natAbs) c1] 65)).new (.cells #[.bool false, .slice none 0 0] 65)).new (.cells #[.bool false, .slice none 0 0] 65)).new (.cells #[.bool false, .slice none 0 0] 65))
 replace hL0 := (((((hL0.new rfl [.bool (zs x), .slice a0 (tln x.natAbs) c0] 65).new (K := w.heap.size + 1) (szA _ _) [.bool (zs y), .slice a1 (tln y.natAbs) c1] 65).new (K := w.heap.size + 1 + 1) (by simp only [World.size_alloc]) [.bool false, .slice none 0 0] 65).new (K := w.heap.size + 1 + 1 + 1) (by simp only [World.size_alloc]) [.bool false, .slice none 0 0] 65).new (K := w.heap.size + 1 + 1 + 1 + 1) (by simp only [World.size_alloc]) [.bool false, .slice none 0 0] 65)
 generalize hweq : (((((w.alloc (.cells #[.bool (zs x), .slice a0 (tln x.natAbs) c0] 65)).alloc (.cells #[.bool (zs y), .slice a1 (tln y.natAbs) c1] 65)).alloc (.cells #[.bool false, .slice none 0 0] 65)).alloc (.cells #[.bool false, .slice none 0 0] 65)).alloc (.cells #[.bool false, .slice none 0 0] 65)) = x1 at hL0 hS
 go_enter Tryd.func37, Tryd.ntmps37
 have hN0 := cells_of _ 0 [] rfl (hL0.get _ _ (List.mem_cons_of_mem _ (List.mem_cons_of_mem _ (List.mem_cons_of_mem _ List.mem_cons_self))))
 simp only [cellsF, and_true, Nat.zero_add, Nat.reduceAdd] at hN0
 go_wp2_with fail
 clear hN0
 with_reducible refine Calls.mono (HY.out (.agg #[.bool (zs y), .slice a1 (tln y.natAbs) c1]) _ (rz_of (Sl.below f1.out hL0.bl))) ?_
 rintro e x2 ⟨rfl, hb⟩
 replace hL0 := hL0.call hb
 replace hS := hS.call hb
 clear hb hweq
 have hN0 := cells_of _ 0 [] rfl (hL0.get _ _ (List.mem_cons_of_mem _ (List.mem_cons_of_mem _ (List.mem_cons_of_mem _ List.mem_cons_self))))
 simp only [cellsF, and_true, Nat.zero_add, Nat.reduceAdd] at hN0
 have hN1 := cells_of _ 0 [] rfl (hL0.get _ _ (List.mem_cons_of_mem _ (List.mem_cons_of_mem _ (List.mem_cons_of_mem _ (List.mem_cons_of_mem _ List.mem_cons_self)))))
 simp only [cellsF, and_true, Nat.zero_add, Nat.reduceAdd] at hN1
 go_wp2_with fail
 clear hN0 hN1
 with_reducible refine Calls.mono (HD.out (.agg #[.bool (zs x), .slice a0 (tln x.natAbs) c0]) (.agg #[.bool (zs y), .slice a1 (tln y.natAbs) c1]) _ (rz_of (Sl.below f0.out hL0.bl)) (rz_of (Sl.below f1.out hL0.bl))) ?_
 rintro e x3 ⟨v0, v1, rfl, q0, q1, hb⟩
 replace hL0 := hL0.call hb
 replace hS := hS.call hb
 clear hb
 obtain ⟨g1, d1, rfl⟩ := rz_form q0
 replace hS := hS.cons (rz_rn q0)
 clear q0
 obtain ⟨g2, d2, rfl⟩ := rz_form q1
 replace hS := hS.cons (rz_rn q1)
 clear q1
 replace hS := ((hS.new (.cells #[.bool (zs q), .slice g1 (tln q.natAbs) d1] 65)).new (.cells #[.bool (zs m), .slice g2 (tln m.natAbs) d2] 65))
 replace hL0 := ((hL0.new rfl [.bool (zs q), .slice g1 (tln q.natAbs) d1] 65).new (K := x3.heap.size + 1) (szA _ _) [.bool (zs m), .slice g2 (tln m.natAbs) d2] 65)
 generalize hweq : ((x3.alloc (.cells #[.bool (zs q), .slice g1 (tln q.natAbs) d1] 65)).alloc (.cells #[.bool (zs m), .slice g2 (tln m.natAbs) d2] 65)) = x4 at hL0 hS
 have hN0 := cells_of _ 0 [] rfl (hL0.get _ _ List.mem_cons_self)
 simp only [cellsF, and_true, Nat.zero_add, Nat.reduceAdd] at hN0
 have hN1 := cells_of _ 0 [] rfl (hL0.get _ _ (List.mem_cons_of_mem _ (List.mem_cons_of_mem _ (List.mem_cons_of_mem _ (List.mem_cons_of_mem _ (List.mem_cons_of_mem _ List.mem_cons_self))))))
 simp only [cellsF, and_true, Nat.zero_add, Nat.reduceAdd] at hN1
 go_wp2_with fail
 clear hN0 hN1
 with_reducible refine Calls.mono (HG.out (.agg #[.bool (zs y), .slice a1 (tln y.natAbs) c1]) (.agg #[.bool (zs m), .slice g2 (tln m.natAbs) d2]) _ (rz_of (Sl.below f1.out hL0.bl)) (rz_of (hS.get List.mem_cons_self))) ?_
 rintro e x5 ⟨v0, v1, v2, rfl, q0, q1, q2, hb⟩
 replace hL0 := hL0.call hb
 replace hS := hS.call hb
 clear hb hweq
 obtain ⟨g3, d3, rfl⟩ := rz_form q0
 replace hS := hS.cons (rz_rn q0)
 clear q0
 obtain ⟨g4, d4, rfl⟩ := rz_form q1
 replace hS := hS.cons (rz_rn q1)
 clear q1
 obtain ⟨g5, d5, rfl⟩ := rz_form q2
 replace hS := hS.cons (rz_rn q2)
 clear q2
 replace hS := (((hS.new (.cells #[.bool (zs g), .slice g3 (tln g.natAbs) d3] 65)).new (.cells #[.bool (zs u), .slice g4 (tln u.natAbs) d4] 65)).new (.cells #[.bool (zs v), .slice g5 (tln v.natAbs) d5] 65))
 replace hL0 := (((hL0.new rfl [.bool (zs g), .slice g3 (tln g.natAbs) d3] 65).new (K := x5.heap.size + 1) (szA _ _) [.bool (zs u), .slice g4 (tln u.natAbs) d4] 65).new (K := x5.heap.size + 1 + 1) (by simp only [World.size_alloc]) [.bool (zs v), .slice g5 (tln v.natAbs) d5] 65)
 generalize hweq : (((x5.alloc (.cells #[.bool (zs g), .slice g3 (tln g.natAbs) d3] 65)).alloc (.cells #[.bool (zs u), .slice g4 (tln u.natAbs) d4] 65)).alloc (.cells #[.bool (zs v), .slice g5 (tln v.natAbs) d5] 65)) = x6 at hL0 hS
 go_upto_region 5 with fail
 clear hweq
 refine region_tbl 7 1 [EV (.agg #[.bool (zs g), .slice g3 (tln g.natAbs) d3]), EV (.agg #[.bool (zs v), .slice g5 (tln v.natAbs) d5]), EV (.agg #[.bool (zs u), .slice g4 (tln u.natAbs) d4]), EV (.agg #[.bool (zs q), .slice g1 (tln q.natAbs) d1]), EV (.agg #[.bool (zs v), .slice g5 (tln v.natAbs) d5]), PZ p, PZ s] [] (by kernel_rfl) (by kernel_rfl) ?_ ?_ ?_ ?_ ?_ (by rfl) ?_
 ·exact stays_cons (stays_eq _) (stays_cons (stays_eq _) (stays_cons (stays_eq _) (stays_cons (stays_eq _) (stays_cons (stays_eq _) (stays_cons (stays_rz _) (stays_cons (stays_rz _) (stays_nil)))))))
 ·simp only [List.take_succ_cons, List.take_zero, hopsR, and_true]
  refine ⟨?_, ?_, ?_, ?_, ?_, ?_, ?_⟩ <;> intro fv w1 hb1 hp
  all_goals (simp only [putsV, Act.put, List.setIfInBounds_toArray, List.set_cons_succ, List.set_cons_zero, Nat.zero_add, Nat.reduceAdd])
  ·refine tyAt_none rfl ?_
   have hc := (hL0.call (below_drew hb1)).fc
   simp only [fcG, cellsF, neK, and_true, ne_eq, Nat.zero_add, Nat.reduceAdd] at hc
   simp [tyUpon, execOp, go_sem, Act.eval, hc, Below.refl]
  ·refine tyAt_none rfl ?_
   have hc := (hL0.call (below_drew hb1)).fc
   simp only [fcG, cellsF, neK, and_true, ne_eq, Nat.zero_add, Nat.reduceAdd] at hc
   simp [tyUpon, execOp, go_sem, Act.eval, hc, Below.refl]
  ·refine tyAt_none rfl ?_
   have hc := (hL0.call (below_drew hb1)).fc
   simp only [fcG, cellsF, neK, and_true, ne_eq, Nat.zero_add, Nat.reduceAdd] at hc
   simp [tyUpon, execOp, go_sem, Act.eval, hc, Below.refl]
  ·refine tyAt_none rfl ?_
   have hc := (hL0.call (below_drew hb1)).fc
   simp only [fcG, cellsF, neK, and_true, ne_eq, Nat.zero_add, Nat.reduceAdd] at hc
   simp [tyUpon, execOp, go_sem, Act.eval, hc, Below.refl]
  ·refine tyAt_none rfl ?_
   have hc := (hL0.call (below_drew hb1)).fc
   simp only [fcG, cellsF, neK, and_true, ne_eq, Nat.zero_add, Nat.reduceAdd] at hc
   simp [tyUpon, execOp, go_sem, Act.eval, hc, Below.refl]
  ·have h3 : EV _ (fv 3) w1 := hp 3 (LC (by kernel_rfl))
   have h4 : EV _ (fv 4) w1 := hp 4 (LC (by kernel_rfl))
   refine tyAt_none rfl ?_
   refine ty_call (f := 64) (args := #[.agg #[.bool (zs q), .slice g1 (tln q.natAbs) d1], .agg #[.bool (zs v), .slice g5 (tln v.natAbs) d5]]) (by simp [execOp, go_sem, Act.eval, h3, h4]) ?_
   exact (HM.out (.agg #[.bool (zs q), .slice g1 (tln q.natAbs) d1]) (.agg #[.bool (zs v), .slice g5 (tln v.natAbs) d5]) w1 (rz_of (Sl.below (hS.get (List.mem_cons_of_mem _ (List.mem_cons_of_mem _ (List.mem_cons_of_mem _ (List.mem_cons_of_mem _ List.mem_cons_self))))) (below_drew hb1))) (rz_of (Sl.below (hS.get List.mem_cons_self) (below_drew hb1)))).mono fun e w2 ⟨pv, h1, h2, h3⟩ => ⟨pv, h1, h2, h3⟩
  ·have h2 : EV _ (fv 2) w1 := hp 2 (LC (by kernel_rfl))
   have h5 : PZ _ (fv 5) w1 := hp 5 (LC (by kernel_rfl))
   refine tyAt_none rfl ?_
   refine ty_call (f := 63) (args := #[.agg #[.bool (zs u), .slice g4 (tln u.natAbs) d4], fv 5]) (by simp [execOp, go_sem, Act.eval, h2]) ?_
   exact (HB.out (.agg #[.bool (zs u), .slice g4 (tln u.natAbs) d4]) (fv 5) w1 (rz_of (Sl.below (hS.get (List.mem_cons_of_mem _ List.mem_cons_self)) (below_drew hb1))) h5).mono fun e w2 ⟨pv, h1, h2, h3⟩ => ⟨pv, h1, h2, h3⟩
 ·intro j hj; simp at hj
 ·trivial
 ·intro fv wl hb1 hv
  have e0 : fv 0 = .agg #[.bool (zs g), .slice g3 (tln g.natAbs) d3] := hv 0 (by omega) (by omega)
  have e2 : fv 2 = .agg #[.bool (zs u), .slice g4 (tln u.natAbs) d4] := hv 2 (by omega) (by omega)
  have e3 : fv 3 = .agg #[.bool (zs q), .slice g1 (tln q.natAbs) d1] := hv 3 (by omega) (by omega)
  have e4 : fv 4 = .agg #[.bool (zs v), .slice g5 (tln v.natAbs) d5] := hv 4 (by omega) (by omega)
  obtain ⟨lg5, ld5, e5⟩ := rz_form (show RZ wl (fv 5) p from hv 5 (by omega) (by omega))
  obtain ⟨lg6, ld6, e6⟩ := rz_form (show RZ wl (fv 6) s from hv 6 (by omega) (by omega))
  have hx0 := hL0
  replace hL0 := hL0.call (below_drew hb1)
  have hA := hL0.fc
  simp only [fcG, cellsF, neK, and_true, ne_eq, Nat.zero_add, Nat.reduceAdd] at hA
  have hP := hL0.put 7 (w.heap.size + 1 + 1) _ rfl [.bool (zs g), .slice g3 (tln g.natAbs) d3] rfl
  simp only [setAll, List.set_cons_zero, List.set_cons_succ] at hP
  have hB1 := hP.fc
  simp only [fcG, cellsF, neK, and_true, ne_eq, Nat.zero_add, Nat.reduceAdd] at hB1
  refine ⟨((wl.setCell ⟨w.heap.size + 1 + 1, 0, none⟩ (.bool (zs g))).setCell ⟨w.heap.size + 1 + 1, 1, none⟩ (.slice g3 (tln g.natAbs) d3)), .agg #[.bool (zs v), .slice g5 (tln v.natAbs) d5], fun o ho => ?_, fun o ho => ?_, ?_⟩
  ·obtain rfl := Option.some.inj ho
   simp [execOp, go_sem, Act.eval, putsV, Act.put, List.take_succ_cons, List.take_zero, List.setIfInBounds_toArray, List.set_cons_succ, List.set_cons_zero, Nat.zero_add, Nat.reduceAdd, hA, e0, e2, e3, e4, e5, e6]
  ·obtain rfl := Option.some.inj ho
   simp [execOp, go_sem, Act.eval, putsV, Act.put, List.take_succ_cons, List.take_zero, List.setIfInBounds_toArray, List.set_cons_succ, List.set_cons_zero, Nat.zero_add, Nat.reduceAdd, hB1, e0, e2, e3, e4, e5, e6]
  ·rfl
 ·intro fv x7 hb1 hv hne
  have e0 : fv 0 = _ := hv 0 (by omega)
  have e1 : fv 1 = _ := hv 1 (by omega)
  have e2 : fv 2 = _ := hv 2 (by omega)
  have e3 : fv 3 = _ := hv 3 (by omega)
  have e4 : fv 4 = _ := hv 4 (by omega)
  have q5 : RZ x7 (fv 5) p := hv 5 (by omega)
  obtain ⟨g6, d6, e5⟩ := rz_form q5
  rw [e5] at q5
  have q6 : RZ x7 (fv 6) s := hv 6 (by omega)
  obtain ⟨g7, d7, e6⟩ := rz_form q6
  rw [e6] at q6
  simp only [List.take_succ_cons, List.take_zero, putsV, Act.put, List.setIfInBounds_toArray, List.set_cons_succ, List.set_cons_zero, List.drop_succ_cons, List.drop_zero, Nat.zero_add, Nat.reduceAdd, e0, e1, e2, e3, e4, e5, e6]
  replace hL0 := hL0.call (below_drew hb1)
  replace hS := hS.call (below_drew hb1)
  replace hS := hS.cons (rz_rn q5)
  replace hS := hS.cons (rz_rn q6)
  clear e0 e1 e2 e3 e4 e5 e6 hb1 hv hne q5 q6 fv
  have hS1 := hS.put (((Upd.refl (w.heap.size + 1 + 1) x7).setCell 0 (.bool (zs g))).setCell 1 (.slice g3 (tln g.natAbs) d3)) (hL0.get _ _ (List.mem_cons_of_mem _ (List.mem_cons_of_mem _ (List.mem_cons_of_mem _ (List.mem_cons_of_mem _ (List.mem_cons_of_mem _ (List.mem_cons_of_mem _ (List.mem_cons_of_mem _ List.mem_cons_self)))))))) (by intro v hv n; simp only [List.mem_cons, List.not_mem_nil, or_false] at hv; rcases hv with rfl | rfl <;> simp)
  have hA := hL0.fc
  simp only [fcG, cellsF, neK, and_true, ne_eq, Nat.zero_add, Nat.reduceAdd] at hA
  have hP := hL0.put 7 (w.heap.size + 1 + 1) _ rfl [.bool (zs g), .slice g3 (tln g.natAbs) d3] rfl
  simp only [setAll, List.set_cons_zero, List.set_cons_succ] at hP
  generalize hput1 : ((x7.setCell ⟨w.heap.size + 1 + 1, 0, none⟩ (.bool (zs g))).setCell ⟨w.heap.size + 1 + 1, 1, none⟩ (.slice g3 (tln g.natAbs) d3)) = x8 at hP hS1
  have hB1 := hP.fc
  simp only [fcG, cellsF, neK, and_true, ne_eq, Nat.zero_add, Nat.reduceAdd] at hB1
  replace hL0 := hP
  replace hS := hS1
  clear hS1
  have hS1 := hS.put (((Upd.refl (w.heap.size + 1 + 1 + 1) x8).setCell 0 (.bool (zs v))).setCell 1 (.slice g5 (tln v.natAbs) d5)) (hL0.get _ _ (List.mem_cons_of_mem _ (List.mem_cons_of_mem _ (List.mem_cons_of_mem _ (List.mem_cons_of_mem _ (List.mem_cons_of_mem _ (List.mem_cons_of_mem _ List.mem_cons_self))))))) (by intro v hv n; simp only [List.mem_cons, List.not_mem_nil, or_false] at hv; rcases hv with rfl | rfl <;> simp)
  have hP := hL0.put 6 (w.heap.size + 1 + 1 + 1) _ rfl [.bool (zs v), .slice g5 (tln v.natAbs) d5] rfl
  simp only [setAll, List.set_cons_zero, List.set_cons_succ] at hP
  generalize hput2 : ((x8.setCell ⟨w.heap.size + 1 + 1 + 1, 0, none⟩ (.bool (zs v))).setCell ⟨w.heap.size + 1 + 1 + 1, 1, none⟩ (.slice g5 (tln v.natAbs) d5)) = x9 at hP hS1
  have hB2 := hP.fc
  simp only [fcG, cellsF, neK, and_true, ne_eq, Nat.zero_add, Nat.reduceAdd] at hB2
  replace hL0 := hP
  replace hS := hS1
  clear hS1
  have hS1 := hS.put (((Upd.refl (w.heap.size + 1 + 1 + 1 + 1) x9).setCell 0 (.bool (zs s))).setCell 1 (.slice g7 (tln s.natAbs) d7)) (hL0.get _ _ (List.mem_cons_of_mem _ (List.mem_cons_of_mem _ (List.mem_cons_of_mem _ (List.mem_cons_of_mem _ (List.mem_cons_of_mem _ List.mem_cons_self)))))) (by intro v hv n; simp only [List.mem_cons, List.not_mem_nil, or_false] at hv; rcases hv with rfl | rfl <;> simp)
  have hP := hL0.put 5 (w.heap.size + 1 + 1 + 1 + 1) _ rfl [.bool (zs s), .slice g7 (tln s.natAbs) d7] rfl
  simp only [setAll, List.set_cons_zero, List.set_cons_succ] at hP
  generalize hput3 : ((x9.setCell ⟨w.heap.size + 1 + 1 + 1 + 1, 0, none⟩ (.bool (zs s))).setCell ⟨w.heap.size + 1 + 1 + 1 + 1, 1, none⟩ (.slice g7 (tln s.natAbs) d7)) = x10 at hP hS1
  have hB3 := hP.fc
  simp only [fcG, cellsF, neK, and_true, ne_eq, Nat.zero_add, Nat.reduceAdd] at hB3
  replace hL0 := hP
  replace hS := hS1
  clear hS1
  go_wp2_with fail
  exact bodyPost_ret (v := .tuple #[.agg #[.bool (zs g), .slice g3 (tln g.natAbs) d3], .agg #[.bool (zs v), .slice g5 (tln v.natAbs) d5], .agg #[.bool (zs s), .slice g7 (tln s.natAbs) d7]]) (by simp [results, Tryd.results37, go_sem, hB3]) rfl ⟨_, _, _, rfl, (rz_of (hS.get (List.mem_cons_of_mem _ (List.mem_cons_of_mem _ (List.mem_cons_of_mem _ (List.mem_cons_of_mem _ List.mem_cons_self)))))), (rz_of (hS.get (List.mem_cons_of_mem _ (List.mem_cons_of_mem _ List.mem_cons_self)))), (rz_of (hS.get List.mem_cons_self)), hL0.bl⟩
end Go.Proofs.YtfmakoiiibacjaaDoor
namespace Go.Proofs.YtfmakoiiibacjaaDoor
open Go.RowKit
attribute [local irreducible] lo hs sm s64 c64 d64 b64 mh ml pd pc qd qc val hiB str cmpI srD lz nb isq zl zh zs dval
theorem GI.run {a b : Int} : ∀ (n : Nat) (G X N Y : Int), N.natAbs ≤ n → GI a b G X N Y → ∃ G X Y, GI a b G X 0 Y := by
  intro n
  induction n with
  | zero => intro G X N Y h hG; obtain rfl : N = 0 := by omega
            exact ⟨_, _, _, hG⟩
  | succ n ih =>
    intro G X N Y h hG
    by_cases hN : N = 0
    · subst hN; exact ⟨_, _, _, hG⟩
    · have h1 := Int.emod_lt G hN
      have h2 := Int.emod_nonneg G hN
      exact ih _ _ _ _ (by omega) (hG.next hN)
theorem xgcd_dI {a b : Int} {k : Nat} (ha : dI a ≤ k) (hb : dI b ≤ k) : dI (xgcd a b).1 ≤ 1 + k ∧ dI (xgcd a b).2.1 ≤ 1 + (k + 1) ∧ dI (xgcd a b).2.2 ≤ 2 * k + 4 := by
 obtain ⟨G, X, Y, h⟩ := GI.run _ a 1 b 0 (Nat.le_refl _) (GI.start a b)
 obtain ⟨b1, b2, b3, -⟩ := h.bounds ha hb
 obtain ⟨l1, l2⟩ := h.last
 have hs1 : dI (sgn G) ≤ 1 := digs_length_iff.2 (by have : (sgn G).natAbs ≤ 1 := (by unfold sgn; split <;> (try split) <;> omega); unfold Bs; omega)
 have q1 : dI (xgcd a b).1 ≤ 1 + k := by rw [l1]; exact dI_mul hs1 b1
 have q2 : dI (xgcd a b).2.1 ≤ 1 + (k + 1) := by rw [l2]; exact dI_mul hs1 b3
 refine ⟨q1, q2, ?_⟩
 by_cases h0 : b = 0
 ·subst h0; rw [xgcd_zero]; exact Nat.le_trans (show dI (0 : Int) ≤ 1 from dI_lit (by decide)) (by omega)
 ·rw [← xgcd_y h0]
  refine Nat.le_trans (dI_mono (Int.natAbs_ediv_le_natAbs _ _)) ?_
  have q3 : dI (a * (xgcd a b).2.1) ≤ k + (1 + (k + 1)) := dI_mul ha q2
  exact Nat.le_trans (dI_sub (k := 2 * k + 2) (by omega) (by omega)) (by omega)
end Go.Proofs.YtfmakoiiibacjaaDoor
namespace Go.Proofs.YtfmakoiiibacjaaDoor
open Go.RowKit Go.Proofs.YtfmakoiiibacjaaDoor.Rx
attribute [local irreducible] lo hs sm s64 c64 d64 b64 mh ml pd pc qd qc val hiB str cmpI srD lz nb isq zl zh dval
theorem rzcmpI (x y : Int) (lx : (Rx.td x.natAbs).length ≤ 1000) (ly : (Rx.td y.natAbs).length ≤ 1000) (v1 v2 : Value) (w : World) (h1 : RZ w v1 x) (h2 : RZ w v2 y) :
  Calls Tryd.prog 39 #[v1, v2] w fun e w' => e = .returned (.int .i64 (sgn (x - y))) ∧ Below w.heap.size w w' :=
 rzcmp_w x y (x - y) _ (fun a b w ha hb => rzsubI a b x y (by omega) (by omega) w ha hb) (rzsignI _) v1 v2 w h1 h2
theorem rzof_sgn (z : Int) (w : World) : Calls Tryd.prog 38 #[.int .i64 (sgn z)] w fun e w' => ∃ v, e = .returned v ∧ RZ w' v (sgn z) ∧ Below w.heap.size w w' := by
 unfold sgn
 split
 ·exact rzof_neg (-1) 0 0 0 1 (-1) 1 one_r (rz_from true 1 (-1) rfl rfl) (by decide) (by decide) (by decide) (by decide) (by decide) w
 ·split
  ·exact rzof_pos 0 0 0 0 (fun w => rof_val 0 0 rfl (by omega) w) (rz_from false 0 0 rfl rfl) (by decide) (by decide) w
  ·exact rzof_one w
theorem rzof_zero (w : World) : Calls Tryd.prog 38 #[.int .i64 0] w fun e w' => ∃ v, e = .returned v ∧ RZ w' v 0 ∧ Below w.heap.size w w' := rzof_pos 0 0 0 0 (fun w => rof_val 0 0 rfl (by omega) w) (rz_from false 0 0 rfl rfl) (by decide) (by decide) w
theorem dI_le {a b : Int} {k : Nat} (h : a.natAbs ≤ b.natAbs) (hb : dI b ≤ k) : dI a ≤ k := digs_length_iff.2 (Nat.lt_of_le_of_lt h (digs_length_iff.1 hb))
theorem dI_td {a : Int} {k : Nat} (h : dI a ≤ k) : (Rx.td a.natAbs).length ≤ 5 * k := td_of_digs h
theorem rzgcd_any {k : Nat} (hk : k ≤ 90) : ∀ (n : Nat) (x y : Int), y.natAbs ≤ n → dI x ≤ k → dI y ≤ k → ∀ (v1 v2 : Value) (w : World), RZ w v1 x → RZ w v2 y →
  Calls Tryd.prog 37 #[v1, v2] w fun e w' => ∃ a b c, e = .returned (.tuple #[a, b, c]) ∧ RZ w' a (xgcd x y).1 ∧ RZ w' b (xgcd x y).2.1 ∧ RZ w' c (xgcd x y).2.2 ∧ Below w.heap.size w w' := by
 intro n
 induction n with
 | zero =>
  intro x y hy lx ly v1 v2 w h1 h2
  obtain rfl : y = 0 := by omega
  rw [xgcd_zero]
  exact rzgcd_zero x 0 _ _ 0 (sgn x) (rzsignI 0) (rzsignI x) (rz_from false _ _ (by simp) (by simp)) (rzof_sgn x) rzof_zero v1 v2 w h1 h2
 | succ n ih =>
  intro x y hy lx ly v1 v2 w h1 h2
  by_cases h0 : y = 0
  ·subst h0
   rw [xgcd_zero]
   exact rzgcd_zero x 0 _ _ 0 (sgn x) (rzsignI 0) (rzsignI x) (rz_from false _ _ (by simp) (by simp)) (rzof_sgn x) rzof_zero v1 v2 w h1 h2
  ·have g1 := Int.emod_lt x h0
   have g2 := Int.emod_nonneg x h0
   have lm : dI (x % y) ≤ k := dI_le (by omega) ly
   have hI := ih y (x % y) (by omega) ly lm
   obtain ⟨-, b1, b2⟩ := xgcd_dI ly lm
   have l1 := dI_td b1
   have l2 := dI_td b2
   have lq : (Rx.td (x / y).natAbs).length ≤ 5 * k := dI_td (dI_le (Int.natAbs_ediv_le_natAbs x y) lx)
   have lp : (Rx.td (x / y * (xgcd y (x % y)).2.2).natAbs).length ≤ 5 * k + 5 * (2 * k + 4) := by rw [Int.natAbs_mul]; exact td_mul_le lq l2
   have tx := dI_td lx
   have ty := dI_td ly
   have hs : (sgn y == 0) = false := beq_eq_false_iff_ne.2 (by unfold sgn; split <;> (try split) <;> omega)
   rw [xgcd_step h0]
   exact rzgcd_step x y (sgn y) (x / y) (x % y) _ _ _ _ _ (rzsignI y) (rzdivI x y h0 (by omega) (by omega)) hI (fun a b w ha hb => rzmulI a b _ _ (by omega) (by omega) w ha hb) (fun a b w ha hb => rzsubI a b _ _ (by omega) (by omega) w ha hb) hs v1 v2 w h1 h2
end Go.Proofs.YtfmakoiiibacjaaDoor
namespace Go.Proofs.YtfmakoiiibacjaaDoor
open Go.RowKit Go.Proofs.YtfmakoiiibacjaaDoor.Rx
attribute [local irreducible] lo hs sm s64 c64 d64 b64 mh ml pd pc qd qc val hiB str cmpI srD lz nb isq zl zh zs dval tln rsd
theorem rn_open {w : World} {ao : Option Addr} {c n : Nat} (h : Rn w (.slice ao (tln n) c) n) : 0 < tln n → ∃ a, ao = some a ∧ Sd w a (td n) := by
 intro h0
 obtain ⟨bo, d, e, hv⟩ := Sl.view (show Sl w (.slice ao (tln n) c) (td n) from h)
 have e1 : (td n).length = tln n := by unfold tln; rfl
 obtain ⟨a, h1, -, h2⟩ := hv (by omega)
 simp only [Value.slice.injEq] at e
 exact ⟨a, e.1.trans h1, h2⟩
theorem tv_drop {D : List Nat} {i : Nat} (h : i < D.length) : tv (D.drop i) = tv (D.drop (i + 1)) * 10000 + D[i] := by
 rw [List.drop_eq_getElem_cons h]
 show D[i] + 10000 * tv (D.drop (i + 1)) = _
 omega
theorem tv_drop_le (D : List Nat) : ∀ i, tv (D.drop i) ≤ tv D := by
 intro i
 induction i with
 | zero => rw [List.drop_zero]; exact Nat.le_refl _
 | succ i ih =>
  rcases Nat.lt_or_ge i D.length with h | h
  ·have := tv_drop h; omega
  ·rw [List.drop_eq_nil_of_le (by omega)]; exact Nat.zero_le _
set_option maxHeartbeats 4000000 in
set_option maxRecDepth 100000 in
theorem rofint0_w (x : Int) (p0 : Value) (w : World) (r0 : RZ w p0 x) :
  Calls Tryd.prog 40 #[p0, .int .u32 0] w fun e w' => e = .returned (.int .u32 0) ∧ Below w.heap.size w w' := by
 obtain ⟨a0, c0, rfl⟩ := rz_form r0
 have f0 := Lib.hid (rz_rn r0)
 clear r0
 have hL0 : GL w w [] := GL.start w
 have hS : SS w [] := SS.nil w
 replace hS := (hS.new (.cells #[.bool (zs x), .slice a0 (tln x.natAbs) c0] 65))
 replace hL0 := (hL0.new rfl [.bool (zs x), .slice a0 (tln x.natAbs) c0] 65)
 generalize hweq : (w.alloc (.cells #[.bool (zs x), .slice a0 (tln x.natAbs) c0] 65)) = x1 at hL0 hS
 go_enter Tryd.func40, Tryd.ntmps40
 go_wp2_with fail
 exact bodyPost_ret (v := .int .u32 0) (by simp [results, Tryd.results40, go_sem]) rfl ⟨rfl, hL0.bl⟩
set_option maxHeartbeats 4000000 in
set_option maxRecDepth 100000 in
theorem rofint_w (x q m p : Int) (HO : ∀ (w : World), Calls Tryd.prog 38 #[.int .i64 p] w fun e w' => ∃ pv, e = .returned pv ∧ RZ w' pv p ∧ Below w.heap.size w w') (HD : ∀ (p0 p1 : Value) (w : World), RZ w p0 x → RZ w p1 p → Calls Tryd.prog 62 #[p0, p1] w fun e w' => ∃ v0 v1, e = .returned (.tuple #[v0, v1]) ∧ RZ w' v0 q ∧ RZ w' v1 m ∧ Below w.heap.size w w') (hp0 : (p == 0) = false) (hw : IntKind.i64.wrap p = p) (hm : m.natAbs < 4294967296) (hl : tln m.natAbs ≤ 1000) (p0 : Value) (w : World) (r0 : RZ w p0 x) :
  Calls Tryd.prog 40 #[p0, .int .u32 p] w fun e w' => e = .returned (.int .u32 ((m.natAbs : Nat) : Int)) ∧ Below w.heap.size w w' := by
 obtain ⟨a0, c0, rfl⟩ := rz_form r0
 have f0 := Lib.hid (rz_rn r0)
 clear r0
 replace HO := Lib.hid HO
 replace HD := Lib.hid HD
 have hL0 : GL w w [] := GL.start w
 have hS : SS w [] := SS.nil w
 replace hS := (hS.new (.cells #[.bool (zs x), .slice a0 (tln x.natAbs) c0] 65))
 replace hL0 := (hL0.new rfl [.bool (zs x), .slice a0 (tln x.natAbs) c0] 65)
 generalize hweq : (w.alloc (.cells #[.bool (zs x), .slice a0 (tln x.natAbs) c0] 65)) = x1 at hL0 hS
 go_enter Tryd.func40, Tryd.ntmps40
 go_upto_region 3 with fail
 clear hweq
 refine region_tbl 10 7 [EV (.agg #[.bool (zs x), .slice a0 (tln x.natAbs) c0]), EV (.int .u32 p), EV (.int .i64 p), PZ p, fun pu pw => ∃ pa pb, pu = .tuple #[pa, pb] ∧ RZ pw pa q ∧ RZ pw pb m, fun pu pw => ∃ pa pb, pu = .tuple #[pa, pb] ∧ RZ pw pa q ∧ RZ pw pb m, PZ q, PZ m, NewB x1.heap.size [.bool false, .slice none 0 0], NewB x1.heap.size [.bool false, .slice none 0 0]] [8, 9] (by kernel_rfl) (by kernel_rfl) ?_ ?_ ?_ ?_ ?_ (by rfl) ?_
 ·exact stays_cons (stays_eq _) (stays_cons (stays_eq _) (stays_cons (stays_eq _) (stays_cons (stays_rz _) (stays_cons (stays_rz2 _ _) (stays_cons (stays_rz2 _ _) (stays_cons (stays_rz _) (stays_cons (stays_rz _) (stays_cons (stays_new _ _) (stays_cons (stays_new _ _) (stays_nil))))))))))
 ·simp only [List.take_succ_cons, List.take_zero, hopsR, and_true]
  refine ⟨?_, ?_, ?_, ?_, ?_, ?_, ?_, ?_, ?_, ?_⟩ <;> intro fv w1 hb1 hp
  all_goals (simp only [putsV, Act.put, List.setIfInBounds_toArray, List.set_cons_succ, List.set_cons_zero, Nat.zero_add, Nat.reduceAdd])
  ·refine tyAt_none rfl ?_
   have hc := (hL0.call (below_drew hb1)).fc
   simp only [fcG, cellsF, neK, and_true, ne_eq, Nat.zero_add, Nat.reduceAdd] at hc
   simp [tyUpon, execOp, go_sem, Act.eval, hc, hw, Below.refl]
  ·refine tyAt_none rfl ?_
   simp [tyUpon, execOp, go_sem, Act.eval, hw, Below.refl]
  ·have h1 : EV _ (fv 1) w1 := hp 1 (LC (by kernel_rfl))
   refine tyAt_none rfl ?_
   simp [tyUpon, execOp, go_sem, Act.eval, h1, hw, Below.refl]
  ·have h2 : EV _ (fv 2) w1 := hp 2 (LC (by kernel_rfl))
   refine tyAt_none rfl ?_
   refine ty_call (f := 38) (args := #[.int .i64 p]) (by simp [execOp, go_sem, Act.eval, h2]) ?_
   exact (HO.out w1).mono fun e w2 ⟨pv, h1, h2, h3⟩ => ⟨pv, h1, h2, h3⟩
  ·have h0 : EV _ (fv 0) w1 := hp 0 (LC (by kernel_rfl))
   have h3 : PZ _ (fv 3) w1 := hp 3 (LC (by kernel_rfl))
   refine tyAt_none rfl ?_
   refine ty_call (f := 62) (args := #[.agg #[.bool (zs x), .slice a0 (tln x.natAbs) c0], fv 3]) (by simp [execOp, go_sem, Act.eval, h0]) ?_
   exact (HD.out (.agg #[.bool (zs x), .slice a0 (tln x.natAbs) c0]) (fv 3) w1 (rz_of (Sl.below (Sl.below f0.out hL0.bl) (below_drew hb1))) h3).mono fun e w2 ⟨pa, pb, h1, h2, h3, h4⟩ => ⟨_, h1, ⟨pa, pb, rfl, h2, h3⟩, h4⟩
  ·have h4 : (fun pu pw => ∃ pa pb, pu = .tuple #[pa, pb] ∧ RZ pw pa q ∧ RZ pw pb m) (fv 4) w1 := hp 4 (LC (by kernel_rfl))
   refine tyAt_none rfl ?_
   obtain ⟨pa, pb, pe, pz1, pz2⟩ := h4
   simp [tyUpon, execOp, go_sem, Act.eval, pe, Below.refl]
   first | exact ⟨pz1, pz2⟩ | exact ⟨_, _, ⟨rfl, rfl⟩, pz1, pz2⟩ | exact ⟨_, _, rfl, pz1, pz2⟩
  ·have h5 : (fun pu pw => ∃ pa pb, pu = .tuple #[pa, pb] ∧ RZ pw pa q ∧ RZ pw pb m) (fv 5) w1 := hp 5 (LC (by kernel_rfl))
   refine tyAt_none rfl ?_
   obtain ⟨pa, pb, pe, pz0, pz1⟩ := h5
   simp [tyUpon, execOp, go_sem, Act.eval, pe, Below.refl]
   exact pz0
  ·have h5 : (fun pu pw => ∃ pa pb, pu = .tuple #[pa, pb] ∧ RZ pw pa q ∧ RZ pw pb m) (fv 5) w1 := hp 5 (LC (by kernel_rfl))
   refine tyAt_none rfl ?_
   obtain ⟨pa, pb, pe, pz0, pz1⟩ := h5
   simp [tyUpon, execOp, go_sem, Act.eval, pe, Below.refl]
   exact pz1
  ·exact tyAt_new rfl rfl new_rz (below_drew hb1).size
  ·exact tyAt_new rfl rfl new_rz (below_drew hb1).size
 ·intro j hj u w2 hT
  simp only [List.contains_iff_mem, List.mem_cons, List.not_mem_nil, or_false] at hj
  rcases hj with rfl | rfl <;> exact NewB.ptr hT
 ·exact ⟨⟨_, _, _, _, rfl, rfl, rfl, new_rz⟩, ⟨_, _, _, _, rfl, rfl, rfl, new_rz⟩, trivial⟩
 ·intro fv wl hb1 hv
  have e0 : fv 0 = .agg #[.bool (zs x), .slice a0 (tln x.natAbs) c0] := hv 0 (by omega) (by omega)
  have e1 : fv 1 = .int .u32 p := hv 1 (by omega) (by omega)
  have e2 : fv 2 = .int .i64 p := hv 2 (by omega) (by omega)
  obtain ⟨lg3, ld3, e3⟩ := rz_form (show RZ wl (fv 3) p from hv 3 (by omega) (by omega))
  obtain ⟨pa4, pb4, e4, qa4, qb4⟩ := hv 4 (by omega) (by omega)
  obtain ⟨pa5, pb5, e5, qa5, qb5⟩ := hv 5 (by omega) (by omega)
  obtain ⟨lg6, ld6, e6⟩ := rz_form (show RZ wl (fv 6) q from hv 6 (by omega) (by omega))
  obtain ⟨kb8, e8, n8, m8⟩ : NewB x1.heap.size [.bool false, .slice none 0 0] (fv 8) wl := hv 8 (by omega) (by omega)
  obtain ⟨kb9, e9, n9, m9⟩ : NewB x1.heap.size [.bool false, .slice none 0 0] (fv 9) wl := hv 9 (by omega) (by omega)
  have hx0 := hL0
  replace hL0 := hL0.call (below_drew hb1)
  replace hL0 := GL.tnew (M := []) hL0 hx0 n8 m8 (fun p hp => by cases hp)
  simp only [List.cons_append, List.nil_append] at hL0
  have hA := hL0.fc
  simp only [fcG, cellsF, neK, and_true, ne_eq, Nat.zero_add, Nat.reduceAdd] at hA
  have hP := hL0.put 0 (kb8) _ rfl [.bool (zs q), .slice lg6 (tln q.natAbs) ld6] rfl
  simp only [setAll, List.set_cons_zero, List.set_cons_succ] at hP
  have hB1 := hP.fc
  simp only [fcG, cellsF, neK, and_true, ne_eq, Nat.zero_add, Nat.reduceAdd] at hB1
  refine ⟨((wl.setCell ⟨kb8, 0, none⟩ (.bool (zs q))).setCell ⟨kb8, 1, none⟩ (.slice lg6 (tln q.natAbs) ld6)), pb5, fun o ho => ?_, fun o ho => ?_, ?_⟩
  ·obtain rfl := Option.some.inj ho
   simp [execOp, go_sem, Act.eval, putsV, Act.put, List.take_succ_cons, List.take_zero, List.setIfInBounds_toArray, List.set_cons_succ, List.set_cons_zero, Nat.zero_add, Nat.reduceAdd, hA, e0, e1, e2, e3, e4, e5, e6, e8, e9]
  ·obtain rfl := Option.some.inj ho
   simp [execOp, go_sem, Act.eval, putsV, Act.put, List.take_succ_cons, List.take_zero, List.setIfInBounds_toArray, List.set_cons_succ, List.set_cons_zero, Nat.zero_add, Nat.reduceAdd, hB1, e0, e1, e2, e3, e4, e5, e6, e8, e9]
  ·exact qb5
 ·intro fv x2 hb1 hv hne
  have e0 : fv 0 = _ := hv 0 (by omega)
  have e1 : fv 1 = _ := hv 1 (by omega)
  have e2 : fv 2 = _ := hv 2 (by omega)
  have q3 : RZ x2 (fv 3) p := hv 3 (by omega)
  obtain ⟨g1, d1, e3⟩ := rz_form q3
  rw [e3] at q3
  obtain ⟨pa4, pb4, e4, q4, -⟩ := hv 4 (by omega)
  obtain ⟨pa5, pb5, e5, q5, -⟩ := hv 5 (by omega)
  have q6 : RZ x2 (fv 6) q := hv 6 (by omega)
  obtain ⟨g2, d2, e6⟩ := rz_form q6
  rw [e6] at q6
  have q7 : RZ x2 (fv 7) m := hv 7 (by omega)
  obtain ⟨g3, d3, e7⟩ := rz_form q7
  rw [e7] at q7
  obtain ⟨kb8, e8, n8, m8⟩ : NewB x1.heap.size [.bool false, .slice none 0 0] (fv 8) x2 := hv 8 (by omega)
  obtain ⟨kb9, e9, n9, m9⟩ : NewB x1.heap.size [.bool false, .slice none 0 0] (fv 9) x2 := hv 9 (by omega)
  simp only [List.take_succ_cons, List.take_zero, putsV, Act.put, List.setIfInBounds_toArray, List.set_cons_succ, List.set_cons_zero, List.drop_succ_cons, List.drop_zero, Nat.zero_add, Nat.reduceAdd, e0, e1, e2, e3, e4, e5, e6, e7, e8, e9]
  have hx0 := hL0
  replace hL0 := hL0.call (below_drew hb1)
  replace hS := hS.call (below_drew hb1)
  replace hL0 := GL.tnew (M := []) hL0 hx0 n8 m8 (fun p hp => by cases hp)
  replace hL0 := GL.tnew (M := [(kb8, [.bool false, .slice none 0 0])]) hL0 hx0 n9 m9 (by intro p hp; simp only [List.mem_cons, List.not_mem_nil, or_false] at hp; rcases hp with rfl; exact ptr_ne e8 e9 (hne 8 9 (by omega) (by omega) (by omega) rfl rfl))
  simp only [List.cons_append, List.nil_append] at hL0
  replace hS := hS.cons (rz_rn q3)
  replace hS := hS.cons (rz_rn q6)
  replace hS := hS.cons (rz_rn q7)
  clear e0 e1 e2 e3 e4 e5 e6 e7 e8 e9 hb1 hv hne hx0 n8 m8 n9 m9 q3 q4 q5 q6 q7 fv
  have hS1 := hS.put (((Upd.refl kb8 x2).setCell 0 (.bool (zs q))).setCell 1 (.slice g2 (tln q.natAbs) d2)) (hL0.get _ _ (List.mem_cons_of_mem _ List.mem_cons_self)) (by intro v hv n; simp only [List.mem_cons, List.not_mem_nil, or_false] at hv; rcases hv with rfl | rfl <;> simp)
  have hA := hL0.fc
  simp only [fcG, cellsF, neK, and_true, ne_eq, Nat.zero_add, Nat.reduceAdd] at hA
  have hP := hL0.put 1 (kb8) _ rfl [.bool (zs q), .slice g2 (tln q.natAbs) d2] rfl
  simp only [setAll, List.set_cons_zero, List.set_cons_succ] at hP
  generalize hput1 : ((x2.setCell ⟨kb8, 0, none⟩ (.bool (zs q))).setCell ⟨kb8, 1, none⟩ (.slice g2 (tln q.natAbs) d2)) = x3 at hP hS1
  have hB1 := hP.fc
  simp only [fcG, cellsF, neK, and_true, ne_eq, Nat.zero_add, Nat.reduceAdd] at hB1
  replace hL0 := hP
  replace hS := hS1
  clear hS1
  have hS1 := hS.put (((Upd.refl kb9 x3).setCell 0 (.bool (zs m))).setCell 1 (.slice g3 (tln m.natAbs) d3)) (hL0.get _ _ List.mem_cons_self) (by intro v hv n; simp only [List.mem_cons, List.not_mem_nil, or_false] at hv; rcases hv with rfl | rfl <;> simp)
  have hP := hL0.put 0 (kb9) _ rfl [.bool (zs m), .slice g3 (tln m.natAbs) d3] rfl
  simp only [setAll, List.set_cons_zero, List.set_cons_succ] at hP
  generalize hput2 : ((x3.setCell ⟨kb9, 0, none⟩ (.bool (zs m))).setCell ⟨kb9, 1, none⟩ (.slice g3 (tln m.natAbs) d3)) = x4 at hP hS1
  have hB2 := hP.fc
  simp only [fcG, cellsF, neK, and_true, ne_eq, Nat.zero_add, Nat.reduceAdd] at hB2
  replace hL0 := hP
  replace hS := hS1
  clear hS1
  have hR := rn_open (hS.get List.mem_cons_self)
  have hD := td_lt m.natAbs
  have hv := tv_td m.natAbs
  have hlen : (td m.natAbs).length = tln m.natAbs := by unfold tln; rfl
  have hle := tv_drop_le (td m.natAbs)
  generalize td m.natAbs = D at hR hD hv hlen hle
  replace hR := Lib.hid hR
  replace hD := Lib.hid hD
  replace hv := Lib.hid hv
  replace hlen := Lib.hid hlen
  replace hle := Lib.hid hle
  go_wp2_with fail
  go_loopw [7, 8] (fun nv iv wr => ∃ j : Nat, j ≤ tln m.natAbs ∧ iv = .int .i64 ((j : Int) - 1) ∧ nv = .int .u64 ((tv (D.drop j) : Nat) : Int) ∧ wr = x4) (fun _ iv _ => (intOf iv + 1).toNat)
  case atStart => exact ⟨tln m.natAbs, Nat.le_refl _, by first | rfl | go_num, by rw [List.drop_eq_nil_of_le (by rw [hlen.out]; exact Nat.le_refl _)]; rfl, rfl⟩
  case round =>
   obtain ⟨j, hj, rfl, rfl, rfl⟩ := hrel
   cases j with
   | zero =>
    rw [List.drop_zero, hv.out]
    have e2 : ((m.natAbs : Nat) : Int) % 4294967296 = ((m.natAbs : Nat) : Int) := by omega
    go_wp2_with fail
    go_ret
    exact ⟨rfl, hL0.bl⟩
   | succ i =>
    have hbl0 := hL0.bl
    obtain ⟨aA, rfl, sA⟩ := hR.out (by omega)
    have iA : i < D.length := by rw [hlen.out]; omega
    have cA := sA.cell i iA
    have hs := tv_drop iA
    have hb := hle.out i
    rw [hv.out] at hb
    generalize D[i] = x at cA hs
    generalize hy : tv (D.drop (i + 1)) = y at hs ⊢
    generalize hz : tv (D.drop i) = z at hs hb
    replace hy := Lib.hid hy
    replace hz := Lib.hid hz
    have e1 : (((i + 1 : Nat) : Int) - 1) = (i : Int) := by omega
    have hin : (i : Int) < ((tln m.natAbs : Nat) : Int) := by omega
    have q0 : (i : Int) ≤ 1000 := by omega
    have q1 : (y : Int) * 10000 = ((y * 10000 : Nat) : Int) := by omega
    have q2 : ((y * 10000 : Nat) : Int) % 18446744073709551616 = ((y * 10000 : Nat) : Int) := by omega
    have q3 : (x : Int) % 18446744073709551616 = (x : Int) := by omega
    have q4 : ((y * 10000 : Nat) : Int) + (x : Int) = (z : Int) := by omega
    have q5 : (z : Int) % 18446744073709551616 = (z : Int) := by omega
    generalize y * 10000 = yy at *
    replace hs := Lib.hid hs
    clear sA
    rw [e1]
    go_wp2_with fail
    go_roundw
    case rel => exact ⟨i, by omega, by first | rfl | go_num, by rw [hz.out], by first | rfl | trivial⟩
    case measure => simp [intOf]
set_option maxHeartbeats 4000000 in
set_option maxRecDepth 100000 in
theorem rinv0_w (a : Int) (w : World) :
  Calls Tryd.prog 14 #[.int .u32 a, .int .u32 0] w fun e w' => e = .returned (.tuple #[.int .u32 0, .bool false]) ∧ Below w.heap.size w w' := by
 have hL0 : GL w w [] := GL.start w
 have hS : SS w [] := SS.nil w
 go_enter Tryd.func14, Tryd.ntmps14
 go_wp2_with fail
 exact bodyPost_ret (v := .tuple #[.int .u32 0, .bool false]) (by simp [results, Tryd.results14, go_sem]) rfl ⟨rfl, hL0.bl⟩
set_option maxHeartbeats 4000000 in
set_option maxRecDepth 100000 in
theorem rinv1_w (a : Int) (w : World) :
  Calls Tryd.prog 14 #[.int .u32 a, .int .u32 1] w fun e w' => e = .returned (.tuple #[.int .u32 0, .bool true]) ∧ Below w.heap.size w w' := by
 have hL0 : GL w w [] := GL.start w
 have hS : SS w [] := SS.nil w
 go_enter Tryd.func14, Tryd.ntmps14
 go_wp2_with fail
 exact bodyPost_ret (v := .tuple #[.int .u32 0, .bool true]) (by simp [results, Tryd.results14, go_sem]) rfl ⟨rfl, hL0.bl⟩
set_option maxHeartbeats 4000000 in
set_option maxRecDepth 100000 in
theorem rinv_no (a p r g x y c : Int) (H0 : ∀ w, Calls Tryd.prog 16 #[.int .u64 a, .int .u32 p] w fun xe w' => xe = .returned (.int .u32 r) ∧ Below w.heap.size w w') (HO : ∀ (w : World), Calls Tryd.prog 38 #[.int .i64 r] w fun e w' => ∃ pv, e = .returned pv ∧ RZ w' pv r ∧ Below w.heap.size w w') (HP : ∀ (w : World), Calls Tryd.prog 38 #[.int .i64 p] w fun e w' => ∃ pv, e = .returned pv ∧ RZ w' pv p ∧ Below w.heap.size w w') (HG : ∀ (p0 p1 : Value) (w : World), RZ w p0 r → RZ w p1 p → Calls Tryd.prog 37 #[p0, p1] w fun e w' => ∃ v0 v1 v2, e = .returned (.tuple #[v0, v1, v2]) ∧ RZ w' v0 g ∧ RZ w' v1 x ∧ RZ w' v2 y ∧ Below w.heap.size w w') (H1 : ∀ (w : World), Calls Tryd.prog 38 #[.int .i64 1] w fun e w' => ∃ pv, e = .returned pv ∧ RZ w' pv 1 ∧ Below w.heap.size w w') (HC : ∀ (p0 p1 : Value) (w : World), RZ w p0 g → RZ w p1 1 → Calls Tryd.prog 39 #[p0, p1] w fun e w' => e = .returned (.int .i64 c) ∧ Below w.heap.size w w') (hp0 : (p == 0) = false) (hp1 : (p == 1) = false) (ha : a % 18446744073709551616 = a) (hr : IntKind.i64.wrap r = r) (hw : IntKind.i64.wrap p = p) (hc : (c != 0) = true) (hc2 : c ≠ 0) (w : World) :
  Calls Tryd.prog 14 #[.int .u32 a, .int .u32 p] w fun e w' => e = .returned (.tuple #[.int .u32 0, .bool false]) ∧ Below w.heap.size w w' := by
 replace H0 := Lib.hid H0
 replace HO := Lib.hid HO
 replace HP := Lib.hid HP
 replace HG := Lib.hid HG
 replace H1 := Lib.hid H1
 replace HC := Lib.hid HC
 have hL0 : GL w w [] := GL.start w
 have hS : SS w [] := SS.nil w
 go_enter Tryd.func14, Tryd.ntmps14
 go_wp2_with fail
 with_reducible refine Calls.mono (H0.out _) ?_
 rintro e x1 ⟨rfl, hb⟩
 replace hL0 := hL0.call hb
 replace hS := hS.call hb
 clear hb
 go_wp2_with fail
 with_reducible refine Calls.mono (HO.out _) ?_
 rintro e x2 ⟨v0, rfl, q0, hb⟩
 replace hL0 := hL0.call hb
 replace hS := hS.call hb
 clear hb
 obtain ⟨g1, d1, rfl⟩ := rz_form q0
 replace hS := hS.cons (rz_rn q0)
 clear q0
 go_wp2_with fail
 with_reducible refine Calls.mono (HP.out _) ?_
 rintro e x3 ⟨v0, rfl, q0, hb⟩
 replace hL0 := hL0.call hb
 replace hS := hS.call hb
 clear hb
 obtain ⟨g2, d2, rfl⟩ := rz_form q0
 replace hS := hS.cons (rz_rn q0)
 clear q0
 go_wp2_with fail
 with_reducible refine Calls.mono (HG.out (.agg #[.bool (zs r), .slice g1 (tln r.natAbs) d1]) (.agg #[.bool (zs p), .slice g2 (tln p.natAbs) d2]) _ (rz_of (hS.get (List.mem_cons_of_mem _ List.mem_cons_self))) (rz_of (hS.get List.mem_cons_self))) ?_
 rintro e x4 ⟨v0, v1, v2, rfl, q0, q1, q2, hb⟩
 replace hL0 := hL0.call hb
 replace hS := hS.call hb
 clear hb
 obtain ⟨g3, d3, rfl⟩ := rz_form q0
 replace hS := hS.cons (rz_rn q0)
 clear q0
 obtain ⟨g4, d4, rfl⟩ := rz_form q1
 replace hS := hS.cons (rz_rn q1)
 clear q1
 obtain ⟨g5, d5, rfl⟩ := rz_form q2
 replace hS := hS.cons (rz_rn q2)
 clear q2
 replace hS := (((hS.new (.cells #[.bool (zs g), .slice g3 (tln g.natAbs) d3] 65)).new (.cells #[.bool (zs x), .slice g4 (tln x.natAbs) d4] 65)).new (.cells #[.bool (zs y), .slice g5 (tln y.natAbs) d5] 65))
 replace hL0 := (((hL0.new rfl [.bool (zs g), .slice g3 (tln g.natAbs) d3] 65).new (K := x4.heap.size + 1) (szA _ _) [.bool (zs x), .slice g4 (tln x.natAbs) d4] 65).new (K := x4.heap.size + 1 + 1) (by simp only [World.size_alloc]) [.bool (zs y), .slice g5 (tln y.natAbs) d5] 65)
 generalize hweq : (((x4.alloc (.cells #[.bool (zs g), .slice g3 (tln g.natAbs) d3] 65)).alloc (.cells #[.bool (zs x), .slice g4 (tln x.natAbs) d4] 65)).alloc (.cells #[.bool (zs y), .slice g5 (tln y.natAbs) d5] 65)) = x5 at hL0 hS
 go_upto_region 6 with fail
 clear hweq
 refine region_tl 4 [EV (.agg #[.bool (zs g), .slice g3 (tln g.natAbs) d3]), PZ 1, EV (.int .i64 c), EV (.bool true)] (by kernel_rfl) (by kernel_rfl) ?_ ?_ ?_
 ·exact stays_cons (stays_eq _) (stays_cons (stays_rz _) (stays_cons (stays_eq _) (stays_cons (stays_eq _) (stays_nil))))
 ·simp only [List.take_succ_cons, List.take_zero, hopsR, and_true]
  refine ⟨?_, ?_, ?_, ?_⟩ <;> intro fv w1 hb1 hp
  all_goals (simp only [putsV, Act.put, List.setIfInBounds_toArray, List.set_cons_succ, List.set_cons_zero, Nat.zero_add, Nat.reduceAdd])
  ·refine tyAt_none rfl ?_
   have hc := (hL0.call (below_drew hb1)).fc
   simp only [fcG, cellsF, neK, and_true, ne_eq, Nat.zero_add, Nat.reduceAdd] at hc
   simp [tyUpon, execOp, go_sem, Act.eval, hc, hc2, Below.refl]
  ·refine tyAt_none rfl ?_
   refine ty_call (f := 38) (args := #[.int .i64 1]) (by simp [execOp, go_sem, Act.eval]) ?_
   exact (H1.out w1).mono fun e w2 ⟨pv, h1, h2, h3⟩ => ⟨pv, h1, h2, h3⟩
  ·have h0 : EV _ (fv 0) w1 := hp 0 (LC (by kernel_rfl))
   have h1 : PZ _ (fv 1) w1 := hp 1 (LC (by kernel_rfl))
   refine tyAt_none rfl ?_
   refine ty_call (f := 39) (args := #[.agg #[.bool (zs g), .slice g3 (tln g.natAbs) d3], fv 1]) (by simp [execOp, go_sem, Act.eval, h0]) ?_
   exact (HC.out (.agg #[.bool (zs g), .slice g3 (tln g.natAbs) d3]) (fv 1) w1 (rz_of (Sl.below (hS.get (List.mem_cons_of_mem _ (List.mem_cons_of_mem _ List.mem_cons_self))) (below_drew hb1))) h1).mono fun e w2 ⟨h1, h2⟩ => ⟨_, h1, rfl, h2⟩
  ·have h2 : EV _ (fv 2) w1 := hp 2 (LC (by kernel_rfl))
   refine tyAt_none rfl ?_
   simp [tyUpon, execOp, go_sem, Act.eval, h2, hc2, Below.refl]
 ·intro fv x6 hb1 hv
  have e0 : fv 0 = _ := hv 0 (by omega)
  have q1 : RZ x6 (fv 1) 1 := hv 1 (by omega)
  obtain ⟨g6, d6, e1⟩ := rz_form q1
  rw [e1] at q1
  have e2 : fv 2 = _ := hv 2 (by omega)
  have e3 : fv 3 = _ := hv 3 (by omega)
  simp only [List.take_succ_cons, List.take_zero, putsV, Act.put, List.setIfInBounds_toArray, List.set_cons_succ, List.set_cons_zero, List.drop_succ_cons, List.drop_zero, Nat.zero_add, Nat.reduceAdd, e0, e1, e2, e3]
  replace hL0 := hL0.call (below_drew hb1)
  replace hS := hS.call (below_drew hb1)
  replace hS := hS.cons (rz_rn q1)
  clear e0 e1 e2 e3 hb1 hv q1 fv
  go_wp2_with fail
  exact bodyPost_ret (v := .tuple #[.int .u32 0, .bool false]) (by simp [results, Tryd.results14, go_sem]) rfl ⟨rfl, hL0.bl⟩
set_option maxHeartbeats 4000000 in
set_option maxRecDepth 100000 in
theorem rinv_yes (a p r g x y v : Int) (H0 : ∀ w, Calls Tryd.prog 16 #[.int .u64 a, .int .u32 p] w fun xe w' => xe = .returned (.int .u32 r) ∧ Below w.heap.size w w') (HO : ∀ (w : World), Calls Tryd.prog 38 #[.int .i64 r] w fun e w' => ∃ pv, e = .returned pv ∧ RZ w' pv r ∧ Below w.heap.size w w') (HP : ∀ (w : World), Calls Tryd.prog 38 #[.int .i64 p] w fun e w' => ∃ pv, e = .returned pv ∧ RZ w' pv p ∧ Below w.heap.size w w') (HG : ∀ (p0 p1 : Value) (w : World), RZ w p0 r → RZ w p1 p → Calls Tryd.prog 37 #[p0, p1] w fun e w' => ∃ v0 v1 v2, e = .returned (.tuple #[v0, v1, v2]) ∧ RZ w' v0 g ∧ RZ w' v1 x ∧ RZ w' v2 y ∧ Below w.heap.size w w') (H1 : ∀ (w : World), Calls Tryd.prog 38 #[.int .i64 1] w fun e w' => ∃ pv, e = .returned pv ∧ RZ w' pv 1 ∧ Below w.heap.size w w') (HC : ∀ (p0 p1 : Value) (w : World), RZ w p0 g → RZ w p1 1 → Calls Tryd.prog 39 #[p0, p1] w fun e w' => e = .returned (.int .i64 0) ∧ Below w.heap.size w w') (HI : ∀ (p0 : Value) (w : World), RZ w p0 x → Calls Tryd.prog 40 #[p0, .int .u32 p] w fun e w' => e = .returned (.int .u32 v) ∧ Below w.heap.size w w') (hp0 : (p == 0) = false) (hp1 : (p == 1) = false) (ha : a % 18446744073709551616 = a) (hr : IntKind.i64.wrap r = r) (hw : IntKind.i64.wrap p = p) (w : World) :
  Calls Tryd.prog 14 #[.int .u32 a, .int .u32 p] w fun e w' => e = .returned (.tuple #[.int .u32 v, .bool true]) ∧ Below w.heap.size w w' := by
 replace H0 := Lib.hid H0
 replace HO := Lib.hid HO
 replace HP := Lib.hid HP
 replace HG := Lib.hid HG
 replace H1 := Lib.hid H1
 replace HC := Lib.hid HC
 replace HI := Lib.hid HI
 have hL0 : GL w w [] := GL.start w
 have hS : SS w [] := SS.nil w
 go_enter Tryd.func14, Tryd.ntmps14
 go_wp2_with fail
 with_reducible refine Calls.mono (H0.out _) ?_
 rintro e x1 ⟨rfl, hb⟩
 replace hL0 := hL0.call hb
 replace hS := hS.call hb
 clear hb
 go_wp2_with fail
 with_reducible refine Calls.mono (HO.out _) ?_
 rintro e x2 ⟨v0, rfl, q0, hb⟩
 replace hL0 := hL0.call hb
 replace hS := hS.call hb
 clear hb
 obtain ⟨g1, d1, rfl⟩ := rz_form q0
 replace hS := hS.cons (rz_rn q0)
 clear q0
 go_wp2_with fail
 with_reducible refine Calls.mono (HP.out _) ?_
 rintro e x3 ⟨v0, rfl, q0, hb⟩
 replace hL0 := hL0.call hb
 replace hS := hS.call hb
 clear hb
 obtain ⟨g2, d2, rfl⟩ := rz_form q0
 replace hS := hS.cons (rz_rn q0)
 clear q0
 go_wp2_with fail
 with_reducible refine Calls.mono (HG.out (.agg #[.bool (zs r), .slice g1 (tln r.natAbs) d1]) (.agg #[.bool (zs p), .slice g2 (tln p.natAbs) d2]) _ (rz_of (hS.get (List.mem_cons_of_mem _ List.mem_cons_self))) (rz_of (hS.get List.mem_cons_self))) ?_
 rintro e x4 ⟨v0, v1, v2, rfl, q0, q1, q2, hb⟩
 replace hL0 := hL0.call hb
 replace hS := hS.call hb
 clear hb
 obtain ⟨g3, d3, rfl⟩ := rz_form q0
 replace hS := hS.cons (rz_rn q0)
 clear q0
 obtain ⟨g4, d4, rfl⟩ := rz_form q1
 replace hS := hS.cons (rz_rn q1)
 clear q1
 obtain ⟨g5, d5, rfl⟩ := rz_form q2
 replace hS := hS.cons (rz_rn q2)
 clear q2
 replace hS := (((hS.new (.cells #[.bool (zs g), .slice g3 (tln g.natAbs) d3] 65)).new (.cells #[.bool (zs x), .slice g4 (tln x.natAbs) d4] 65)).new (.cells #[.bool (zs y), .slice g5 (tln y.natAbs) d5] 65))
 replace hL0 := (((hL0.new rfl [.bool (zs g), .slice g3 (tln g.natAbs) d3] 65).new (K := x4.heap.size + 1) (szA _ _) [.bool (zs x), .slice g4 (tln x.natAbs) d4] 65).new (K := x4.heap.size + 1 + 1) (by simp only [World.size_alloc]) [.bool (zs y), .slice g5 (tln y.natAbs) d5] 65)
 generalize hweq : (((x4.alloc (.cells #[.bool (zs g), .slice g3 (tln g.natAbs) d3] 65)).alloc (.cells #[.bool (zs x), .slice g4 (tln x.natAbs) d4] 65)).alloc (.cells #[.bool (zs y), .slice g5 (tln y.natAbs) d5] 65)) = x5 at hL0 hS
 go_upto_region 6 with fail
 clear hweq
 refine region_tl 4 [EV (.agg #[.bool (zs g), .slice g3 (tln g.natAbs) d3]), PZ 1, EV (.int .i64 0), EV (.bool false)] (by kernel_rfl) (by kernel_rfl) ?_ ?_ ?_
 ·exact stays_cons (stays_eq _) (stays_cons (stays_rz _) (stays_cons (stays_eq _) (stays_cons (stays_eq _) (stays_nil))))
 ·simp only [List.take_succ_cons, List.take_zero, hopsR, and_true]
  refine ⟨?_, ?_, ?_, ?_⟩ <;> intro fv w1 hb1 hp
  all_goals (simp only [putsV, Act.put, List.setIfInBounds_toArray, List.set_cons_succ, List.set_cons_zero, Nat.zero_add, Nat.reduceAdd])
  ·refine tyAt_none rfl ?_
   have hc := (hL0.call (below_drew hb1)).fc
   simp only [fcG, cellsF, neK, and_true, ne_eq, Nat.zero_add, Nat.reduceAdd] at hc
   simp [tyUpon, execOp, go_sem, Act.eval, hc, Below.refl]
  ·refine tyAt_none rfl ?_
   refine ty_call (f := 38) (args := #[.int .i64 1]) (by simp [execOp, go_sem, Act.eval]) ?_
   exact (H1.out w1).mono fun e w2 ⟨pv, h1, h2, h3⟩ => ⟨pv, h1, h2, h3⟩
  ·have h0 : EV _ (fv 0) w1 := hp 0 (LC (by kernel_rfl))
   have h1 : PZ _ (fv 1) w1 := hp 1 (LC (by kernel_rfl))
   refine tyAt_none rfl ?_
   refine ty_call (f := 39) (args := #[.agg #[.bool (zs g), .slice g3 (tln g.natAbs) d3], fv 1]) (by simp [execOp, go_sem, Act.eval, h0]) ?_
   exact (HC.out (.agg #[.bool (zs g), .slice g3 (tln g.natAbs) d3]) (fv 1) w1 (rz_of (Sl.below (hS.get (List.mem_cons_of_mem _ (List.mem_cons_of_mem _ List.mem_cons_self))) (below_drew hb1))) h1).mono fun e w2 ⟨h1, h2⟩ => ⟨_, h1, rfl, h2⟩
  ·have h2 : EV _ (fv 2) w1 := hp 2 (LC (by kernel_rfl))
   refine tyAt_none rfl ?_
   simp [tyUpon, execOp, go_sem, Act.eval, h2, Below.refl]
 ·intro fv x6 hb1 hv
  have e0 : fv 0 = _ := hv 0 (by omega)
  have q1 : RZ x6 (fv 1) 1 := hv 1 (by omega)
  obtain ⟨g6, d6, e1⟩ := rz_form q1
  rw [e1] at q1
  have e2 : fv 2 = _ := hv 2 (by omega)
  have e3 : fv 3 = _ := hv 3 (by omega)
  simp only [List.take_succ_cons, List.take_zero, putsV, Act.put, List.setIfInBounds_toArray, List.set_cons_succ, List.set_cons_zero, List.drop_succ_cons, List.drop_zero, Nat.zero_add, Nat.reduceAdd, e0, e1, e2, e3]
  replace hL0 := hL0.call (below_drew hb1)
  replace hS := hS.call (below_drew hb1)
  replace hS := hS.cons (rz_rn q1)
  clear e0 e1 e2 e3 hb1 hv q1 fv
  have hN0 := cells_of _ 0 [] rfl (hL0.get _ _ (List.mem_cons_of_mem _ List.mem_cons_self))
  simp only [cellsF, and_true, Nat.zero_add, Nat.reduceAdd] at hN0
  go_wp2_with fail
  clear hN0
  with_reducible refine Calls.mono (HI.out (.agg #[.bool (zs x), .slice g4 (tln x.natAbs) d4]) _ (rz_of (hS.get (List.mem_cons_of_mem _ (List.mem_cons_of_mem _ List.mem_cons_self))))) ?_
  rintro e x7 ⟨rfl, hb⟩
  replace hL0 := hL0.call hb
  replace hS := hS.call hb
  clear hb
  go_wp2_with fail
  exact bodyPost_ret (v := .tuple #[.int .u32 v, .bool true]) (by simp [results, Tryd.results14, go_sem]) rfl ⟨rfl, hL0.bl⟩
end Go.Proofs.YtfmakoiiibacjaaDoor
namespace Go.Proofs.YtfmakoiiibacjaaDoor
open Go.RowKit Go.Proofs.YtfmakoiiibacjaaDoor.Rx
theorem wrap64 {n : Nat} (h : n < 4294967296) : IntKind.i64.wrap (n : Int) = (n : Int) := by simp [IntKind.wrap, IntKind.signed, IntKind.bits]; omega
theorem rzofN (n : Nat) (hn : n < 4294967296) (w : World) : Calls Tryd.prog 38 #[.int .i64 (n : Int)] w fun e w' => ∃ v, e = .returned v ∧ RZ w' v (n : Int) ∧ Below w.heap.size w w' :=
 rzof_pos n n n n (fun w => rof_val n n rfl (by omega) w) (rz_from false n n (by first | rfl | (simp [zs]; try omega)) (by simp)) (decide_eq_false (by omega)) (by simp [IntKind.wrap, IntKind.signed, IntKind.bits]; omega) w
theorem tln_small {n : Nat} (h : n < 4294967296) : tln n ≤ 3 := by
 unfold tln; exact td_length.2 (by omega)
theorem rofint6 (z : Int) (p : Nat) (hp : p < 4294967296) (hz : (Rx.td z.natAbs).length ≤ 1000) (v : Value) (w : World) (hv : RZ w v z) :
  Calls Tryd.prog 40 #[v, .int .u32 (p : Int)] w fun e w' => e = .returned (.int .u32 ((rsz z p : Nat) : Int)) ∧ Below w.heap.size w w' := by
 by_cases h0 : p = 0
 ·subst h0; exact rofint0_w z v w hv
 ·have h1 : 0 ≤ z % (p : Int) := Int.emod_nonneg z (by omega)
  have h2 : z % (p : Int) < (p : Int) := Int.emod_lt_of_pos z (by omega)
  have e : (z % (p : Int)).natAbs = rsz z p := by have := rsz_cast (z := z) h0; omega
  have := rofint_w z (z / (p : Int)) (z % (p : Int)) (p : Int) (rzofN p hp) (fun a b w ha hb => rzdivI z (p : Int) (by omega) hz (Nat.le_trans (td_length.2 (show (p : Int).natAbs < 10000 ^ 3 by omega)) (by omega)) a b w ha hb)
   (by simp; omega) (wrap64 hp) (by omega) (Nat.le_trans (tln_small (by omega)) (by omega)) v w hv
  rwa [e] at this
theorem rinv6 (a p : Nat) (ha : a < 4294967296) (hp : p < 4294967296) (w : World) :
  Calls Tryd.prog 14 #[.int .u32 (a : Int), .int .u32 (p : Int)] w fun e w' => e = .returned (.tuple #[.int .u32 ((invV a p : Nat) : Int), .bool (invB a p)]) ∧ Below w.heap.size w w' := by
 by_cases h0 : p = 0
 ·subst h0
  have h := inv_eq (show IsInv a 0 0 false from .inr ⟨rfl, rfl, .inl rfl⟩)
  rw [h.1, h.2]; exact rinv0_w a w
 by_cases h1 : p = 1
 ·subst h1
  have h := inv_eq (show IsInv a 1 0 true from .inl ⟨rfl, by omega, by rw [Nat.mul_zero]⟩)
  rw [h.1, h.2]; exact rinv1_w a w
 have hr := rsd_lt32 a hp
 have H0 := fun w => rof6_any a p (by omega) hp w
 obtain ⟨r, hre⟩ : ∃ r, r = rsd a p := ⟨_, rfl⟩
 rw [← hre] at H0 hr
 obtain ⟨bz, bg⟩ := xgcd_bez _ (r : Int) (p : Int) (Nat.le_refl _)
 have dr : dI (r : Int) ≤ 1 := i64_dI (by omega) (by omega)
 have dp : dI (p : Int) ≤ 1 := i64_dI (by omega) (by omega)
 obtain ⟨dg, dx, dy⟩ := xgcd_dI dr dp
 have HG := fun v1 v2 w h1 h2 => rzgcd_any (k := 1) (by omega) _ (r : Int) (p : Int) (Nat.le_refl _) dr dp v1 v2 w h1 h2
 generalize (xgcd (r : Int) (p : Int)).1 = g at *
 generalize (xgcd (r : Int) (p : Int)).2.1 = x at *
 generalize (xgcd (r : Int) (p : Int)).2.2 = y at *
 have lg := dI_td dg
 have lx := dI_td dx
 have hC := fun v1 v2 w h1 h2 => rzcmpI g 1 (by omega) (Nat.le_trans (td_length.2 (show (1 : Int).natAbs < 10000 ^ 1 by decide)) (by omega)) v1 v2 w h1 h2
 have hgp : Nat.gcd r p = Nat.gcd a p := by rw [hre, rsd_pos h0, ← Nat.gcd_rec p a, Nat.gcd_comm]
 have bg2 : g = ((Nat.gcd a p : Nat) : Int) := by rw [bg, Int.natAbs_natCast, Int.natAbs_natCast, hgp]
 have ka : (a : Int) % 18446744073709551616 = (a : Int) := by omega
 have H0b := fun w => toBelow (H0 w)
 by_cases hg : g = 1
 ·rw [hg, show sgn (1 - 1) = 0 from rfl] at hC
  have hm : IsInv a p (rsz x p) true := .inl ⟨rfl, by have := rsz_cast (z := x) h0; have := Int.emod_lt_of_pos x (show (0 : Int) < (p : Int) by omega); omega, by
   have e1 : ((a * rsz x p % p : Nat) : Int) = ((1 % p : Nat) : Int) := by
    push_cast
    have e2 : (a : Int) % (p : Int) = (r : Int) % (p : Int) := by rw [hre, rsd_pos h0]; push_cast; rw [Int.emod_emod]
    rw [rsz_cast h0, Int.mul_emod, Int.emod_emod, e2, ← Int.mul_emod, show (r : Int) * x = 1 + (p : Int) * (-y) by rw [hg] at bz; grind, Int.add_mul_emod_self_left]
   exact_mod_cast e1⟩
  have h := inv_eq hm
  rw [h.1, h.2]
  rw [hg] at HG
  exact rinv_yes a p r 1 x y ((rsz x p : Nat) : Int) H0b (rzofN r hr) (rzofN p hp) HG (rzofN 1 (by omega)) hC (fun v w hv => rofint6 x p hp (by omega) v w hv)
   (by simp; omega) (by simp; omega) ka (wrap64 hr) (wrap64 hp) w
 ·have hne : sgn (g - 1) ≠ 0 := by unfold sgn; split <;> (try split) <;> omega
  have h := inv_eq (show IsInv a p 0 false from .inr ⟨rfl, rfl, .inr (by omega)⟩)
  rw [h.1, h.2]
  exact rinv_no a p r g x y _ H0b (rzofN r hr) (rzofN p hp) HG (rzofN 1 (by omega)) hC (by simp; omega) (by simp; omega) ka (wrap64 hr) (wrap64 hp) (by simpa using hne) hne w
end Go.Proofs.YtfmakoiiibacjaaDoor
namespace Go.Proofs.YtfmakoiiibacjaaDoor
open Go.RowKit
attribute [local irreducible] rsd subN
theorem rsd_sub_ge {a b p : Nat} (h : rsd b p ≤ rsd a p) : subN a b p = rsd a p - rsd b p := by
 by_cases h0 : p = 0
 ·subst h0; unfold subN; rw [rsd_zero, rsd_zero, rsd_zero]
 ·have h1 := rsd_lt (n := a) h0
  refine subN_uniq ?_ ?_
  ·rw [rsd_pos h0, Nat.mod_eq_of_lt (by omega)]
  ·rw [← rsd_add_r, show rsd a p - rsd b p + rsd b p = rsd a p by omega, rsd_rsd]
theorem rsd_sub_lt {a b p : Nat} (h : rsd a p < rsd b p) : subN a b p = p - rsd b p + rsd a p := by
 by_cases h0 : p = 0
 ·subst h0; rw [rsd_zero, rsd_zero] at h; omega
 ·have h1 := rsd_lt (n := b) h0
  refine subN_uniq ?_ ?_
  ·rw [rsd_pos h0, Nat.mod_eq_of_lt (by omega)]
  ·rw [← rsd_add_r, show p - rsd b p + rsd a p + rsd b p = rsd a p + p by omega, rsd_pos h0, Nat.add_mod_right, ← rsd_pos h0, rsd_rsd]
set_option maxHeartbeats 4000000 in
set_option maxRecDepth 100000 in
theorem rsub6 (a b p : Nat) (ha : a < 4294967296) (hb : b < 4294967296) (hp : p < 4294967296) (w : World) :
  Calls Tryd.prog 18 #[.int .u32 (a : Int), .int .u32 (b : Int), .int .u32 (p : Int)] w fun e w' => e = .returned (.int .u32 ((subN a b p : Nat) : Int)) ∧ w' = w := by
 have R := Lib.hid (rof6_any a p (by omega) hp w)
 have S := Lib.hid (rof6_any b p (by omega) hp w)
 have l1 := rsd_le a p
 have l2 := rsd_le b p
 have hge := Lib.hid (rsd_sub_ge (a := a) (b := b) (p := p))
 have hlt := Lib.hid (rsd_sub_lt (a := a) (b := b) (p := p))
 generalize rsd a p = x at *
 generalize rsd b p = y at *
 generalize subN a b p = z at *
 have h1 : (a : Int) % 18446744073709551616 = (a : Int) := by omega
 have h2 : (b : Int) % 18446744073709551616 = (b : Int) := by omega
 rcases Nat.lt_or_ge x y with h | h
 ·have k1 : ¬ (y : Int) ≤ (x : Int) := by omega
  have e := hlt.out h
  have h3 : (p : Int) % 18446744073709551616 = (p : Int) := by omega
  have h4 : (y : Int) % 18446744073709551616 = (y : Int) := by omega
  have h5 : (x : Int) % 18446744073709551616 = (x : Int) := by omega
  obtain ⟨d, hd⟩ : ∃ d, d = p - y := ⟨_, rfl⟩
  have h6 : (p : Int) - (y : Int) = (d : Int) := by omega
  have h7 : (d : Int) % 18446744073709551616 = (d : Int) := by omega
  have h8 : (d : Int) + (x : Int) = (z : Int) := by omega
  have h9 : (z : Int) % 18446744073709551616 = (z : Int) := by omega
  have h10 : (z : Int) % 4294967296 = (z : Int) := by omega
  clear hd ha hb hp l1 l2 e h
  go_enter Tryd.func18, Tryd.ntmps18
  go_wp2_with fail
  with_reducible refine Calls.mono R.out ?_
  rintro e w1 ⟨rfl, rfl⟩
  go_wp2_with fail
  with_reducible refine Calls.mono S.out ?_
  rintro e w2 ⟨rfl, rfl⟩
  go_wp2_with fail
  go_ret
  exact ⟨rfl, rfl⟩
 ·have k1 : (y : Int) ≤ (x : Int) := by omega
  have e := hge.out h
  have h6 : (x : Int) - (y : Int) = (z : Int) := by omega
  have h7 : (z : Int) % 4294967296 = (z : Int) := by omega
  clear ha hb hp l1 l2 e h
  go_enter Tryd.func18, Tryd.ntmps18
  go_wp2_with fail
  with_reducible refine Calls.mono R.out ?_
  rintro e w1 ⟨rfl, rfl⟩
  go_wp2_with fail
  with_reducible refine Calls.mono S.out ?_
  rintro e w2 ⟨rfl, rfl⟩
  go_wp2_with fail
  go_ret
  exact ⟨rfl, rfl⟩
theorem pow_bits (n i : Nat) : n / 2 ^ i = 2 * (n / 2 ^ (i + 1)) + n / 2 ^ i % 2 := by
 rw [Nat.pow_succ, ← Nat.div_div_eq_div_mul]
 omega
theorem pow_sq_step (a m p : Nat) : rsd (rsd (a ^ m) p * rsd (a ^ m) p) p = rsd (a ^ (2 * m)) p := by rw [rsd_mul_l, rsd_mul_r, Nat.two_mul, Nat.pow_add]
theorem pow_sq_odd (a m p : Nat) : rsd (rsd (a ^ (2 * m)) p * rsd a p) p = rsd (a ^ (2 * m + 1)) p := by rw [rsd_mul_l, rsd_mul_r, Nat.pow_succ]
set_option maxHeartbeats 4000000 in
set_option maxRecDepth 100000 in
theorem rpow6 (a n p : Nat) (ha : a < 4294967296) (hn : n < 18446744073709551616) (hp : p < 4294967296) (w : World) :
  Calls Tryd.prog 21 #[.int .u32 (a : Int), .int .u64 (n : Int), .int .u32 (p : Int)] w fun e w' => e = .returned (.int .u32 ((rsd (a ^ n) p : Nat) : Int)) ∧ w' = w := by
 have R := Lib.hid (rof6_any 1 p (by omega) hp w)
 have ha1 : (a : Int) % 18446744073709551616 = (a : Int) := by omega
 have hL := Lib.hid (fun m => rsd_lt32 m hp)
 have hst : rsd (a ^ (n / 2 ^ 64)) p = rsd 1 p := by rw [Nat.div_eq_of_lt (by omega), Nat.pow_zero]
 replace hst := Lib.hid hst
 go_enter Tryd.func21, Tryd.ntmps21
 go_wp2_with fail
 with_reducible refine Calls.mono R.out ?_
 rintro e w1 ⟨rfl, rfl⟩
 go_wp2_with fail
 go_loopw [7, 8] (fun ov iv wr => ∃ j : Nat, j ≤ 64 ∧ iv = .int .i64 ((j : Int) - 1) ∧ ov = .int .u32 ((rsd (a ^ (n / 2 ^ j)) p : Nat) : Int) ∧ wr = w1) (fun _ iv _ => (intOf iv + 1).toNat)
 case atStart => exact ⟨64, Nat.le_refl _, by first | rfl | go_num, by rw [hst.out], rfl⟩
 case round =>
  obtain ⟨j, hj, rfl, rfl, rfl⟩ := hrel
  clear R
  cases j with
  | zero =>
   rw [Nat.pow_zero, Nat.div_one]
   go_wp2_with fail
   go_ret
   exact ⟨rfl, rfl⟩
  | succ i =>
   have e1 : (((i + 1 : Nat) : Int) - 1) = (i : Int) := by omega
   have q0 : (i : Int) ≤ 64 := by omega
   have hb := pow_bits n i
   have hsq := pow_sq_step a (n / 2 ^ (i + 1)) p
   have hod := pow_sq_odd a (n / 2 ^ (i + 1)) p
   have lo1 := hL.out (a ^ (n / 2 ^ (i + 1)))
   have lo2 := hL.out (a ^ (2 * (n / 2 ^ (i + 1))))
   have lra := hL.out a
   have hql : n / 2 ^ i < 18446744073709551616 := Nat.lt_of_le_of_lt (Nat.div_le_self _ _) hn
   have hsi : (n : Int) / 2 ^ i = ((n / 2 ^ i : Nat) : Int) := by push_cast; rfl
   have hx : (rsd (a ^ (n / 2 ^ (i + 1))) p) * (rsd (a ^ (n / 2 ^ (i + 1))) p) < 18446744073709551616 := by
    have := Nat.mul_le_mul (show rsd (a ^ (n / 2 ^ (i + 1))) p ≤ 4294967295 by omega) (show rsd (a ^ (n / 2 ^ (i + 1))) p ≤ 4294967295 by omega); omega
   have hy : (rsd (a ^ (2 * (n / 2 ^ (i + 1)))) p) * rsd a p < 18446744073709551616 := by
    have := Nat.mul_le_mul (show rsd (a ^ (2 * (n / 2 ^ (i + 1)))) p ≤ 4294967295 by omega) (show rsd a p ≤ 4294967295 by omega); omega
   have O1 := Lib.hid (rof6_any (rsd (a ^ (n / 2 ^ (i + 1))) p * rsd (a ^ (n / 2 ^ (i + 1))) p) p hx hp)
   have O2 := Lib.hid (rof6_any a p (by omega) hp)
   have O3 := Lib.hid (rof6_any (rsd (a ^ (2 * (n / 2 ^ (i + 1)))) p * rsd a p) p hy hp)
   rw [hsq] at O1
   rw [hod] at O3
   clear hsq hod
   have hev : n / 2 ^ i % 2 = 0 → rsd (a ^ (2 * (n / 2 ^ (i + 1)))) p = rsd (a ^ (n / 2 ^ i)) p := fun h => by
    have : n / 2 ^ i = 2 * (n / 2 ^ (i + 1)) := by omega
    rw [← this]
   have hov : n / 2 ^ i % 2 = 1 → rsd (a ^ (2 * (n / 2 ^ (i + 1)) + 1)) p = rsd (a ^ (n / 2 ^ i)) p := fun h => by
    have : n / 2 ^ i = 2 * (n / 2 ^ (i + 1)) + 1 := by omega
    rw [← this]
   have hbit : n / 2 ^ i % 2 = 0 ∨ n / 2 ^ i % 2 = 1 := by omega
   generalize hz : rsd (a ^ (n / 2 ^ i)) p = zr at hev hov
   generalize rsd (a ^ (n / 2 ^ (i + 1))) p = P at *
   generalize rsd (a ^ (2 * (n / 2 ^ (i + 1)))) p = P2 at *
   generalize rsd (a ^ (2 * (n / 2 ^ (i + 1)) + 1)) p = P3 at *
   generalize rsd a p = ra at *
   generalize n / 2 ^ i = q at hsi hbit hev hov hql
   have c1 : (P : Int) % 18446744073709551616 = (P : Int) := by omega
   have c2 : (P2 : Int) % 18446744073709551616 = (P2 : Int) := by omega
   have c3 : (ra : Int) % 18446744073709551616 = (ra : Int) := by omega
   have c4 : (P : Int) * (P : Int) = ((P * P : Nat) : Int) := by push_cast; rfl
   have c5 : ((P * P : Nat) : Int) % 18446744073709551616 = ((P * P : Nat) : Int) := by omega
   have c6 : (P2 : Int) * (ra : Int) = ((P2 * ra : Nat) : Int) := by push_cast; rfl
   have c7 : ((P2 * ra : Nat) : Int) % 18446744073709551616 = ((P2 * ra : Nat) : Int) := by omega
   generalize P * P = s1 at *
   generalize P2 * ra = s2 at *
   replace hz := Lib.hid hz
   clear hb hx hy lo1 lo2 lra
   rw [e1]
   rcases hbit with h | h
   ·have hev2 := Lib.hid (hev h)
    have k1 : ((q : Int) % 2 == 1) = false := by simp; omega
    clear hev hov h hql
    go_wp2_with fail
    with_reducible refine Calls.mono (O1.out _) ?_
    rintro e w2 ⟨rfl, rfl⟩
    go_wp2_with fail
    go_roundw
    case rel => exact ⟨i, by omega, by first | rfl | go_num, by rw [hz.out, hev2.out], by first | rfl | trivial⟩
    case measure => simp [intOf]
   ·have hov2 := Lib.hid (hov h)
    have k1 : ((q : Int) % 2 == 1) = true := by simp; omega
    clear hev hov h hql
    go_wp2_with fail
    with_reducible refine Calls.mono (O1.out _) ?_
    rintro e w2 ⟨rfl, rfl⟩
    go_wp2_with fail
    with_reducible refine Calls.mono (O2.out _) ?_
    rintro e w3 ⟨rfl, rfl⟩
    go_wp2_with fail
    with_reducible refine Calls.mono (O3.out _) ?_
    rintro e w4 ⟨rfl, rfl⟩
    go_wp2_with fail
    go_roundw
    case rel => exact ⟨i, by omega, by first | rfl | go_num, by rw [hz.out, hov2.out], by first | rfl | trivial⟩
    case measure => simp [intOf]
end Go.Proofs.YtfmakoiiibacjaaDoor
namespace Go.Proofs.YtfmakoiiibacjaaDoor
open Go.RowKit
attribute [local irreducible] lo hs sm s64 c64 d64 b64 mh ml pd pc qd qc val hiB str cmpI srD lz nb isq zl zh zs rsd subN invV invB prB
set_option maxHeartbeats 4000000 in
set_option maxRecDepth 100000 in
theorem msums_w (a b p n v x s d m t z : Int) (k : Bool) (H1 : ∀ w, Calls Tryd.prog 13 #[.int .u32 a, .int .u32 p] w fun xe w' => xe = .returned (.tuple #[.int .u32 v, .bool k]) ∧ Below w.heap.size w w') (H2 : ∀ w, Calls Tryd.prog 14 #[.int .u32 a, .int .u32 p] w fun xe w' => xe = .returned (.tuple #[.int .u32 v, .bool k]) ∧ Below w.heap.size w w') (A1 : ∀ w, Calls Tryd.prog 15 #[.int .u32 a, .int .u32 b, .int .u32 p] w fun xe w' => xe = .returned (.int .u32 x) ∧ Below w.heap.size w w') (A2 : ∀ w, Calls Tryd.prog 16 #[.int .u64 s, .int .u32 p] w fun xe w' => xe = .returned (.int .u32 x) ∧ Below w.heap.size w w') (S1 : ∀ w, Calls Tryd.prog 17 #[.int .u32 a, .int .u32 b, .int .u32 p] w fun xe w' => xe = .returned (.int .u32 d) ∧ Below w.heap.size w w') (S2 : ∀ w, Calls Tryd.prog 18 #[.int .u32 a, .int .u32 b, .int .u32 p] w fun xe w' => xe = .returned (.int .u32 d) ∧ Below w.heap.size w w') (M1 : ∀ w, Calls Tryd.prog 19 #[.int .u32 a, .int .u32 b, .int .u32 p] w fun xe w' => xe = .returned (.int .u32 m) ∧ Below w.heap.size w w') (M2 : ∀ w, Calls Tryd.prog 16 #[.int .u64 t, .int .u32 p] w fun xe w' => xe = .returned (.int .u32 m) ∧ Below w.heap.size w w') (P1 : ∀ w, Calls Tryd.prog 20 #[.int .u32 a, .int .u64 n, .int .u32 p] w fun xe w' => xe = .returned (.int .u32 z) ∧ Below w.heap.size w w') (P2 : ∀ w, Calls Tryd.prog 21 #[.int .u32 a, .int .u64 n, .int .u32 p] w fun xe w' => xe = .returned (.int .u32 z) ∧ Below w.heap.size w w') (KT : World → Prop) (hKT : Keeps KT) (HW : ∀ w, KT w → Calls Tryd.prog 12 #[] w fun xe w' => xe = .returned (.bool true) ∧ Below w.heap.size w w') (ha : a % 18446744073709551616 = a) (hb : b % 18446744073709551616 = b) (h1 : a + b = s) (h2 : s % 18446744073709551616 = s) (h3 : a * b = t) (h4 : t % 18446744073709551616 = t) (w : World) (kKT : KT w) :
  Calls Tryd.prog 4 #[.int .u32 a, .int .u32 b, .int .u32 p, .int .u64 n] w fun xe w' => xe = .returned (.bool true) ∧ Below w.heap.size w w' := by
 have hL0 : GL w w [] := GL.start w
 replace H1 := Lib.hid H1
 replace H2 := Lib.hid H2
 replace A1 := Lib.hid A1
 replace A2 := Lib.hid A2
 replace S1 := Lib.hid S1
 replace S2 := Lib.hid S2
 replace M1 := Lib.hid M1
 replace M2 := Lib.hid M2
 replace P1 := Lib.hid P1
 replace P2 := Lib.hid P2
 replace hKT := Lib.hid hKT
 replace HW := Lib.hid HW
 go_enter Tryd.func4, Tryd.ntmps4
 go_wp2_with fail
 with_reducible refine Calls.mono (H1.out _) ?_
 rintro e x1 ⟨rfl, hb⟩
 replace hL0 := hL0.call hb
 clear hb
 go_wp2_with fail
 with_reducible refine Calls.mono (H2.out _) ?_
 rintro e x2 ⟨rfl, hb⟩
 replace hL0 := hL0.call hb
 clear hb
 go_wp2_with fail
 with_reducible refine Calls.mono (A1.out _) ?_
 rintro e x3 ⟨rfl, hb⟩
 replace hL0 := hL0.call hb
 clear hb
 go_wp2_with fail
 with_reducible refine Calls.mono (A2.out _) ?_
 rintro e x4 ⟨rfl, hb⟩
 replace hL0 := hL0.call hb
 clear hb
 go_wp2_with fail
 with_reducible refine Calls.mono (S1.out _) ?_
 rintro e x5 ⟨rfl, hb⟩
 replace hL0 := hL0.call hb
 clear hb
 go_wp2_with fail
 with_reducible refine Calls.mono (S2.out _) ?_
 rintro e x6 ⟨rfl, hb⟩
 replace hL0 := hL0.call hb
 clear hb
 go_wp2_with fail
 with_reducible refine Calls.mono (M1.out _) ?_
 rintro e x7 ⟨rfl, hb⟩
 replace hL0 := hL0.call hb
 clear hb
 go_wp2_with fail
 with_reducible refine Calls.mono (M2.out _) ?_
 rintro e x8 ⟨rfl, hb⟩
 replace hL0 := hL0.call hb
 clear hb
 go_wp2_with fail
 with_reducible refine Calls.mono (P1.out _) ?_
 rintro e x9 ⟨rfl, hb⟩
 replace hL0 := hL0.call hb
 clear hb
 go_wp2_with fail
 with_reducible refine Calls.mono (P2.out _) ?_
 rintro e x10 ⟨rfl, hb⟩
 replace hL0 := hL0.call hb
 clear hb
 go_wp2_with fail
 with_reducible refine Calls.mono (HW.out _ (hKT.out.at hL0.bl kKT)) ?_
 rintro e x11 ⟨rfl, hb⟩
 replace hL0 := hL0.call hb
 clear hb
 go_wp2_with fail
 exact bodyPost_ret (v := .bool true) (by simp [results, Tryd.results4, go_sem]) rfl ⟨rfl, hL0.bl⟩
theorem msums_any (a b p n : Nat) (ha : a < 4294967296) (hb : b < 4294967296) (hp : p < 4294967296) (hn : n < 18446744073709551616) (w : World) (hT : T32 w) :
  Calls Tryd.prog 4 #[.int .u32 (a : Int), .int .u32 (b : Int), .int .u32 (p : Int), .int .u64 (n : Int)] w fun e w' => e = .returned (.bool true) ∧ Below w.heap.size w w' := by
 have ht : a * b < 18446744073709551616 := by
  have := Nat.mul_le_mul (show a ≤ 4294967295 by omega) (show b ≤ 4294967295 by omega); omega
 exact msums_w a b p n ((invV a p : Nat) : Int) ((rsd (a + b) p : Nat) : Int) ((a + b : Nat) : Int) ((subN a b p : Nat) : Int) ((rsd (a * b) p : Nat) : Int) ((a * b : Nat) : Int) ((rsd (a ^ n) p : Nat) : Int) (invB a p)
  (fun w => minv_any a p ha hp w) (fun w => rinv6 a p ha hp w) (adM hp ha hb rfl) (fun w => toBelow (rof6_any (a + b) p (by omega) hp w)) (suM hp ha hb rfl) (fun w => toBelow (rsub6 a b p ha hb hp w))
  (muM hp ha hb rfl) (fun w => toBelow (rof6_any (a * b) p ht hp w)) (poM hp ha hn rfl) (fun w => toBelow (rpow6 a n p ha hn hp w)) T32 Keeps.t32 mworks_any (by omega) (by omega) (by omega) (by omega) (by push_cast; rfl) (by omega) w hT
end Go.Proofs.YtfmakoiiibacjaaDoor
namespace Go.Proofs.YtfmakoiiibacjaaDoor.modsSums
open Go.ChangeShapes Go.WideShapes Go.ChangeAt Go.RowKit
set_option maxRecDepth 100000 in
theorem contract (H : Type) (enc : TypeId × Value → H) (W : World) (base : Nat) (args : Array Value) (ds gs : List (DataW H)) (before : List MemPlace)
  (hval : ∀ (j : Nat) t v, Tryd.f4.params[j]? = some t → args[j]? = some v → Value.okWide Tryd.prog W .any base t v)
  (hW : DataW.Whole enc Tryd.prog Tryd.f4.params.toList Rows.modsSumsSpec.vars false W args.toList ds gs before) (hL : laidMetH Tryd.prog Rows.modsSumsRow.laid W) (hSh : W.ShapedOpen Tryd.prog) :
  Calls Tryd.prog 4 args W fun e W' => ∃ v, e = .returned v ∧ Rows.modsSumsSpec.post enc Tryd.prog Tryd.f4 false true false false W args v W' := by
 have hW' := hW
 obtain ⟨p, q, hA0, hV, rfl, _, _⟩ := hW
 have hA : DataW.TrodAll enc Tryd.prog W 0 (fun _ => true) true Tryd.f4.params.toList args.toList ds p := hA0
 rw [Tryd.params4] at hA hval
 obtain ⟨v0, v1, v2, v3, e0, e1, e2, e3, p0, p1, p2, p3, rfl, rfl, rfl, h0, h1, h2, h3⟩ := trodAll_four hA
 obtain ⟨rfl, rfl⟩ := trodVars_none hV
 clear hA0
 simp only [List.append_nil] at hW'
 have hlt : ∀ x ∈ p0 ++ p1 ++ p2 ++ p3, x.block < W.heap.size := fun x hx => by simpa using hW'.lt x hx
 obtain ⟨z0, rfl, rfl, rfl, f0⟩ := open_int Tryd.underlying22 (hval 0 22 v0 rfl rfl) h0
 have b0 := bounds_u32 f0
 obtain ⟨n0, rfl⟩ : ∃ n : Nat, z0 = (n : Int) := ⟨z0.toNat, by omega⟩
 obtain ⟨z1, rfl, rfl, rfl, f1⟩ := open_int Tryd.underlying22 (hval 1 22 v1 rfl rfl) h1
 have b1 := bounds_u32 f1
 obtain ⟨n1, rfl⟩ : ∃ n : Nat, z1 = (n : Int) := ⟨z1.toNat, by omega⟩
 obtain ⟨z2, rfl, rfl, rfl, f2⟩ := open_int Tryd.underlying22 (hval 2 22 v2 rfl rfl) h2
 have b2 := bounds_u32 f2
 obtain ⟨n2, rfl⟩ : ∃ n : Nat, z2 = (n : Int) := ⟨z2.toNat, by omega⟩
 obtain ⟨z3, rfl, rfl, rfl, f3⟩ := open_int Tryd.underlying28 (hval 3 28 v3 rfl rfl) h3
 have b3 := bounds_u64 f3
 obtain ⟨n3, rfl⟩ : ∃ n : Nat, z3 = (n : Int) := ⟨z3.toNat, by omega⟩
 refine (msums_any n0 n1 n2 n3 (by omega) (by omega) (by omega) (by omega) W (t32_of hL)).mono fun e W' ⟨he, hb⟩ => ?_
 subst he
 refine ⟨_, rfl, _, _, _, [], ?pl, [], hW', ?_, ?_, rfl, hb.frame _, fun h => by cases h⟩
 rotate_left
 ·exact trodAll_mk1 (shut_bool Tryd.underlying4 _)
 ·exact trodAll_mk4 (shut_int Tryd.underlying22 f0) (shut_int Tryd.underlying22 f1) (shut_int Tryd.underlying22 f2) (shut_int Tryd.underlying28 f3)
/-- A world for the witness: the settled one, the tables as their initialisers lay them. -/
noncomputable def laidWorld (os : Os) : World := World.laidAll Tryd.prog os Rows.modsSumsRow.laid
theorem laid_met (os : Os) : laidMet Tryd.prog Rows.modsSumsRow.laid ((laidWorld os).forCall (fun _ _ => 0) ⟨#[], #[.int .u32 0, .int .u32 0, .int .u32 0, .int .u64 0], []⟩).memory :=
 laidMet_laidAll _ (by kernel_rfl) (by kernel_rfl)
theorem reads (os : Os) {H : Type} (enc : TypeId × Value → H) : ∃ places, DataW.whole enc Tryd.prog ((laidWorld os).forCall (fun _ _ => 0) ⟨#[], #[.int .u32 0, .int .u32 0, .int .u32 0, .int .u64 0], []⟩).memory Tryd.f4.params.toList Rows.modsSumsSpec.vars false (#[.int .u32 0, .int .u32 0, .int .u32 0, .int .u64 0] : Array Value).toList 8 = some ([.lit (.int .u32 0), .lit (.int .u32 0), .lit (.int .u32 0), .lit (.int .u64 0)], [], places) :=
 ⟨[], by kernel_rfl⟩
set_option maxRecDepth 100000 in
theorem lifted (os : Os) (started : os.Started) (H : Type) (enc : TypeId × Value → H) (F : Stop.Interp) :
  ReturnsInHanded {} Tryd.checked os 4 .any ((OpenSpec.ofChange Rows.modsSumsSpec).preRow enc Tryd.prog Tryd.f4 Rows.modsSumsRow.domain false Rows.modsSumsRow.laid) (((OpenSpec.ofChange Rows.modsSumsSpec).at F).post enc Tryd.prog Tryd.f4 false true false false) := by
 obtain ⟨places, hx⟩ := reads os enc
 refine returnsInHanded_of_row (C := Tryd.checked) (s := OpenSpec.ofChange Rows.modsSumsSpec) own started (by kernel_rfl) Tryd.func4
  (witness_row_at (enc := enc) (C := Tryd.checked) false (laidWorld os) #[.int .u32 0, .int .u32 0, .int .u32 0, .int .u64 0] (World.laidAll_os _ _ _) (by kernel_rfl) (by kernel_rfl) (by kernel_rfl)
   (OpenSpec.preRow_of_cond 8 hx (by kernel_rfl) (fun k hk => by cases hk) (by kernel_rfl) (laid_met os))) ?_
 intro W base args ds gs before hval hW _ _ _ hL hSh _
 exact contract H enc W base args ds gs before hval hW hL hSh
theorem said : Rows.ModsSumsSaid :=
 OpenClaim.holds_of_cond 4 Tryd.f4 rfl rfl rfl rfl rfl rfl rfl ⟨rfl, rfl, rfl, rfl, rfl⟩ rfl rfl rfl rfl rfl (by kernel_rfl) Tryd.func4 (by kernel_rfl)
  (of_decide_eq_true (by kernel_rfl)) (by unfold Func.isWrapper; first | (rw [if_pos (by decide +kernel)]; kernel_rfl) | (rw [if_neg (by decide +kernel)]; exact ⟨rfl, rfl⟩))
  (fun os started H enc _ F => by rw [OpenClaim.pre_eq_preRow]; exact lifted os started H enc F)
theorem plain (f : FuncId) (fn : Func) (hf : Tryd.pinned.checked.prog.funcNamed "gusset/gussetlaw06.ModsSums" = some f) (hfn : Tryd.pinned.checked.prog.funcs[f]? = some fn) :
  false = Tryd.pinned.checked.prog.looks [] ∧ ∀ (j : Nat) t, fn.params[j]? = some t → Tryd.pinned.checked.prog.wantsStandIn t = false := by
 obtain rfl : f = 4 := Option.some.inj ((show Tryd.prog.funcNamed "gusset/gussetlaw06.ModsSums" = some 4 by kernel_rfl).symm.trans hf) |>.symm
 obtain rfl : fn = Tryd.f4 := (Option.some.inj (Tryd.func4.symm.trans hfn)).symm
 refine ⟨by kernel_rfl, fun j t ht => ?_⟩
 rw [Tryd.params4] at ht
 have hm := Array.mem_of_getElem? ht
 simp only [List.mem_toArray, List.mem_cons, List.not_mem_nil, or_false] at hm
 rcases hm with rfl | rfl | rfl | rfl
 ·exact (show Tryd.prog.wantsStandIn 22 = false by kernel_rfl)
 ·exact (show Tryd.prog.wantsStandIn 22 = false by kernel_rfl)
 ·exact (show Tryd.prog.wantsStandIn 22 = false by kernel_rfl)
 ·exact (show Tryd.prog.wantsStandIn 28 = false by kernel_rfl)
end Go.Proofs.YtfmakoiiibacjaaDoor.modsSums
namespace Go.Proofs.YtfmakoiiibacjaaDoor
open Go.ChangeShapes Go.WideShapes Go.ChangeAt Go.RowKit
/-- THE CARD -/
theorem modsSumsProved : Rows.ModsSumsCardSaid :=
 Claim7.holds_tied_plain_at .later [] _ _ _ _ modsSums.said (fun _ h => by cases h) (by kernel_rfl) (fun _ h => by cases h) modsSums_row_tie rfl ⟨rfl, rfl⟩ (by kernel_rfl) rfl modsSums.plain (by kernel_rfl)
end Go.Proofs.YtfmakoiiibacjaaDoor
