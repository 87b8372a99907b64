/-
  The law answers true at every input, and leaves its arguments as they were: a part of the proof. CONDITIONS: the package-level tables start as the program's text lays them (the card ties them).
-/
import Derived.Test.YtdkjckiialnpnaaGreatDoorVra
import Derived.Laws.AppendOwnNone
set_option linter.unusedVariables false
set_option linter.unusedSimpArgs false
namespace Go.Proofs.YtdkjckiialnpnaaGreatDoor.Rx
open Go.RowKit
attribute [local irreducible] tv dg cmpI txt nb isq
theorem add_add (a : Addr) (i j : Nat) : (a.add i).add j = a.add (i + j) := by
 unfold Addr.add
 by_cases h : i = 0
 ·subst h; simp
 ·by_cases h2 : j = 0
  ·subst h2; simp [h]
  ·simp [h, h2, Nat.add_assoc]
theorem small_len {k : Nat} (hk : k ≤ 9999) : (td k).length ≤ 1 := td_length.2 (by rw [Nat.pow_one]; omega)
theorem own_one (w : World) (x : Int) : (w.alloc (.cells #[.int .i64 x] 3)).ownsRow w.heap.size 3 1 (.slice (some ⟨w.heap.size, 0, none⟩) 1 1) 1 [.int .i64 x] :=
 ⟨rfl, .inr ⟨w.heap.size, 1, #[.int .i64 x], rfl, Nat.le_refl _, heap_alloc_new w _, Nat.le_refl _, by unfold maxLen; omega, rfl, rfl⟩⟩
theorem slice_from (w : World) (aA : Addr) (L ca i1 : Nat) (h : i1 ≤ L) (hc : L ≤ ca) :
  (Instr.slice 38 (.slice (some aA) L ca) (some (.int .i64 (i1 : Int))) none none).run Tryz.prog w = .ok (.slice (some (if ca = i1 then aA else aA.add i1)) (L - i1) (ca - i1)) w := by
 obtain ⟨i0, hi, hz0, hz1, hz2⟩ := info_parts Tryz.infoI
 have h1 : (0 : Int) ≤ (i1 : Int) := by omega
 have h2 : (i1 : Int) ≤ (L : Int) := by omega
 by_cases hh : ca = i1
 ·simp [Instr.slice, Instr.sliceBounds, run_underlying Tryz.underlying38, run_sliceBound, h1, h2, hh, go_sem] <;> rfl
 ·simp [Instr.slice, Instr.sliceBounds, run_underlying Tryz.underlying38, run_sliceBound, h1, h2, hh, go_sem] <;> rfl
theorem made2 (w : World) (o : Obj) : ((w.alloc o).alloc (.cells #[] 3)).ownsRow (w.heap.size + 1) 3 1 (.slice (some ⟨w.heap.size + 1, 0, none⟩) 0 0) 0 [] := by
 have h := World.ownsRow_made (base := w.heap.size + 1) (e := 3) (size := 1) (w.alloc o) #[] 0 (by rw [World.size_alloc]; exact Nat.le_refl _) (Nat.zero_le _) rfl
 rwa [World.size_alloc] at h
/-- trim leaves the block that its argument looks into. -/
theorem trim_blk (v : Value) (l : List Nat) (hd : ∀ d ∈ l, d < 10000) (hB : l.length < 9223372036854775807) (w : World) (h : Sl w v l) :
  Calls Tryz.prog 147 #[v] w fun e w' => ∃ v', e = .returned v' ∧ Sl w v' (td (tv l)) ∧ v'.ownBlock = v.ownBlock ∧ w = w' := by
 obtain ⟨z, hz⟩ := td_tv hd
 rcases h with ⟨ao, c, rfl, rfl, hc0⟩ | ⟨a, c, rfl, h2, h3⟩
 ·refine (trim_nil ao c w).mono ?_
  rintro e w' ⟨rfl, rfl⟩
  exact ⟨_, rfl, .inl ⟨ao, c, rfl, by rw [tv_nil, td_zero], hc0⟩, rfl, rfl⟩
 ·have hlen : l.length = (td (tv l)).length + z := by
   have := congrArg List.length hz
   rwa [List.length_append, List.length_replicate] at this
  rw [hz] at h3
  rw [hlen] at h2 hB ⊢
  refine (trim_row a c _ z (td (tv l)) rfl h2 hB (fun h => td_last h) w h3).mono ?_
  rintro e w' ⟨rfl, rfl⟩
  exact ⟨_, rfl, .inr ⟨a, c, rfl, by omega, h3.left⟩, rfl, rfl⟩
theorem Sl.set_off {w : World} {v : Value} {l : List Nat} {g k : Nat} {u : Value} (h : Sl w v l) (ho : v.ownBlock ≠ some g) : Sl (w.setCell ⟨g, k, none⟩ u) v l := by
 rcases h with h | ⟨a, c, rfl, h2, h3⟩
 ·exact .inl h
 ·have hne : a.block ≠ g := fun e => ho (by rw [← e]; rfl)
  refine .inr ⟨a, c, rfl, h2, fun i hi => ?_, ?_⟩
  ·rw [← h3.cell i hi]
   exact World.cell?_of_block (by rw [addB]; exact Below.heap_setCell _ _ _ _ hne)
  ·have := h3.blk
   simpa [World.setCell] using this
theorem wpList_append_sl {w : World} {ops : Array Oper} {rest : List Oper} {o : Oper} {a : Act} {Q : Exit → Act → World → Prop} (hgd : o.guard = none) (s x : Operand)
  (ho : o.op = .call { callee := .builtin .append, args := #[s, x], argTypes := #[38, 38] })
  (base : Nat) (v : Value) (n : Nat) (xs : List Value) (hs : a.eval s = v) (hown : w.ownsRow base 3 1 v n xs)
  (v2 : Value) (l : List Nat) (hx : a.eval x = v2) (hsl : Sl w v2 l) (hn : n + l.length ≤ 1000000) (hbase : base ≤ w.heap.size)
  (h : ∀ v' w', w'.ownsRow base 3 1 v' (n + l.length) (xs ++ l.map iv) → w.grownBy w' v.ownBlock → wpList Tryz.prog ops Q rest (a.put o.dst v') w') : wpList Tryz.prog ops Q (o :: rest) a w := by
 obtain ⟨i0, hi, hz0, hz1, hz2⟩ := info_parts Tryz.infoI
 rcases hsl.src with ⟨e, rfl⟩ | ⟨ad, c, e, hnews⟩
 ·rw [e] at hx
  refine wpList_append_own_none hgd s x _ ho base 3 i0 1 Tryz.underlying38 hi v n xs hs hown hx (h v w ?_ ⟨rfl, rfl, rfl, Nat.le_refl _, fun _ _ _ => rfl⟩)
  simpa using hown
 ·rw [e] at hx
  exact wpList_append_own w hgd s x _ ho base 3 i0 (.int .i64 0) 1 8 Tryz.underlying38 hi hz0 hz1 hz2 rfl (by decide) v n xs hs hown ad l.length c (l.map iv) hx (by rw [List.length_map, Nat.mul_one]) hnews
   (fun u hu => by obtain ⟨y, -, rfl⟩ := List.mem_map.1 hu; rfl) (by unfold maxLen; omega) (by omega) hbase fun v' w' h1 h2 _ => h v' w' h1 h2
set_option maxHeartbeats 4000000 in
set_option maxRecDepth 100000 in
theorem rdiv_small (va vb : Value) (a b : Nat) (hab : a < b) (la : (td a).length ≤ 1000) (lb : (td b).length ≤ 1000) (w : World) (ha : Rn w va a) (hb : Rn w vb b) :
  Calls Tryz.prog 66 #[va, vb] w fun e w' => e = .returned (.tuple #[.slice none 0 0, va]) ∧ Below w.heap.size w w' := by
 have C := rcmp_any va vb a b (by omega) (by omega) w ha hb
 rw [cmpI_lt hab] at C
 replace C := Lib.hid C
 clear ha hb hab
 go_enter Tryz.func66, Tryz.ntmps66
 go_wp2_with fail
 with_reducible refine Calls.mono C.out ?_
 rintro e w1 ⟨rfl, hb1⟩
 go_wp2_with fail
 exact bodyPost_ret (v := .tuple #[.slice none 0 0, va]) (by simp [results, Tryz.results66, go_sem]) rfl ⟨rfl, hb1⟩
set_option maxHeartbeats 8000000 in
set_option maxRecDepth 100000 in
theorem rdiv_big (va vb : Value) (a b : Nat) (hab : b ≤ a) (hb0 : 0 < b) (la : (td a).length ≤ 1000) (w : World) (ha : Rn w va a) (hb : Rn w vb b) :
  Calls Tryz.prog 66 #[va, vb] w fun e w' => ∃ v1 v2, e = .returned (.tuple #[v1, v2]) ∧ Rn w' v1 (a / b) ∧ Rn w' v2 (a % b) ∧ Below w.heap.size w w' := by
 obtain ⟨i0, hi, hz0, hz1, hz2⟩ := info_parts Tryz.infoI
 obtain ⟨ao, ca, ea, hva⟩ := ha.view
 obtain ⟨bo, cb, eb⟩ := hb.form
 subst ea eb
 have lb := Nat.le_trans (td_mono hab) la
 have hML := td_mono hab
 obtain ⟨i1, hi1, hst⟩ := DivS.start hab hb0
 have hM0 : 0 < (td b).length := by
  rcases Nat.eq_zero_or_pos (td b).length with h | h
  ·have := td_nil.1 (List.eq_nil_of_length_eq_zero h); omega
  ·exact h
 have hAlt := td_lt a
 obtain ⟨F, hF⟩ : ∃ F, F = (td b).length - 3 := ⟨_, rfl⟩
 have hdrop := td_drop b F
 have ht0 : 0 < b / 10000 ^ F := by
  refine Nat.pos_of_ne_zero fun h => ?_
  rw [h, td_zero] at hdrop
  have := congrArg List.length hdrop
  rw [List.length_drop, List.length_nil] at this
  omega
 have Le := Lib.hid (fun (wx : World) (hh : Rn wx (.slice bo (td b).length cb) b) => rleading_any (.slice bo (td b).length cb) (td b) F (td_lt b) (by omega) (by omega) wx hh)
 rw [hdrop, tv_td] at Le
 have htb : b / 10000 ^ F < 1000000000000 := by
  have h1 : (td (b / 10000 ^ F)).length ≤ 3 := by rw [← hdrop, List.length_drop]; omega
  exact Nat.lt_of_lt_of_le (td_length.1 h1) (by decide)
 have C := Lib.hid (fun (wx : World) (h1 : Rn wx (.slice ao (td a).length ca) a) (h2 : Rn wx (.slice bo (td b).length cb) b) => rcmp_any _ _ a b (by omega) (by omega) wx h1 h2)
 have hcw : decide (cmpI a b < 0) = false := decide_eq_false (by unfold cmpI; split <;> (try split) <;> omega)
 generalize cmpI a b = z at *
 obtain ⟨t, ht⟩ : ∃ t, t = b / 10000 ^ F := ⟨_, rfl⟩
 rw [← ht] at Le ht0 htb
 -- the search for a digit
 have low := fun y => lead_low (y := y) ht
 have high := fun y => lead_high (y := y) ht ht0
 have lead := Lib.hid (fun (v : Value) (y : Nat) (hy : y < 10000 * b) (wx : World) (hv : Rn wx v y) => rleading_any v (td y) F (td_lt y) (by omega) (by
  have h1 : (td y).length ≤ (td b).length + 1 := td_length.2 (by
   have := td_length.1 (Nat.le_refl (td b).length)
   rw [Nat.pow_succ]; omega)
  omega) wx hv)
 have fb : ∀ y, y < 10000 * b → y / 10000 ^ F < 20000000000000000 := fun y hy => by
  have hp : 0 < 10000 ^ F := Nat.pow_pos (by omega)
  have h1 : b < 10000 ^ F * (t + 1) := by
   have := Nat.lt_mul_div_succ b hp
   rwa [← ht] at this
  refine (Nat.div_lt_iff_lt_mul hp).2 ?_
  have h2 : 10000 * b < 10000 * (10000 ^ F * (t + 1)) := Nat.mul_lt_mul_of_pos_left h1 (by omega)
  have h3 : 10000 ^ F * (t + 1) ≤ 10000 ^ F * 1000000000000 := Nat.mul_le_mul_left _ (by omega)
  generalize 10000 ^ F * (t + 1) = p at *
  generalize 10000 ^ F = q at *
  omega
 have MB := Lib.hid (fun (k : Nat) (hk : k ≤ 9999) (vx : Value) (wx : World) (h1 : Rn wx (.slice bo (td b).length cb) b) (h2 : Rn wx vx k) => rmul_any (.slice bo (td b).length cb) vx b k (by omega) (Nat.le_trans (small_len hk) (by omega)) wx h1 h2)
 have hbk : ∀ k, k ≤ 9999 → (td (b * k)).length ≤ 1001 := fun k hk => Nat.le_trans (td_mul_le lb (small_len hk)) (by omega)
 have hyl : ∀ y, y < 10000 * b → (td y).length ≤ 1001 := fun y hy => by
  have h1 : (td y).length ≤ (td b).length + 1 := td_length.2 (by
   have := td_length.1 (Nat.le_refl (td b).length)
   rw [Nat.pow_succ]; omega)
  omega
 have CM := Lib.hid (fun (k : Nat) (hk : k ≤ 9999) (y : Nat) (hy : y < 10000 * b) (vx vy : Value) (wx : World) (h1 : Rn wx vx (b * k)) (h2 : Rn wx vy y) => rcmp_any vx vy (b * k) y (Nat.le_trans (hbk k hk) (by omega)) (Nat.le_trans (hyl y hy) (by omega)) wx h1 h2)
 have SB := Lib.hid (fun (k y : Nat) (hy : y < 10000 * b) (hle : b * k ≤ y) (vx vy : Value) (wx : World) (h1 : Rn wx vy y) (h2 : Rn wx vx (b * k)) => rsub_any vy vx y (b * k) (Nat.le_trans (hyl y hy) (by omega)) hle wx h1 h2)
 have hTR : ∀ (x y r : Nat) (hy : y = x + 10000 * r) (hx : x < 10000) (hyb : y < 10000 * b) (v : Value) (wx : World), Sl wx v (x :: td r) → Calls Tryz.prog 147 #[v] wx fun e w' => ∃ v', e = .returned v' ∧ Rn w' v' y ∧ v'.ownBlock = v.ownBlock ∧ wx = w' := fun x y r hy hx hyb v wx hv => by
  have h1 : tv (x :: td r) = y := by rw [tv_cons, tv_td, hy]
  have h2 : (td r).length ≤ 1001 := Nat.le_trans (td_mono (show r ≤ y by omega)) (hyl y hyb)
  have := trim_blk v (x :: td r) (fun d hd => by
   rcases List.mem_cons.1 hd with rfl | hd
   ·exact hx
   ·exact td_lt r d hd) (by rw [List.length_cons]; omega) wx hv
  rw [h1] at this
  refine Calls.mono this ?_
  rintro e w' ⟨v', rfl, h, h', rfl⟩
  exact ⟨v', rfl, h, h', rfl⟩
 replace hTR := Lib.hid hTR
 clear hbk hyl hdrop ht
 obtain ⟨L, hL⟩ : ∃ L, L = (td a).length := ⟨_, rfl⟩
 obtain ⟨M, hM⟩ : ∃ M, M = (td b).length := ⟨_, rfl⟩
 rw [← hL] at la ha hva C hi1 hML ⊢
 rw [← hM] at lb hb C Le MB hi1 hM0 hF hML ⊢
 obtain ⟨aA, rfl, hca, hsd⟩ := hva (by omega)
 have hsd := Lib.hid hsd
 obtain ⟨ad, had⟩ : ∃ ad, ad = (if ca = i1 then aA else aA.add i1) := ⟨_, rfl⟩
 obtain ⟨r0, hr0⟩ : ∃ r0, r0 = a / 10000 ^ i1 := ⟨_, rfl⟩
 have htr : (td a).drop i1 = td r0 := by rw [hr0, td_drop]
 have hmk : ∀ w, (Instr.makeSlice 38 (.int .i64 (i1 : Int)) (.int .i64 (i1 : Int))).run Tryz.prog w = .ok (.slice (some ⟨w.heap.size, 0, none⟩) i1 i1) (w.alloc (zobjI i1)) :=
  fun w => makeN w _ i1 rfl (by omega)
 have hsf : ∀ w, (Instr.slice 38 (.slice (some aA) L ca) (some (.int .i64 (i1 : Int))) none none).run Tryz.prog w = .ok (.slice (some ad) (L - i1) (ca - i1)) w :=
  fun w => by rw [had]; exact slice_from w aA L ca i1 (by omega) hca
 have hsr : ∀ wx, Below w.heap.size w wx → Sl wx (.slice (some ad) (L - i1) (ca - i1)) (td r0) := by
  intro wx hbx
  have hlr : (td r0).length = L - i1 := by rw [← htr, List.length_drop, ← hL]
  by_cases hz : L = i1
  ·exact .inl ⟨some ad, ca - i1, by rw [hz, Nat.sub_self], List.eq_nil_of_length_eq_zero (by rw [hlr, hz, Nat.sub_self]), fun h => by simp at h⟩
  ·have hne : ca ≠ i1 := by omega
   rw [if_neg hne] at had
   refine .inr ⟨ad, ca - i1, by rw [hlr], by omega, fun j hj => ?_, ?_⟩
   ·have hjl : i1 + j < (td a).length := by omega
    have := (hsd.out.below hbx).cell (i1 + j) hjl
    rw [had, add_add, this]
    congr 3
    simp only [← htr, List.getElem_drop]
   ·rw [had, addB]; exact (hsd.out.below hbx).blk
 have hLM : (L : Int) - (M : Int) + 1 = (i1 : Int) := by omega
 obtain ⟨m1, hm1⟩ : ∃ m1, m1 = L - i1 := ⟨_, rfl⟩
 have hLi : L - i1 = m1 := hm1.symm
 have hm1b : m1 ≤ 1000 := by omega
 have hiL : (i1 : Int) ≤ (L : Int) := by omega
 have hi0 : (1 : Int) ≤ (i1 : Int) := by omega
 have hm1' := Lib.hid (show m1 = L - i1 ∧ i1 + M = L + 1 ∧ M ≤ L from ⟨hm1, hi1, by omega⟩)
 clear hm1
 have hmax : max (0 : Int) ((M : Int) - 3) = (F : Int) := by omega
 replace ha := Lib.hid ha
 replace hb := Lib.hid hb
 have hm1r : (td r0).length = m1 := by rw [← htr, List.length_drop, ← hL, hLi]
 rw [htr, tv_td] at hst
 rw [hLi] at hsr
 replace hst := Lib.hid hst
 replace hsr := Lib.hid hsr
 replace htr := Lib.hid htr
 replace hr0 := Lib.hid hr0
 replace hca := Lib.hid hca
 replace had := Lib.hid had
 clear hva
 replace hL := Lib.hid hL
 replace hM := Lib.hid hM
 replace hAlt := Lib.hid hAlt
 replace low := Lib.hid low
 replace high := Lib.hid high
 replace fb := Lib.hid fb
 have hi1' := Lib.hid hi1
 have hF' := Lib.hid hF
 have k1 : (M : Int) ≤ (L : Int) := by omega
 clear hi1 hF
 go_enter Tryz.func66, Tryz.ntmps66
 go_wp2_with fail
 with_reducible refine Calls.mono (C.out _ ha.out hb.out) ?_
 rintro e w1 ⟨rfl, hb1⟩
 go_wp2_with fail
 with_reducible refine Calls.mono (Le.out _ (hb.out.below hb1)) ?_
 rintro e w2 ⟨rfl, rfl⟩
 have hD0 := ((hb1.alloc hb1.size (zobjI i1)).alloc (by rw [World.size_alloc]; have := hb1.size; omega) (.cells #[] 3))
 have hr0S := Lib.hid (hsr.out _ hD0)
 have hm1r' : 0 + (td r0).length ≤ 1000000 := by omega
 replace hD0 := Lib.hid hD0
 replace hm1r' := Lib.hid hm1r'
 go_wp2_with (at_builtin; refine wpList_append_sl rfl _ _ rfl (w1.heap.size + 1) _ 0 [] rfl (made2 _ _) _ (td r0) rfl hr0S.out hm1r'.out (by simp) ?_)
 intro v2 w2 hown hgrow
 have hB2 : Below (w1.heap.size + 1) (w1.alloc (zobjI i1)) w2 := ((Below.refl _ _).alloc (by rw [World.size_alloc]; exact Nat.le_refl _) _).grown hgrow (by simp [World.size_alloc]) (fun j hj => by simp [Value.ownBlock] at hj; omega)
 have hX0 := (IB.zeros w1 i1).below hB2 (Nat.lt_succ_self _)
 have hgB : w.heap.size ≤ w1.heap.size := hb1.size
 have hD2 := (hb1.alloc hb1.size (zobjI i1)).trans (hB2.mono (Nat.le_trans hgB (Nat.le_succ _)))
 have hR2 : Rn w2 v2 r0 := Sl.owned hown hm1r.symm
 clear hown hgrow hB2 hD0 hr0S hsf hsr hmk hm1r'
 replace hX0 := Lib.hid hX0
 replace hR2 := Lib.hid hR2
 obtain ⟨g, hg⟩ : ∃ g, g = w1.heap.size := ⟨_, rfl⟩
 rw [← hg] at hX0 hgB ⊢
 clear hg
 go_wp2_with fail
 go_loopw [8, 10] (fun zv rv wr => ∃ (j : Nat) (X : List Nat) (r : Nat), zv = .int .i64 ((j : Int) - 1) ∧ j ≤ i1 ∧ X.length = i1 ∧ DivS a b (td a) X j r ∧ IB wr g X ∧ Rn wr rv r ∧ Below w.heap.size w wr) (fun zv _ _ => (intOf zv + 1).toNat)
 case atStart => exact ⟨i1, _, r0, (by rw [show (L : Int) - (M : Int) = (i1 : Int) - 1 by omega]), Nat.le_refl _, List.length_replicate, hst.out, hX0.out, hR2.out, hD2⟩
 case round =>
  obtain ⟨j, X, r, rfl, hj, hXl, hS, hX, hr, hbl⟩ := hrel
  clear hX0 hR2 hst hD2 C Le
  cases j with
  | zero =>
   have HT := trim_any _ X hS.lt (by rw [hXl]; omega) wr (hX.sl i1 (by omega))
   obtain ⟨hq, hrm⟩ := hS.done
   rw [hq, hXl] at HT
   replace HT := Lib.hid HT
   rw [hrm] at hr
   obtain ⟨ro, rc, erv⟩ := hr.form
   subst erv
   replace hr := Lib.hid hr
   clear hS hX hXl hq hrm
   go_wp2_with fail
   with_reducible refine Calls.mono HT.out ?_
   rintro e w3 ⟨v', rfl, hv, rfl⟩
   replace hv := Lib.hid hv
   go_wp2_with fail
   exact bodyPost_ret (v := .tuple #[v', .slice ro (td (a % b)).length rc]) (by simp [results, Tryz.results66, go_sem]) rfl ⟨_, _, rfl, hv.out, hr.out, hbl⟩
  | succ k =>
   have hki : k < i1 := by omega
   have hkL : k < L := by omega
   have e1 : (((k + 1 : Nat) : Int) - 1) = (k : Int) := by omega
   have hxb : dg (td a) k < 10000 := dg_lt hAlt.out k
   have hcell : wr.cell? (aA.add k) = some (.int .i64 ((dg (td a) k : Nat) : Int)) := by
    rw [dg_in (by rw [← hL.out]; exact hkL)]
    exact (hsd.out.below hbl).cell k (by rw [← hL.out]; exact hkL)
   have hkX : k < X.length := by rw [hXl]; exact hki
   obtain ⟨y, hy⟩ : ∃ y, y = dg (td a) k + 10000 * r := ⟨_, rfl⟩
   obtain ⟨hq9, hN⟩ := hS.step hAlt.out hkX hy
   generalize dg (td a) k = x at *
   have hrb := hS.rem
   have hyb : y < 10000 * b := by omega
   have hlr : (td r).length ≤ 1000 := Nat.le_trans (td_mono (Nat.le_of_lt hrb)) (by rw [← hM.out]; exact lb)
   obtain ⟨f, hf⟩ : ∃ f, f = y / 10000 ^ F := ⟨_, rfl⟩
   have hfb : f < 20000000000000000 := by rw [hf]; exact fb.out y hyb
   have LD := Lib.hid (fun (v : Value) (wx : World) (h : Rn wx v y) => lead.out v y hyb wx h)
   rw [td_drop, tv_td, ← hf] at LD
   obtain ⟨l0, hl0⟩ : ∃ l0, l0 = f / (t + 1) := ⟨_, rfl⟩
   obtain ⟨h0, hh0⟩ : ∃ h0, h0 = f / t := ⟨_, rfl⟩
   obtain ⟨h9, hh9⟩ : ∃ h9, h9 = min h0 9999 := ⟨_, rfl⟩
   have m1q : l0 * b ≤ y := by rw [hl0, hf]; exact low.out y
   have m2q : y / b ≤ h0 := by rw [hh0, hf]; exact high.out y
   have m3q : y / b ≤ h9 := by omega
   have m4q : l0 ≤ y / b := (Nat.le_div_iff_mul_le hb0).2 m1q
   have m5q : l0 ≤ h9 := Nat.le_trans m4q m3q
   have m6q : y < b * (h9 + 1) := by
    have := (Nat.div_lt_iff_lt_mul hb0).1 (Nat.lt_succ_of_le m3q)
    rwa [Nat.mul_comm] at this
   have m7q : h9 ≤ 9999 := by omega
   have i1q : (f : Int) / ((t : Int) + 1) = (l0 : Int) := by rw [hl0]; exact (Int.natCast_ediv f (t + 1)).symm
   have i2q : (f : Int) / (t : Int) = (h0 : Int) := by rw [hh0]; exact (Int.natCast_ediv f t).symm
   have i3q : min (h0 : Int) 9999 = (h9 : Int) := by omega
   have h0b : h0 ≤ f := by rw [hh0]; exact Nat.div_le_self _ _
   have hTR1 := Lib.hid (fun v wx h => hTR.out x y r hy hxb hyb v wx h)
   rw [Nat.mul_comm] at m1q
   replace m1q := Lib.hid m1q
   replace m6q := Lib.hid m6q
   replace hN := Lib.hid hN
   replace hy := Lib.hid hy
   replace hq9 := Lib.hid hq9
   replace hr := Lib.hid hr
   replace hkX := Lib.hid hkX
   replace hXl := Lib.hid hXl
   have hcX := hX.cell k hkX.out
   have hfX := hX.frozen k
   replace hX := Lib.hid hX
   replace hyb := Lib.hid hyb
   clear hS m2q m3q m4q hf hl0 hh0 hh9 lead hTR low high fb hrb
   rw [e1]
   have hrA := Lib.hid (hr.out.below ((Below.refl wr.heap.size wr).alloc (Nat.le_refl _) (.cells #[.int .i64 (x : Int)] 3)))
   have hlr1 := Lib.hid (show 1 + (td r).length ≤ 1000000 by omega)
   clear hlr
   go_wp2_with (at_builtin; refine wpList_append_sl rfl _ _ rfl wr.heap.size _ 1 [.int .i64 (x : Int)] rfl (own_one wr x) _ (td r) rfl hrA.out hlr1.out (by simp) ?_)
   intro v3 w3 hown hgrow
   have hs3 := Lib.hid (show Sl w3 v3 (x :: td r) from Sl.owned hown (by rw [List.length_cons, Nat.add_comm]))
   have hB3 : Below wr.heap.size wr w3 := ((Below.refl _ _).alloc (Nat.le_refl _) _).grown hgrow (by simp) (fun j hj => by simp [Value.ownBlock] at hj; omega)
   have hD3 := hbl.trans (hB3.mono hbl.size)
   have hX3 := Lib.hid (hX.out.below hB3 hX.out.lt)
   have ho3 : v3.ownBlock ≠ some g := fun e => by
    have := (hown.lt g e).1
    have := hX.out.lt
    omega
   clear hown hgrow hB3 hX hbl hcX hfX hcell hrA hr hlr1
   go_wp2_with fail
   with_reducible refine Calls.mono (hTR1.out _ _ hs3.out) ?_
   rintro e w4 ⟨v4, rfl, hv4, ho4, rfl⟩
   rw [← ho4] at ho3
   replace ho3 := Lib.hid ho3
   clear ho4
   replace hv4 := Lib.hid hv4
   clear hs3
   go_wp2_with fail
   with_reducible refine Calls.mono (LD.out _ _ hv4.out) ?_
   rintro e w4 ⟨rfl, rfl⟩
   have t1 : ¬ (t : Int) + 1 = 0 := by omega
   have t2 : ¬ (t : Int) = 0 := by omega
   go_wp2_with fail
   go_quiet (fail)
   go_wp2_with fail
   have hX3' := Lib.hid (hX3.out.drewN nq)
   have hD3' := ibdrew hD3 nq
   have hv4' := Lib.hid (show Rn (w3.drewN nq) v4 y from hv4.out.below (ibdrew (Below.refl _ _) nq))
   generalize hW4 : w3.drewN nq = w4 at *
   clear hW4 hX3 hD3 hv4
   go_loopw [12, 13] (fun lv hv wx => ∃ (l h : Nat), lv = .int .i64 (l : Int) ∧ hv = .int .i64 (h : Int) ∧ l ≤ h ∧ h ≤ 9999 ∧ b * l ≤ y ∧ y < b * (h + 1) ∧ IB wx g X ∧ Rn wx v4 y ∧ Below w.heap.size w wx) (fun lv hv _ => (intOf hv - intOf lv).toNat)
   case atStart => exact ⟨l0, h9, rfl, rfl, m5q, m7q, m1q.out, m6q.out, hX3'.out, hv4'.out, hD3'⟩
   case round =>
    obtain ⟨l, h, rfl, rfl, hlh, hh9, hq1, hq2, hXb, hvb, hbl⟩ := hrel
    replace hq1 := Lib.hid hq1
    replace hq2 := Lib.hid hq2
    have hXlt := hXb.lt
    clear hX3' hD3' hv4' m1q m6q m5q m7q i1q i2q i3q h0b hfb t1 t2 LD hTR1
    rcases Nat.lt_or_ge l h with hlt | hge
    ·have k2 : (l : Int) < (h : Int) := by omega
     obtain ⟨mid, hmid⟩ : ∃ mid, mid = (l + h + 1) / 2 := ⟨_, rfl⟩
     have hmv : ((l : Int) + (h : Int) + 1) / 2 = (mid : Int) := by omega
     have hm1 : l < mid := by omega
     have hm2 : mid ≤ h := by omega
     have hm9 : mid ≤ 9999 := by omega
     have hmidy : mid = (mid - 1) + 1 := by omega
     have OF := Lib.hid (fun wx => rof_any mid (by omega) wx)
     have hmB := Lib.hid (fun vx wx h1 h2 => MB.out mid hm9 vx wx h1 h2)
     have hcM := Lib.hid (fun vx wx h1 h2 => CM.out mid hm9 y hyb.out vx v4 wx h1 h2)
     replace hmid := Lib.hid hmid
     replace hmidy := Lib.hid hmidy
     replace hXb := Lib.hid hXb
     replace hvb := Lib.hid hvb
     go_wp2_with fail
     with_reducible refine Calls.mono (OF.out _) ?_
     rintro e w5 ⟨v5, rfl, hv5, hb5⟩
     replace hv5 := Lib.hid hv5
     have B5 := hbl.trans (hb5.mono hbl.size)
     have hvb5 := Lib.hid (hvb.out.below hb5)
     have hX5 := Lib.hid (hXb.out.below hb5 hXb.out.lt)
     clear hb5
     go_wp2_with fail
     with_reducible refine Calls.mono (hmB.out _ _ (hb.out.below B5) hv5.out) ?_
     rintro e w6 ⟨v6, rfl, hv6, hb6⟩
     replace hv6 := Lib.hid hv6
     have B6 := B5.trans (hb6.mono B5.size)
     have hvb6 := Lib.hid (hvb5.out.below hb6)
     have hX6 := Lib.hid (hX5.out.below hb6 hX5.out.lt)
     clear hb6 B5
     by_cases hle : b * mid ≤ y
     ·have k3 : decide (cmpI (b * mid) y ≤ 0) = true := decide_eq_true (by unfold cmpI; split <;> (try split) <;> omega)
      replace hle := Lib.hid hle
      generalize cmpI (b * mid) y = zz at *
      go_wp2_with fail
      with_reducible refine Calls.mono (hcM.out _ _ hv6.out hvb6.out) ?_
      rintro e w7 ⟨rfl, hb7⟩
      have B7 := B6.trans (hb7.mono B6.size)
      have hvb7 := Lib.hid (hvb6.out.below hb7)
      have hX7 := Lib.hid (hX6.out.below hb7 hX6.out.lt)
      clear hb7 B6
      go_wp2_with fail
      go_roundw
      case rel => exact ⟨mid, h, rfl, rfl, hm2, hh9, hle.out, hq2.out, hX7.out, hvb7.out, B7⟩
      case measure => simp [intOf]; omega
     ·have k3 : decide (cmpI (b * mid) y ≤ 0) = false := decide_eq_false (by rw [cmpI_gt (by omega)]; omega)
      replace hle := Lib.hid hle
      generalize cmpI (b * mid) y = zz at *
      go_wp2_with fail
      with_reducible refine Calls.mono (hcM.out _ _ hv6.out hvb6.out) ?_
      rintro e w7 ⟨rfl, hb7⟩
      have B7 := B6.trans (hb7.mono B6.size)
      have hvb7 := Lib.hid (hvb6.out.below hb7)
      have hX7 := Lib.hid (hX6.out.below hb7 hX6.out.lt)
      clear hb7 B6
      go_wp2_with fail
      go_roundw
      case rel => exact ⟨l, mid - 1, rfl, by first | rfl | go_num, by omega, by omega, hq1.out, (by rw [← hmidy.out]; exact Nat.lt_of_not_le hle.out), hX7.out, hvb7.out, B7⟩
      case measure => simp [intOf]; omega
    ·obtain rfl : l = h := by omega
     have k2 : ¬ (l : Int) < (l : Int) := by omega
     have hyd : y / b = l := Nat.div_eq_of_lt_le (by rw [Nat.mul_comm]; exact hq1.out) (by rw [Nat.mul_comm]; exact hq2.out)
     rw [hyd] at hN hq9
     have OF := Lib.hid (fun wx => rof_any l (by omega) wx)
     have hmB := Lib.hid (fun vx wx h1 h2 => MB.out l hh9 vx wx h1 h2)
     have hsB := Lib.hid (fun vx wx h1 h2 => SB.out l y hyb.out hq1.out vx v4 wx h1 h2)
     have hcX := hXb.cell k hkX.out
     have hfX := hXb.frozen k
     have hb1 := hbl.setCell (p := ⟨g, k, none⟩) hgB (.int .i64 (l : Int))
     have hXs := Lib.hid (hXb.set k l)
     have hvs := Lib.hid (Sl.set_off (k := k) (u := .int .i64 (l : Int)) hvb ho3.out)
     replace hXb := Lib.hid hXb
     go_wp2_with fail
     with_reducible refine Calls.mono (OF.out _) ?_
     rintro e w5 ⟨v5, rfl, hv5, hb5⟩
     replace hv5 := Lib.hid hv5
     have B5 := hb1.trans (hb5.mono hb1.size)
     have hvb5 := Lib.hid (hvs.out.below hb5)
     have hX5 := Lib.hid (hXs.out.below hb5 hXs.out.lt)
     clear hb5 hXs hvs hcX hfX hb1
     go_wp2_with fail
     with_reducible refine Calls.mono (hmB.out _ _ (hb.out.below B5) hv5.out) ?_
     rintro e w6 ⟨v6, rfl, hv6, hb6⟩
     replace hv6 := Lib.hid hv6
     have B6 := B5.trans (hb6.mono B5.size)
     have hvb6 := Lib.hid (hvb5.out.below hb6)
     have hX6 := Lib.hid (hX5.out.below hb6 hX5.out.lt)
     clear hb6 B5
     go_wp2_with fail
     with_reducible refine Calls.mono (hsB.out _ _ hvb6.out hv6.out) ?_
     rintro e w7 ⟨v7, rfl, hv7, hb7⟩
     replace hv7 := Lib.hid hv7
     have B7 := B6.trans (hb7.mono B6.size)
     have hX7 := Lib.hid (hX6.out.below hb7 hX6.out.lt)
     clear hb7 B6
     go_wp2_with fail
     go_roundw
     case rel => exact ⟨k, X.set k l, y - b * l, by first | rfl | go_num, by omega, by rw [List.length_set]; exact hXl.out, hN.out, hX7.out, hv7.out, B7⟩
     case measure => simp [intOf]
set_option maxHeartbeats 4000000 in
/-- Div, for b above 0. -/
theorem rdiv_any (va vb : Value) (a b : Nat) (hb0 : 0 < b) (la : (td a).length ≤ 1000) (lb : (td b).length ≤ 1000) (w : World) (ha : Rn w va a) (hb : Rn w vb b) :
  Calls Tryz.prog 66 #[va, vb] w fun e w' => ∃ v1 v2, e = .returned (.tuple #[v1, v2]) ∧ Rn w' v1 (a / b) ∧ Rn w' v2 (a % b) ∧ Below w.heap.size w w' := by
 rcases Nat.lt_or_ge a b with h | h
 ·refine (rdiv_small va vb a b h la lb w ha hb).mono ?_
  rintro e w' ⟨rfl, hbl⟩
  refine ⟨_, _, rfl, ?_, ?_, hbl⟩
  ·rw [Nat.div_eq_of_lt h]
   show Sl w' _ (td 0)
   rw [td_zero]; exact Sl.nil w'
  ·rw [Nat.mod_eq_of_lt h]; exact ha.below hbl
 ·exact rdiv_big va vb a b h hb0 la w ha hb
end Go.Proofs.YtdkjckiialnpnaaGreatDoor.Rx
namespace Go.Proofs.YtdkjckiialnpnaaGreatDoor.Rx
open Go.RowKit
attribute [local irreducible] tv dg cmpI txt nb isq
theorem Sl.inj {w : World} {v : Value} {l m : List Nat} (h : Sl w v l) (k : Sl w v m) : l = m := by
 rcases h with ⟨ao, c, e1, rfl, -⟩ | ⟨a, c, e1, -, h3⟩
 ·rcases k with ⟨_, _, _, rfl, -⟩ | ⟨a', c', e2, -, -⟩
  ·rfl
  ·rw [e1] at e2
   injection e2 with _ e3 _
   exact (List.eq_nil_of_length_eq_zero e3.symm).symm
 ·rcases k with ⟨_, _, e2, rfl, -⟩ | ⟨a', c', e2, -, k3⟩
  ·rw [e1] at e2
   injection e2 with _ e3 _
   exact List.eq_nil_of_length_eq_zero e3
  ·rw [e1] at e2
   injection e2 with e4 e3 _
   injection e4 with e4
   subst e4
   refine List.ext_getElem e3 fun i h1 h2 => ?_
   have := (h3.cell i h1).symm.trans (k3.cell i h2)
   injection this with this
   injection this with _ this
   exact Int.ofNat.inj this
theorem Rn.inj {w : World} {v : Value} {x y : Nat} (h : Rn w v x) (k : Rn w v y) : x = y := by
 have := congrArg tv (Sl.inj h k)
 rwa [tv_td, tv_td] at this
open Classical in
noncomputable def dec (w : World) (v : Value) : Nat := if h : ∃ y, Rn w v y then h.choose else 0
theorem dec_eq {w : World} {v : Value} {y : Nat} (h : Rn w v y) : dec w v = y := by
 unfold dec
 rw [dif_pos ⟨y, h⟩]
 exact Rn.inj (Exists.choose_spec (⟨y, h⟩ : ∃ y, Rn w v y)) h
set_option maxHeartbeats 4000000 in
set_option maxRecDepth 100000 in
theorem rgcd_any (va vb : Value) (a b : Nat) (la : (td a).length ≤ 1000) (lb : (td b).length ≤ 1000) (w : World) (ha : Rn w va a) (hb : Rn w vb b) :
  Calls Tryz.prog 189 #[va, vb] w fun e w' => ∃ v, e = .returned v ∧ Rn w' v (Nat.gcd a b) ∧ Below w.heap.size w w' := by
 replace ha := Lib.hid ha
 replace hb := Lib.hid hb
 go_enter Tryz.func189, Tryz.ntmps189
 go_wp2_with fail
 go_loopw [0, 1] (fun av bv wr => ∃ (x y : Nat), Rn wr av x ∧ Rn wr bv y ∧ Nat.gcd x y = Nat.gcd a b ∧ (td x).length ≤ 1000 ∧ (td y).length ≤ 1000 ∧ Below w.heap.size w wr) (fun _ bv wr => dec wr bv)
 case atStart => exact ⟨a, b, ha.out, hb.out, rfl, la, lb, Below.refl _ _⟩
 case round =>
  obtain ⟨x, y, hx, hy, hg, lx, ly, hbl⟩ := hrel
  clear ha hb
  have hm := Lib.hid (dec_eq hy)
  obtain ⟨yo, yc, ey⟩ := hy.form
  obtain ⟨xo, xc, ex⟩ := hx.form
  subst ey ex
  obtain ⟨M, hM⟩ : ∃ M, M = (td y).length := ⟨_, rfl⟩
  rcases Nat.eq_zero_or_pos y with h0 | h0
  ·have hM0 : M = 0 := by rw [hM, h0, td_zero]; rfl
   have hgx : x = Nat.gcd a b := by rw [← hg, h0, Nat.gcd_zero_right]
   rw [← hM, hM0]
   rw [hgx] at hx
   rw [hgx]
   replace hx := Lib.hid hx
   clear hy hm hM hM0 hg hgx
   go_wp2_with fail
   go_ret
   exact ⟨_, rfl, hx.out, hbl⟩
  ·have D := Lib.hid (rdiv_any _ _ x y h0 lx ly wr hx hy)
   rw [← hM] at hy ly D hm ⊢
   have hMp : (0 : Int) < (M : Int) := by
    have : M ≠ 0 := fun h => by
     have := td_nil.1 (List.eq_nil_of_length_eq_zero (hM.symm.trans h))
     omega
    omega
   replace hy := Lib.hid hy
   replace hM := Lib.hid hM
   clear hx
   generalize (td x).length = N at *
   go_wp2_with fail
   with_reducible refine Calls.mono D.out ?_
   rintro e w1 ⟨v1, v2, rfl, h1, h2, hb1⟩
   replace h2 := Lib.hid h2
   clear h1
   have hyb := Lib.hid (hy.out.below hb1)
   have hD := hbl.trans (hb1.mono hbl.size)
   go_wp2_with fail
   go_roundw
   case rel => exact ⟨y, x % y, hyb.out, h2.out, (by rw [← hg, Nat.gcd_comm x y, Nat.gcd_rec y x, Nat.gcd_comm]), (by rw [← hM.out]; exact ly), Nat.le_trans (td_mono (Nat.le_of_lt (Nat.mod_lt x h0))) (by rw [← hM.out]; exact ly), hD⟩
   case measure => rw [dec_eq h2.out, hm.out]; exact Nat.mod_lt x h0
end Go.Proofs.YtdkjckiialnpnaaGreatDoor.Rx
namespace Go.Proofs.YtdkjckiialnpnaaGreatDoor
open Go.RowKit Go.Proofs.YtdkjckiialnpnaaGreatDoor.Rx
attribute [local irreducible] lo hs sm s64 c64 d64 b64 mh ml pd pc qd qc val hiB str cmpI srD lz nb isq zl zh zs dval
theorem td_of_digs {n k : Nat} (h : (digs n).length ≤ k) : (td n).length ≤ 5 * k := by
 rw [td_length, Nat.pow_mul]
 refine Nat.lt_of_lt_of_le (digs_length_iff.1 h) (Nat.pow_le_pow_left ?_ k)
 unfold Bs; omega
theorem Sz.tn {q : Rat} {k : Nat} (h : Sz q k) : (td q.num.natAbs).length ≤ 5 * k := td_of_digs h.1
theorem Sz.tdn {q : Rat} {k : Nat} (h : Sz q k) : (td q.den).length ≤ 5 * k := td_of_digs h.2
theorem Sz.tf {q : Rat} {k : Nat} (h : Sz q k) : (td (fd q)).length ≤ 5 * k := Nat.le_trans (td_mono (Nat.sub_le _ _)) h.tdn
theorem fd_succ (q : Rat) : fd q + 1 = q.den := by have := q.den_nz; unfold fd; omega
theorem td_one : (td 1).length ≤ 1 := by rw [td_length]; omega
theorem one_r (w : World) : Calls Tryz.prog 69 #[.int .u64 1] w fun e w' => ∃ v, e = .returned v ∧ Rn w' v 1 ∧ Below w.heap.size w w' := rof_val 1 1 rfl (by omega) w
theorem rone (w : World) : Calls Tryz.prog 144 #[] w fun e w' => ∃ v, e = .returned v ∧ Rn w' v 1 ∧ Below w.heap.size w w' := rone_w one_r w
/-- From, of a sign and a size. -/
theorem rz_from (b : Bool) (n : Nat) (z : Int) (hb : (b && decide (n ≠ 0)) = decide (z < 0)) (hn : n = z.natAbs) (v : Value) (w : World) (h : Rn w v n) :
  Calls Tryz.prog 125 #[.bool b, v] w fun e w' => ∃ v, e = .returned v ∧ RZ w' v z ∧ Below w.heap.size w w' :=
 (rfrom_any b v n w h).mono fun e w' ⟨h1, h2⟩ => ⟨_, h1, RZ.of (Sl.below h h2) hb hn, h2⟩
theorem rden (q : Rat) {k : Nat} (hq : Sz q k) (hk : k ≤ 1000) (v : Value) (w : World) (h : RF w v q) :
  Calls Tryz.prog 65 #[v] w fun e w' => ∃ v, e = .returned v ∧ Rn w' v q.den ∧ Below w.heap.size w w' :=
 rfden_w q q.den rone (fun v1 v2 w h1 h2 => by rw [← fd_succ q]; exact radd_any v1 v2 _ 1 (Nat.le_trans hq.tf (by omega)) (Nat.le_trans td_one (by omega)) w h1 h2) v w h
theorem rzden (q : Rat) {k : Nat} (hq : Sz q k) (hk : k ≤ 1000) (v : Value) (w : World) (h : RF w v q) :
  Calls Tryz.prog 179 #[v] w fun e w' => ∃ v, e = .returned v ∧ RZ w' v (q.den : Int) ∧ Below w.heap.size w w' :=
 rfzden_w q q.den q.den (rden q hq hk) (rz_from false _ _ (by simp) (by simp)) v w h
theorem rfrom (z : Int) (d : Nat) (h0 : d ≠ 0) (lz : (Rx.td z.natAbs).length ≤ 1000) (ld : (Rx.td d).length ≤ 1000) (v1 v2 : Value) (w : World) (h1 : RZ w v1 z) (h2 : Rn w v2 d) :
  Calls Tryz.prog 127 #[v1, v2] w fun e w' => ∃ v, e = .returned v ∧ RF w' v (mkRat z d) ∧ Below w.heap.size w w' := by
 obtain ⟨c1, c2⟩ := canc (z := z) h0
 have hg : 0 < Nat.gcd z.natAbs d := Nat.gcd_pos_of_pos_right _ (by omega)
 have hgl : (Rx.td (Nat.gcd z.natAbs d)).length ≤ 1000 := Nat.le_trans (td_mono (Nat.gcd_le_right _ (by omega))) ld
 have e1 : d / Nat.gcd z.natAbs d = (mkRat z d).den := c2.symm
 have e2 : (mkRat z d).num.natAbs = z.natAbs / Nat.gcd z.natAbs d := by rw [c1, Int.natAbs_tdiv]; rfl
 have e3 : (zs z && decide (z.natAbs / Nat.gcd z.natAbs d ≠ 0)) = decide ((mkRat z d).num < 0) := by
  rw [c1, tdiv_sgn]
  generalize z.natAbs / Nat.gcd z.natAbs d = x
  unfold zs
  by_cases h : z < 0 <;> by_cases h' : x = 0 <;> simp [h, h'] <;> omega
 exact rffrom_w z d (Nat.gcd z.natAbs d) (z.natAbs / Nat.gcd z.natAbs d) (z.natAbs % Nat.gcd z.natAbs d) (d / Nat.gcd z.natAbs d) (d % Nat.gcd z.natAbs d) (mkRat z d)
  (fun a b w ha hb => rgcd_any a b _ _ lz ld w ha hb) (fun a b w ha hb => rdiv_any a b _ _ hg lz hgl w ha hb) (fun a b w ha hb => rdiv_any a b _ _ hg ld hgl w ha hb)
  (fun a w ha => rz_from _ _ _ e3 e2.symm a w ha) rone
  (fun a b w ha hb => by
   have h3 := (mkRat z d).den_nz
   have := rsub_any a b _ 1 (by rw [e1]; exact Nat.le_trans (td_mono (by rw [c2]; exact Nat.div_le_self _ _)) (Nat.le_trans ld (by omega))) (by omega) w ha hb
   rw [e1] at this
   exact this) v1 v2 w h1 h2
theorem fd_neg (q : Rat) : fd (-q) = fd q := rfl
theorem rneg (q : Rat) (v : Value) (w : World) (h : RF w v q) : Calls Tryz.prog 239 #[v] w fun e w' => ∃ v, e = .returned v ∧ RF w' v (-q) ∧ Below w.heap.size w w' :=
 rfneg_w q (-q) (fun a w ha => rznegI a _ w ha) (fd_neg q) v w h
theorem rzsignI (z : Int) (v : Value) (w : World) (h : RZ w v z) : Calls Tryz.prog 192 #[v] w fun e w' => e = .returned (.int .i64 (sgn z)) ∧ Below w.heap.size w w' := by
 obtain ⟨ao, c, rfl⟩ := rz_form h
 unfold sgn
 by_cases h0 : z < 0
 ·rw [if_pos h0, show zs z = true from by unfold zs; exact decide_eq_true h0]
  exact rzsign_neg ao _ c (Nat.pos_of_ne_zero fun e => by have := (td_len_zero _).1 e; omega) w
 ·rw [if_neg h0, show zs z = false from by unfold zs; exact decide_eq_false h0]
  by_cases h1 : z = 0
  ·rw [if_pos h1]
   exact rzsign_zero false ao _ c ((td_len_zero _).2 (by omega)) w
  ·rw [if_neg h1]
   exact rzsign_pos ao _ c (Nat.pos_of_ne_zero fun e => by have := (td_len_zero _).1 e; omega) w
theorem rsign (q : Rat) (v : Value) (w : World) (h : RF w v q) : Calls Tryz.prog 175 #[v] w fun e w' => e = .returned (.int .i64 (sgnQ q)) ∧ Below w.heap.size w w' := by
 rw [sgnQ_num]; exact rfsign_w q _ (rzsignI q.num) v w h
theorem mk_add (p q : Rat) : mkRat (p.num * q.den + q.num * p.den) (p.den * q.den) = p + q := (Rat.add_def' p q).symm
theorem mk_mul (p q : Rat) : mkRat (p.num * q.num) (p.den * q.den) = p * q := (Rat.mul_def' p q).symm
theorem radd (p q : Rat) {k : Nat} (hp : Sz p k) (hq : Sz q k) (hk : k ≤ 90) (v1 v2 : Value) (w : World) (h1 : RF w v1 p) (h2 : RF w v2 q) :
  Calls Tryz.prog 108 #[v1, v2] w fun e w' => ∃ v, e = .returned v ∧ RF w' v (p + q) ∧ Below w.heap.size w w' := by
 have a1 := hp.tn; have a2 := hq.tn; have a3 := hp.tdn; have a4 := hq.tdn
 have t1 := td_mul_le a1 a4; have t2 := td_mul_le a2 a3; have t3 := td_mul_le a3 a4
 rw [← mk_add]
 have g1 : (Rx.td (p.num * (q.den : Int)).natAbs).length ≤ 5 * k + 5 * k := by rw [Int.natAbs_mul, Int.natAbs_natCast]; exact t1
 have g2 : (Rx.td (q.num * (p.den : Int)).natAbs).length ≤ 5 * k + 5 * k := by rw [Int.natAbs_mul, Int.natAbs_natCast]; exact t2
 have g3 := Nat.le_trans (td_mono (Int.natAbs_add_le _ _)) (td_add_le g1 g2)
 exact rfadd_w p q _ p.den q.den (p.num * q.den) (q.num * p.den) (p.num * q.den + q.num * p.den) p.den q.den (p.den * q.den) (rzden p hp (by omega)) (rzden q hq (by omega))
  (fun a b w ha hb => rzmulI a b _ _ (by omega) (by rw [Int.natAbs_natCast]; omega) w ha hb) (fun a b w ha hb => rzmulI a b _ _ (by omega) (by rw [Int.natAbs_natCast]; omega) w ha hb)
  (fun a b w ha hb => rzaddI a b _ _ (by omega) (by omega) w ha hb) (rden p hp (by omega)) (rden q hq (by omega)) (fun a b w ha hb => rmul_any a b _ _ (by omega) (by omega) w ha hb)
  (rfrom _ _ (Nat.mul_ne_zero p.den_nz q.den_nz) (by omega) (by omega)) v1 v2 w h1 h2
theorem rsub (p q : Rat) {k : Nat} (hp : Sz p k) (hq : Sz q k) (hk : k ≤ 90) (v1 v2 : Value) (w : World) (h1 : RF w v1 p) (h2 : RF w v2 q) :
  Calls Tryz.prog 215 #[v1, v2] w fun e w' => ∃ v, e = .returned v ∧ RF w' v (p - q) ∧ Below w.heap.size w w' := by
 rw [Rat.sub_eq_add_neg]; exact rfsub_w p q (-q) _ (rneg q) (radd p (-q) hp hq.neg hk) v1 v2 w h1 h2
theorem rmul (p q : Rat) {k : Nat} (hp : Sz p k) (hq : Sz q k) (hk : k ≤ 90) (v1 v2 : Value) (w : World) (h1 : RF w v1 p) (h2 : RF w v2 q) :
  Calls Tryz.prog 177 #[v1, v2] w fun e w' => ∃ v, e = .returned v ∧ RF w' v (p * q) ∧ Below w.heap.size w w' := by
 have a1 := hp.tn; have a2 := hq.tn; have a3 := hp.tdn; have a4 := hq.tdn
 have t1 := td_mul_le a1 a2; have t3 := td_mul_le a3 a4
 have g1 : (Rx.td (p.num * q.num).natAbs).length ≤ 5 * k + 5 * k := by rw [Int.natAbs_mul]; exact t1
 rw [← mk_mul]
 exact rfmul_w p q _ (p.num * q.num) p.den q.den (p.den * q.den) (fun a b w ha hb => rzmulI a b _ _ (by omega) (by omega) w ha hb) (rden p hp (by omega)) (rden q hq (by omega)) (fun a b w ha hb => rmul_any a b _ _ (by omega) (by omega) w ha hb)
  (rfrom _ _ (Nat.mul_ne_zero p.den_nz q.den_nz) (by omega) (by omega)) v1 v2 w h1 h2
theorem rcmp (p q : Rat) {k : Nat} (hp : Sz p k) (hq : Sz q k) (hk : k ≤ 90) (v1 v2 : Value) (w : World) (h1 : RF w v1 p) (h2 : RF w v2 q) :
  Calls Tryz.prog 176 #[v1, v2] w fun e w' => e = .returned (.int .i64 (cmpQ p q)) ∧ Below w.heap.size w w' := by
 rw [show cmpQ p q = sgnQ (p - q) by unfold cmpQ sgnQ; grind]
 exact rfcmp_w p q _ _ (rsub p q hp hq hk) (rsign _) v1 v2 w h1 h2
theorem mk_inv {q : Rat} (h : q ≠ 0) : mkRat (if q.num < 0 then -(q.den : Int) else (q.den : Int)) q.num.natAbs = q⁻¹ := by
 obtain ⟨h1, h2⟩ := rinv_parts h
 rw [← h1, ← h2, Rat.mkRat_self]
theorem rdivF (p q : Rat) {k : Nat} (hp : Sz p k) (hq : Sz q k) (h0 : q ≠ 0) (hk : k ≤ 90) (v1 v2 : Value) (w : World) (h1 : RF w v1 p) (h2 : RF w v2 q) :
  Calls Tryz.prog 150 #[v1, v2] w fun e w' => ∃ v, e = .returned v ∧ RF w' v (p / q) ∧ Below w.heap.size w w' := by
 have a2 := hq.tn; have a4 := hq.tdn
 have hn : q.num ≠ 0 := fun e => h0 (Rat.num_eq_zero.1 e)
 have hd := q.den_nz
 have hs : (sgnQ q == 0) = false := beq_eq_false_iff_ne.2 (by rw [sgnQ_num]; split <;> (try split) <;> omega)
 rw [Rat.div_def]
 have e : (zs q.num && decide (q.den ≠ 0)) = decide ((if q.num < 0 then -(q.den : Int) else (q.den : Int)) < 0) := by
  unfold zs
  by_cases h : q.num < 0 <;> simp [h, hd] <;> omega
 have e2 : q.den = (if q.num < 0 then -(q.den : Int) else (q.den : Int)).natAbs := by split <;> simp
 have hf := rfrom (if q.num < 0 then -(q.den : Int) else (q.den : Int)) q.num.natAbs (by omega) (by rw [← e2]; omega) (by omega)
 rw [mk_inv h0] at hf
 exact rfdiv_w p q q⁻¹ _ _ _ q.den (rsign q) (rden q hq (by omega)) (rz_from _ _ _ e e2) hf (rmul p q⁻¹ hp (hq.inv h0) hk) hs v1 v2 w h1 h2
end Go.Proofs.YtdkjckiialnpnaaGreatDoor
namespace Go.Proofs.YtdkjckiialnpnaaGreatDoor
open Go.RowKit Go.Proofs.YtdkjckiialnpnaaGreatDoor.Rx
attribute [local irreducible] lo hs sm s64 c64 d64 b64 mh ml pd pc qd qc val hiB str cmpI srD lz nb isq zl zh zs dval tln fd qtxt
set_option maxHeartbeats 4000000 in
set_option maxRecDepth 100000 in
theorem fsame_w (p q : Rat) (t : ByteArray) (K : World → Prop) (hK : Keeps K) (HT : RK K 110 #[fracV p] (.string t)) (HU : ∀ (p0 : Value) (w : World), RF w p0 q → Calls Tryz.prog 111 #[p0] w fun e w' => e = .returned (.string t) ∧ Below w.heap.size w w') (p1 : Value) (w : World) (kK : K w) (r1 : RF w p1 q) :
  Calls Tryz.prog 39 #[fracV p, p1] w fun e w' => e = .returned (.bool true) ∧ Below w.heap.size w w' := by
 obtain ⟨xa1, xc1, xb1, xd1, rfl⟩ := rf_form r1
 have xf1 := Lib.hid (rf_rn1 r1)
 have xk1 := Lib.hid (rf_rn2 r1)
 clear r1
 replace hK := Lib.hid hK
 replace HT := Lib.hid HT
 replace HU := Lib.hid HU
 have hL0 : GL w w [] := GL.start w
 have hS : SS w [] := SS.nil w
 replace hS := ((hS.new (.cells #[.int .u64 ((zl p.num : Nat) : Int), .string (zh p.num), .bool (zs p.num), .int .u64 ((lo (fe p) : Nat) : Int), .string (hs (fe p))] 34)).new (.cells #[.bool (zs q.num), .slice xa1 (tln q.num.natAbs) xc1, .slice xb1 (tln (fd q)) xd1] 42))
 replace hL0 := ((hL0.new rfl [.int .u64 ((zl p.num : Nat) : Int), .string (zh p.num), .bool (zs p.num), .int .u64 ((lo (fe p) : Nat) : Int), .string (hs (fe p))] 34).new (K := w.heap.size + 1) (szA _ _) [.bool (zs q.num), .slice xa1 (tln q.num.natAbs) xc1, .slice xb1 (tln (fd q)) xd1] 42)
 generalize hweq : ((w.alloc (.cells #[.int .u64 ((zl p.num : Nat) : Int), .string (zh p.num), .bool (zs p.num), .int .u64 ((lo (fe p) : Nat) : Int), .string (hs (fe p))] 34)).alloc (.cells #[.bool (zs q.num), .slice xa1 (tln q.num.natAbs) xc1, .slice xb1 (tln (fd q)) xd1] 42)) = x1 at hL0 hS
 go_enter Tryz.func39, Tryz.ntmps39
 go_upto_region 1 with fail
 clear hweq
 refine region_tl 6 [EV (fracV p), EV (.string t), EV (.agg #[.bool (zs q.num), .slice xa1 (tln q.num.natAbs) xc1, .slice xb1 (tln (fd q)) xd1]), EV (.string t), EV (.bool true), EV (.bool true)] (by kernel_rfl) (by kernel_rfl) ?_ ?_ ?_
 ·exact stays_cons (stays_eq _) (stays_cons (stays_eq _) (stays_cons (stays_eq _) (stays_cons (stays_eq _) (stays_cons (stays_eq _) (stays_cons (stays_eq _) (stays_nil))))))
 ·simp only [List.take_succ_cons, List.take_zero, hopsR, and_true]
  refine ⟨?_, ?_, ?_, ?_, ?_, ?_⟩ <;> intro fv w1 hb1 hp
  all_goals (simp only [putsV, Act.put, List.setIfInBounds_toArray, List.set_cons_succ, List.set_cons_zero, Nat.zero_add, Nat.reduceAdd])
  ·refine tyAt_none rfl ?_
   have hc := (hL0.call (below_drew hb1)).fc
   simp only [fcG, cellsF, neK, and_true, ne_eq, Nat.zero_add, Nat.reduceAdd] at hc
   simp [tyUpon, execOp, go_sem, Act.eval, hc, Below.refl]
  ·have h0 : EV _ (fv 0) w1 := hp 0 (LC (by kernel_rfl))
   refine tyAt_none rfl ?_
   refine ty_call (f := 110) (args := #[fracV p]) (by simp [execOp, go_sem, Act.eval, h0]) ?_
   exact (HT.out w1 (hK.out.at ((hL0.call (below_drew hb1)).bl) kK)).mono fun e w2 ⟨h1, h2⟩ => ⟨_, h1, rfl, h2⟩
  ·refine tyAt_none rfl ?_
   have hc := (hL0.call (below_drew hb1)).fc
   simp only [fcG, cellsF, neK, and_true, ne_eq, Nat.zero_add, Nat.reduceAdd] at hc
   simp [tyUpon, execOp, go_sem, Act.eval, hc, Below.refl]
  ·have h2 : EV _ (fv 2) w1 := hp 2 (LC (by kernel_rfl))
   refine tyAt_none rfl ?_
   refine ty_call (f := 111) (args := #[.agg #[.bool (zs q.num), .slice xa1 (tln q.num.natAbs) xc1, .slice xb1 (tln (fd q)) xd1]]) (by simp [execOp, go_sem, Act.eval, h2]) ?_
   exact (HU.out (.agg #[.bool (zs q.num), .slice xa1 (tln q.num.natAbs) xc1, .slice xb1 (tln (fd q)) xd1]) w1 (rf_of (Sl.below (Sl.below xf1.out hL0.bl) (below_drew hb1)) (Sl.below (Sl.below xk1.out hL0.bl) (below_drew hb1)))).mono fun e w2 ⟨h1, h2⟩ => ⟨_, h1, rfl, h2⟩
  ·have h1 : EV _ (fv 1) w1 := hp 1 (LC (by kernel_rfl))
   have h3 : EV _ (fv 3) w1 := hp 3 (LC (by kernel_rfl))
   refine tyAt_none rfl ?_
   simp [tyUpon, execOp, go_sem, Act.eval, h1, h3, Below.refl]
  ·have h4 : EV _ (fv 4) w1 := hp 4 (LC (by kernel_rfl))
   refine tyAt_none rfl ?_
   simp [tyUpon, execOp, go_sem, Act.eval, h4, Below.refl]
 ·intro fv x2 hb1 hv
  have e0 : fv 0 = _ := hv 0 (by omega)
  have e1 : fv 1 = _ := hv 1 (by omega)
  have e2 : fv 2 = _ := hv 2 (by omega)
  have e3 : fv 3 = _ := hv 3 (by omega)
  have e4 : fv 4 = _ := hv 4 (by omega)
  have e5 : fv 5 = _ := hv 5 (by omega)
  simp only [List.take_succ_cons, List.take_zero, putsV, Act.put, List.setIfInBounds_toArray, List.set_cons_succ, List.set_cons_zero, List.drop_succ_cons, List.drop_zero, Nat.zero_add, Nat.reduceAdd, e0, e1, e2, e3, e4, e5]
  replace hL0 := hL0.call (below_drew hb1)
  replace hS := hS.call (below_drew hb1)
  clear e0 e1 e2 e3 e4 e5 hb1 hv fv
  go_wp2_with fail
  exact bodyPost_ret (v := .bool true) (by simp [results, Tryz.results39, go_sem]) rfl ⟨rfl, hL0.bl⟩
end Go.Proofs.YtdkjckiialnpnaaGreatDoor
namespace Go.Proofs.YtdkjckiialnpnaaGreatDoor
open Go.RowKit Go.Proofs.YtdkjckiialnpnaaGreatDoor.Rx
attribute [local irreducible] lo hs sm s64 c64 d64 b64 mh ml pd pc qd qc val hiB str cmpI srD lz nb isq zl zh dval txt
theorem rztextI (z : Int) (lz : (Rx.td z.natAbs).length ≤ 1000000) (v : Value) (w : World) (h : RZ w v z) : Calls Tryz.prog 182 #[v] w fun e w' => e = .returned (.string (ztxt z)) ∧ Below w.heap.size w w' := by
 obtain ⟨a, rfl, ha⟩ := h
 unfold ztxt
 by_cases h0 : z < 0
 ·rw [if_pos h0, decide_eq_true h0]; exact rztext_true a _ lz w ha
 ·rw [if_neg h0, decide_eq_false h0]; exact rztext_false a _ lz w ha
theorem txt_size {n k : Nat} (h : (digs n).length ≤ k) (hk : k ≤ 100) : (txt n).size ≤ 2000 := Nat.le_trans (txt_small (k := 100) (by omega) (by omega)) (by omega)
theorem ztxt_size {z : Int} {k : Nat} (h : dI z ≤ k) (hk : k ≤ 100) : (ztxt z).size ≤ 2001 := by
 have := txt_size (n := z.natAbs) h hk
 unfold ztxt
 split
 ·rw [ByteArray.size_append]; have : (ByteArray.mk #[45]).size = 1 := rfl; omega
 ·omega
theorem rtextF (q : Rat) {k : Nat} (hq : Sz q k) (hk : k ≤ 100) (v : Value) (w : World) (h : RF w v q) : Calls Tryz.prog 111 #[v] w fun e w' => e = .returned (.string (qtxt q)) ∧ Below w.heap.size w w' := by
 have a2 := hq.tn; have a4 := hq.tdn
 have hd := q.den_nz
 have hz : tln (fd q) = 0 ↔ q.den = 1 := by unfold tln fd; rw [td_len_zero]; omega
 unfold qtxt
 by_cases h1 : q.den = 1
 ·rw [if_pos h1]
  exact rftext_whole q _ (rztextI q.num (by omega)) (by rw [hz.2 h1]; rfl) (decide_eq_true (hz.2 h1)) v w h
 ·rw [if_neg h1]
  have h2 : ¬ tln (fd q) = 0 := mt hz.1 h1
  have s1 := ztxt_size hq.1 hk
  have s2 := txt_size hq.2 hk
  exact rftext_frac q _ _ q.den (rztextI q.num (by omega)) (rden q hq (by omega)) (fun a w ha => rtext_any a _ (by omega) w ha) (beq_eq_false_iff_ne.2 (by omega)) (decide_eq_false h2) (by omega) (by omega) v w h
theorem sameF (q : Rat) {k : Nat} (hq : Sz q k) (hk : k ≤ 100) (v : Value) (w : World) (htab : Tab w) (h : RF w v q) :
  Calls Tryz.prog 39 #[fracV q, v] w fun e w' => e = .returned (.bool true) ∧ Below w.heap.size w w' :=
 fsame_w q q (qtxt q) Tab Keeps.tab (fun w ht => textF q k hq (by omega) w ht) (rtextF q hq hk) v w htab h
end Go.Proofs.YtdkjckiialnpnaaGreatDoor
namespace Go.Proofs.YtdkjckiialnpnaaGreatDoor
open Go.RowKit Go.Proofs.YtdkjckiialnpnaaGreatDoor.Rx
attribute [local irreducible] lo hs sm s64 c64 d64 b64 mh ml pd pc qd qc val hiB str cmpI srD lz nb isq zl zh zs dval tln fd
set_option maxHeartbeats 4000000 in
set_option maxRecDepth 100000 in
theorem rint_w (v : Int) (q : Rat) (HO : ∀ (w : World), Calls Tryz.prog 129 #[.int .i64 v] w fun e w' => ∃ pv, e = .returned pv ∧ RZ w' pv q.num ∧ Below w.heap.size w w') (hq : fd q = 0) (w : World) :
  Calls Tryz.prog 151 #[.int .i64 v] w fun e w' => ∃ pv, e = .returned pv ∧ RF w' pv q ∧ Below w.heap.size w w' := by
 replace HO := Lib.hid HO
 have hL0 : GL w w [] := GL.start w
 have hS : SS w [] := SS.nil w
 replace hq := Lib.hid hq
 replace hS := (hS.new (.cells #[.bool false, .slice none 0 0, .slice none 0 0] 42))
 replace hL0 := (hL0.new rfl [.bool false, .slice none 0 0, .slice none 0 0] 42)
 generalize hweq : (w.alloc (.cells #[.bool false, .slice none 0 0, .slice none 0 0] 42)) = x1 at hL0 hS
 go_enter Tryz.func151, Tryz.ntmps151
 go_wp2_with fail
 with_reducible refine Calls.mono (HO.out _) ?_
 rintro e x2 ⟨v0, rfl, q0, hb⟩
 replace hL0 := hL0.call hb
 replace hS := hS.call hb
 clear hb hweq
 obtain ⟨g1, d1, rfl⟩ := rz_form q0
 replace hS := hS.cons (rz_rn q0)
 clear q0
 have hS1 := hS.put ((((Upd.refl w.heap.size x2).setCell 0 (.bool (zs q.num))).setCell 1 (.slice g1 (tln q.num.natAbs) d1)).setCell 2 (.slice none 0 0)) (hL0.get _ _ List.mem_cons_self) (by intro v hv n; simp only [List.mem_cons, List.not_mem_nil, or_false] at hv; rcases hv with rfl | rfl | rfl <;> simp)
 have hA := hL0.fc
 simp only [fcG, cellsF, neK, and_true, ne_eq, Nat.zero_add, Nat.reduceAdd] at hA
 have hP := hL0.put 0 (w.heap.size) _ rfl [.bool (zs q.num), .slice g1 (tln q.num.natAbs) d1, .slice none 0 0] rfl
 simp only [setAll, List.set_cons_zero, List.set_cons_succ] at hP
 generalize hput1 : (((x2.setCell ⟨w.heap.size, 0, none⟩ (.bool (zs q.num))).setCell ⟨w.heap.size, 1, none⟩ (.slice g1 (tln q.num.natAbs) d1)).setCell ⟨w.heap.size, 2, none⟩ (.slice none 0 0)) = x3 at hP hS1
 have hB1 := hP.fc
 simp only [fcG, cellsF, neK, and_true, ne_eq, Nat.zero_add, Nat.reduceAdd] at hB1
 replace hL0 := hP
 replace hS := hS1
 clear hS1
 go_wp2_with fail
 exact bodyPost_ret (v := .agg #[.bool (zs q.num), .slice g1 (tln q.num.natAbs) d1, .slice none 0 0]) (by simp [results, Tryz.results151, go_sem, hB1]) rfl ⟨_, rfl, (rf_of (hS.get List.mem_cons_self) (by rw [hq.out]; exact (rn_nil _))), hL0.bl⟩
set_option maxHeartbeats 4000000 in
set_option maxRecDepth 100000 in
theorem r5of_w (n d : Int) (p q r : Rat) (HN : ∀ (w : World), Calls Tryz.prog 151 #[.int .i64 n] w fun e w' => ∃ pv, e = .returned pv ∧ RF w' pv p ∧ Below w.heap.size w w') (HD : ∀ (w : World), Calls Tryz.prog 151 #[.int .i64 d] w fun e w' => ∃ pv, e = .returned pv ∧ RF w' pv q ∧ Below w.heap.size w w') (HQ : ∀ (p0 p1 : Value) (w : World), RF w p0 p → RF w p1 q → Calls Tryz.prog 150 #[p0, p1] w fun e w' => ∃ pv, e = .returned pv ∧ RF w' pv r ∧ Below w.heap.size w w') (w : World) :
  Calls Tryz.prog 70 #[.int .i64 n, .int .i64 d] w fun e w' => ∃ pv, e = .returned pv ∧ RF w' pv r ∧ Below w.heap.size w w' := by
 replace HN := Lib.hid HN
 replace HD := Lib.hid HD
 replace HQ := Lib.hid HQ
 have hL0 : GL w w [] := GL.start w
 have hS : SS w [] := SS.nil w
 replace hS := (hS.new (.cells #[.bool false, .slice none 0 0, .slice none 0 0] 42))
 replace hL0 := (hL0.new rfl [.bool false, .slice none 0 0, .slice none 0 0] 42)
 generalize hweq : (w.alloc (.cells #[.bool false, .slice none 0 0, .slice none 0 0] 42)) = x1 at hL0 hS
 go_enter Tryz.func70, Tryz.ntmps70
 go_wp2_with fail
 with_reducible refine Calls.mono (HN.out _) ?_
 rintro e x2 ⟨v0, rfl, q0, hb⟩
 replace hL0 := hL0.call hb
 replace hS := hS.call hb
 clear hb hweq
 obtain ⟨g1, d1, g2, d2, rfl⟩ := rf_form q0
 replace hS := hS.cons (rf_rn1 q0)
 replace hS := hS.cons (rf_rn2 q0)
 clear q0
 go_wp2_with fail
 with_reducible refine Calls.mono (HD.out _) ?_
 rintro e x3 ⟨v0, rfl, q0, hb⟩
 replace hL0 := hL0.call hb
 replace hS := hS.call hb
 clear hb
 obtain ⟨g3, d3, g4, d4, rfl⟩ := rf_form q0
 replace hS := hS.cons (rf_rn1 q0)
 replace hS := hS.cons (rf_rn2 q0)
 clear q0
 go_wp2_with fail
 with_reducible refine Calls.mono (HQ.out (.agg #[.bool (zs p.num), .slice g1 (tln p.num.natAbs) d1, .slice g2 (tln (fd p)) d2]) (.agg #[.bool (zs q.num), .slice g3 (tln q.num.natAbs) d3, .slice g4 (tln (fd q)) d4]) _ (rf_of (hS.get (List.mem_cons_of_mem _ (List.mem_cons_of_mem _ (List.mem_cons_of_mem _ List.mem_cons_self)))) (hS.get (List.mem_cons_of_mem _ (List.mem_cons_of_mem _ List.mem_cons_self)))) (rf_of (hS.get (List.mem_cons_of_mem _ List.mem_cons_self)) (hS.get List.mem_cons_self))) ?_
 rintro e x4 ⟨v0, rfl, q0, hb⟩
 replace hL0 := hL0.call hb
 replace hS := hS.call hb
 clear hb
 obtain ⟨g5, d5, g6, d6, rfl⟩ := rf_form q0
 replace hS := hS.cons (rf_rn1 q0)
 replace hS := hS.cons (rf_rn2 q0)
 clear q0
 have hS1 := hS.put ((((Upd.refl w.heap.size x4).setCell 0 (.bool (zs r.num))).setCell 1 (.slice g5 (tln r.num.natAbs) d5)).setCell 2 (.slice g6 (tln (fd r)) d6)) (hL0.get _ _ List.mem_cons_self) (by intro v hv n; simp only [List.mem_cons, List.not_mem_nil, or_false] at hv; rcases hv with rfl | rfl | rfl <;> simp)
 have hA := hL0.fc
 simp only [fcG, cellsF, neK, and_true, ne_eq, Nat.zero_add, Nat.reduceAdd] at hA
 have hP := hL0.put 0 (w.heap.size) _ rfl [.bool (zs r.num), .slice g5 (tln r.num.natAbs) d5, .slice g6 (tln (fd r)) d6] rfl
 simp only [setAll, List.set_cons_zero, List.set_cons_succ] at hP
 generalize hput1 : (((x4.setCell ⟨w.heap.size, 0, none⟩ (.bool (zs r.num))).setCell ⟨w.heap.size, 1, none⟩ (.slice g5 (tln r.num.natAbs) d5)).setCell ⟨w.heap.size, 2, none⟩ (.slice g6 (tln (fd r)) d6)) = x5 at hP hS1
 have hB1 := hP.fc
 simp only [fcG, cellsF, neK, and_true, ne_eq, Nat.zero_add, Nat.reduceAdd] at hB1
 replace hL0 := hP
 replace hS := hS1
 clear hS1
 go_wp2_with fail
 exact bodyPost_ret (v := .agg #[.bool (zs r.num), .slice g5 (tln r.num.natAbs) d5, .slice g6 (tln (fd r)) d6]) (by simp [results, Tryz.results70, go_sem, hB1]) rfl ⟨_, rfl, (rf_of (hS.get (List.mem_cons_of_mem _ List.mem_cons_self)) (hS.get List.mem_cons_self)), hL0.bl⟩
set_option maxHeartbeats 4000000 in
set_option maxRecDepth 100000 in
theorem rsquare_w (q r : Rat) (HM : ∀ (p0 p1 : Value) (w : World), RF w p0 q → RF w p1 q → Calls Tryz.prog 177 #[p0, p1] w fun e w' => ∃ pv, e = .returned pv ∧ RF w' pv r ∧ Below w.heap.size w w') (p0 : Value) (w : World) (r0 : RF w p0 q) :
  Calls Tryz.prog 107 #[p0] w fun e w' => ∃ pv, e = .returned pv ∧ RF w' pv r ∧ Below w.heap.size w w' := by
 obtain ⟨xa0, xc0, xb0, xd0, rfl⟩ := rf_form r0
 have xf0 := Lib.hid (rf_rn1 r0)
 have xk0 := Lib.hid (rf_rn2 r0)
 clear r0
 replace HM := Lib.hid HM
 have hL0 : GL w w [] := GL.start w
 have hS : SS w [] := SS.nil w
 replace hS := ((hS.new (.cells #[.bool (zs q.num), .slice xa0 (tln q.num.natAbs) xc0, .slice xb0 (tln (fd q)) xd0] 42)).new (.cells #[.bool false, .slice none 0 0, .slice none 0 0] 42))
 replace hL0 := ((hL0.new rfl [.bool (zs q.num), .slice xa0 (tln q.num.natAbs) xc0, .slice xb0 (tln (fd q)) xd0] 42).new (K := w.heap.size + 1) (szA _ _) [.bool false, .slice none 0 0, .slice none 0 0] 42)
 generalize hweq : ((w.alloc (.cells #[.bool (zs q.num), .slice xa0 (tln q.num.natAbs) xc0, .slice xb0 (tln (fd q)) xd0] 42)).alloc (.cells #[.bool false, .slice none 0 0, .slice none 0 0] 42)) = x1 at hL0 hS
 go_enter Tryz.func107, Tryz.ntmps107
 have hN0 := cells_of _ 0 [] rfl (hL0.get _ _ (List.mem_cons_of_mem _ List.mem_cons_self))
 simp only [cellsF, and_true, Nat.zero_add, Nat.reduceAdd] at hN0
 go_wp2_with fail
 clear hN0
 with_reducible refine Calls.mono (HM.out (.agg #[.bool (zs q.num), .slice xa0 (tln q.num.natAbs) xc0, .slice xb0 (tln (fd q)) xd0]) (.agg #[.bool (zs q.num), .slice xa0 (tln q.num.natAbs) xc0, .slice xb0 (tln (fd q)) xd0]) _ (rf_of (Sl.below xf0.out hL0.bl) (Sl.below xk0.out hL0.bl)) (rf_of (Sl.below xf0.out hL0.bl) (Sl.below xk0.out hL0.bl))) ?_
 rintro e x2 ⟨v0, rfl, q0, hb⟩
 replace hL0 := hL0.call hb
 replace hS := hS.call hb
 clear hb hweq
 obtain ⟨g1, d1, g2, d2, rfl⟩ := rf_form q0
 replace hS := hS.cons (rf_rn1 q0)
 replace hS := hS.cons (rf_rn2 q0)
 clear q0
 have hS1 := hS.put ((((Upd.refl (w.heap.size + 1) x2).setCell 0 (.bool (zs r.num))).setCell 1 (.slice g1 (tln r.num.natAbs) d1)).setCell 2 (.slice g2 (tln (fd r)) d2)) (hL0.get _ _ List.mem_cons_self) (by intro v hv n; simp only [List.mem_cons, List.not_mem_nil, or_false] at hv; rcases hv with rfl | rfl | rfl <;> simp)
 have hA := hL0.fc
 simp only [fcG, cellsF, neK, and_true, ne_eq, Nat.zero_add, Nat.reduceAdd] at hA
 have hP := hL0.put 0 (w.heap.size + 1) _ rfl [.bool (zs r.num), .slice g1 (tln r.num.natAbs) d1, .slice g2 (tln (fd r)) d2] rfl
 simp only [setAll, List.set_cons_zero, List.set_cons_succ] at hP
 generalize hput1 : (((x2.setCell ⟨w.heap.size + 1, 0, none⟩ (.bool (zs r.num))).setCell ⟨w.heap.size + 1, 1, none⟩ (.slice g1 (tln r.num.natAbs) d1)).setCell ⟨w.heap.size + 1, 2, none⟩ (.slice g2 (tln (fd r)) d2)) = x3 at hP hS1
 have hB1 := hP.fc
 simp only [fcG, cellsF, neK, and_true, ne_eq, Nat.zero_add, Nat.reduceAdd] at hB1
 replace hL0 := hP
 replace hS := hS1
 clear hS1
 go_wp2_with fail
 exact bodyPost_ret (v := .agg #[.bool (zs r.num), .slice g1 (tln r.num.natAbs) d1, .slice g2 (tln (fd r)) d2]) (by simp [results, Tryz.results107, go_sem, hB1]) rfl ⟨_, rfl, (rf_of (hS.get (List.mem_cons_of_mem _ List.mem_cons_self)) (hS.get List.mem_cons_self)), hL0.bl⟩
set_option maxHeartbeats 4000000 in
set_option maxRecDepth 100000 in
theorem rsame_w (p q : Rat) (c : Int) (b : Bool) (HC : ∀ (p0 p1 : Value) (w : World), RF w p0 p → RF w p1 q → Calls Tryz.prog 176 #[p0, p1] w fun e w' => e = .returned (.int .i64 c) ∧ Below w.heap.size w w') (hc : (c == 0) = b) (p0 : Value) (p1 : Value) (w : World) (r0 : RF w p0 p) (r1 : RF w p1 q) :
  Calls Tryz.prog 106 #[p0, p1] w fun e w' => e = .returned (.bool b) ∧ Below w.heap.size w w' := by
 obtain ⟨xa0, xc0, xb0, xd0, rfl⟩ := rf_form r0
 have xf0 := Lib.hid (rf_rn1 r0)
 have xk0 := Lib.hid (rf_rn2 r0)
 clear r0
 obtain ⟨xa1, xc1, xb1, xd1, rfl⟩ := rf_form r1
 have xf1 := Lib.hid (rf_rn1 r1)
 have xk1 := Lib.hid (rf_rn2 r1)
 clear r1
 replace HC := Lib.hid HC
 have hL0 : GL w w [] := GL.start w
 have hS : SS w [] := SS.nil w
 replace hS := ((hS.new (.cells #[.bool (zs p.num), .slice xa0 (tln p.num.natAbs) xc0, .slice xb0 (tln (fd p)) xd0] 42)).new (.cells #[.bool (zs q.num), .slice xa1 (tln q.num.natAbs) xc1, .slice xb1 (tln (fd q)) xd1] 42))
 replace hL0 := ((hL0.new rfl [.bool (zs p.num), .slice xa0 (tln p.num.natAbs) xc0, .slice xb0 (tln (fd p)) xd0] 42).new (K := w.heap.size + 1) (szA _ _) [.bool (zs q.num), .slice xa1 (tln q.num.natAbs) xc1, .slice xb1 (tln (fd q)) xd1] 42)
 generalize hweq : ((w.alloc (.cells #[.bool (zs p.num), .slice xa0 (tln p.num.natAbs) xc0, .slice xb0 (tln (fd p)) xd0] 42)).alloc (.cells #[.bool (zs q.num), .slice xa1 (tln q.num.natAbs) xc1, .slice xb1 (tln (fd q)) xd1] 42)) = x1 at hL0 hS
 go_enter Tryz.func106, Tryz.ntmps106
 have hN0 := cells_of _ 0 [] rfl (hL0.get _ _ List.mem_cons_self)
 simp only [cellsF, and_true, Nat.zero_add, Nat.reduceAdd] at hN0
 have hN1 := cells_of _ 0 [] rfl (hL0.get _ _ (List.mem_cons_of_mem _ List.mem_cons_self))
 simp only [cellsF, and_true, Nat.zero_add, Nat.reduceAdd] at hN1
 go_wp2_with fail
 clear hN0 hN1
 with_reducible refine Calls.mono (HC.out (.agg #[.bool (zs p.num), .slice xa0 (tln p.num.natAbs) xc0, .slice xb0 (tln (fd p)) xd0]) (.agg #[.bool (zs q.num), .slice xa1 (tln q.num.natAbs) xc1, .slice xb1 (tln (fd q)) xd1]) _ (rf_of (Sl.below xf0.out hL0.bl) (Sl.below xk0.out hL0.bl)) (rf_of (Sl.below xf1.out hL0.bl) (Sl.below xk1.out hL0.bl))) ?_
 rintro e x2 ⟨rfl, hb⟩
 replace hL0 := hL0.call hb
 replace hS := hS.call hb
 clear hb hweq
 go_wp2_with fail
 exact bodyPost_ret (v := .bool b) (by simp [results, Tryz.results106, go_sem]) rfl ⟨rfl, hL0.bl⟩
set_option maxHeartbeats 4000000 in
set_option maxRecDepth 100000 in
theorem qref_zero (n : Int) (r : Rat) (HF : ∀ (w : World), Calls Tryz.prog 70 #[.int .i64 n, .int .i64 1] w fun e w' => ∃ pv, e = .returned pv ∧ RF w' pv r ∧ Below w.heap.size w w') (hmx : max (0 : Int) 1 = 1) (w : World) :
  Calls Tryz.prog 18 #[.agg #[.int .i64 n, .int .u32 0]] w fun e w' => ∃ pv, e = .returned pv ∧ RF w' pv r ∧ Below w.heap.size w w' := by
 replace HF := Lib.hid HF
 have hL0 : GL w w [] := GL.start w
 have hS : SS w [] := SS.nil w
 replace hS := ((hS.new (.cells #[.int .i64 n, .int .u32 0] 24)).new (.cells #[.bool false, .slice none 0 0, .slice none 0 0] 42))
 replace hL0 := ((hL0.new rfl [.int .i64 n, .int .u32 0] 24).new (K := w.heap.size + 1) (szA _ _) [.bool false, .slice none 0 0, .slice none 0 0] 42)
 generalize hweq : ((w.alloc (.cells #[.int .i64 n, .int .u32 0] 24)).alloc (.cells #[.bool false, .slice none 0 0, .slice none 0 0] 42)) = x1 at hL0 hS
 go_enter Tryz.func18, Tryz.ntmps18
 have hN0 := cells_of _ 0 [] rfl (hL0.get _ _ (List.mem_cons_of_mem _ List.mem_cons_self))
 simp only [cellsF, and_true, Nat.zero_add, Nat.reduceAdd] at hN0
 go_wp2_with fail
 clear hN0
 with_reducible refine Calls.mono (HF.out _) ?_
 rintro e x2 ⟨v0, rfl, q0, hb⟩
 replace hL0 := hL0.call hb
 replace hS := hS.call hb
 clear hb hweq
 obtain ⟨g1, d1, g2, d2, rfl⟩ := rf_form q0
 replace hS := hS.cons (rf_rn1 q0)
 replace hS := hS.cons (rf_rn2 q0)
 clear q0
 have hS1 := hS.put ((((Upd.refl (w.heap.size + 1) x2).setCell 0 (.bool (zs r.num))).setCell 1 (.slice g1 (tln r.num.natAbs) d1)).setCell 2 (.slice g2 (tln (fd r)) d2)) (hL0.get _ _ List.mem_cons_self) (by intro v hv n; simp only [List.mem_cons, List.not_mem_nil, or_false] at hv; rcases hv with rfl | rfl | rfl <;> simp)
 have hA := hL0.fc
 simp only [fcG, cellsF, neK, and_true, ne_eq, Nat.zero_add, Nat.reduceAdd] at hA
 have hP := hL0.put 0 (w.heap.size + 1) _ rfl [.bool (zs r.num), .slice g1 (tln r.num.natAbs) d1, .slice g2 (tln (fd r)) d2] rfl
 simp only [setAll, List.set_cons_zero, List.set_cons_succ] at hP
 generalize hput1 : (((x2.setCell ⟨w.heap.size + 1, 0, none⟩ (.bool (zs r.num))).setCell ⟨w.heap.size + 1, 1, none⟩ (.slice g1 (tln r.num.natAbs) d1)).setCell ⟨w.heap.size + 1, 2, none⟩ (.slice g2 (tln (fd r)) d2)) = x3 at hP hS1
 have hB1 := hP.fc
 simp only [fcG, cellsF, neK, and_true, ne_eq, Nat.zero_add, Nat.reduceAdd] at hB1
 replace hL0 := hP
 replace hS := hS1
 clear hS1
 go_wp2_with fail
 exact bodyPost_ret (v := .agg #[.bool (zs r.num), .slice g1 (tln r.num.natAbs) d1, .slice g2 (tln (fd r)) d2]) (by simp [results, Tryz.results18, go_sem, hB1]) rfl ⟨_, rfl, (rf_of (hS.get (List.mem_cons_of_mem _ List.mem_cons_self)) (hS.get List.mem_cons_self)), hL0.bl⟩
set_option maxHeartbeats 4000000 in
set_option maxRecDepth 100000 in
theorem qref_pos (n d : Int) (r : Rat) (HF : ∀ (w : World), Calls Tryz.prog 70 #[.int .i64 n, .int .i64 d] w fun e w' => ∃ pv, e = .returned pv ∧ RF w' pv r ∧ Below w.heap.size w w') (h1 : max d 1 = d) (hw : IntKind.i64.wrap d = d) (w : World) :
  Calls Tryz.prog 18 #[.agg #[.int .i64 n, .int .u32 d]] w fun e w' => ∃ pv, e = .returned pv ∧ RF w' pv r ∧ Below w.heap.size w w' := by
 replace HF := Lib.hid HF
 have hL0 : GL w w [] := GL.start w
 have hS : SS w [] := SS.nil w
 replace hS := ((hS.new (.cells #[.int .i64 n, .int .u32 d] 24)).new (.cells #[.bool false, .slice none 0 0, .slice none 0 0] 42))
 replace hL0 := ((hL0.new rfl [.int .i64 n, .int .u32 d] 24).new (K := w.heap.size + 1) (szA _ _) [.bool false, .slice none 0 0, .slice none 0 0] 42)
 generalize hweq : ((w.alloc (.cells #[.int .i64 n, .int .u32 d] 24)).alloc (.cells #[.bool false, .slice none 0 0, .slice none 0 0] 42)) = x1 at hL0 hS
 go_enter Tryz.func18, Tryz.ntmps18
 have hN0 := cells_of _ 0 [] rfl (hL0.get _ _ (List.mem_cons_of_mem _ List.mem_cons_self))
 simp only [cellsF, and_true, Nat.zero_add, Nat.reduceAdd] at hN0
 go_wp2_with fail
 clear hN0
 with_reducible refine Calls.mono (HF.out _) ?_
 rintro e x2 ⟨v0, rfl, q0, hb⟩
 replace hL0 := hL0.call hb
 replace hS := hS.call hb
 clear hb hweq
 obtain ⟨g1, d1, g2, d2, rfl⟩ := rf_form q0
 replace hS := hS.cons (rf_rn1 q0)
 replace hS := hS.cons (rf_rn2 q0)
 clear q0
 have hS1 := hS.put ((((Upd.refl (w.heap.size + 1) x2).setCell 0 (.bool (zs r.num))).setCell 1 (.slice g1 (tln r.num.natAbs) d1)).setCell 2 (.slice g2 (tln (fd r)) d2)) (hL0.get _ _ List.mem_cons_self) (by intro v hv n; simp only [List.mem_cons, List.not_mem_nil, or_false] at hv; rcases hv with rfl | rfl | rfl <;> simp)
 have hA := hL0.fc
 simp only [fcG, cellsF, neK, and_true, ne_eq, Nat.zero_add, Nat.reduceAdd] at hA
 have hP := hL0.put 0 (w.heap.size + 1) _ rfl [.bool (zs r.num), .slice g1 (tln r.num.natAbs) d1, .slice g2 (tln (fd r)) d2] rfl
 simp only [setAll, List.set_cons_zero, List.set_cons_succ] at hP
 generalize hput1 : (((x2.setCell ⟨w.heap.size + 1, 0, none⟩ (.bool (zs r.num))).setCell ⟨w.heap.size + 1, 1, none⟩ (.slice g1 (tln r.num.natAbs) d1)).setCell ⟨w.heap.size + 1, 2, none⟩ (.slice g2 (tln (fd r)) d2)) = x3 at hP hS1
 have hB1 := hP.fc
 simp only [fcG, cellsF, neK, and_true, ne_eq, Nat.zero_add, Nat.reduceAdd] at hB1
 replace hL0 := hP
 replace hS := hS1
 clear hS1
 go_wp2_with fail
 exact bodyPost_ret (v := .agg #[.bool (zs r.num), .slice g1 (tln r.num.natAbs) d1, .slice g2 (tln (fd r)) d2]) (by simp [results, Tryz.results18, go_sem, hB1]) rfl ⟨_, rfl, (rf_of (hS.get (List.mem_cons_of_mem _ List.mem_cons_self)) (hS.get List.mem_cons_self)), hL0.bl⟩
set_option maxHeartbeats 4000000 in
set_option maxRecDepth 100000 in
theorem rstep_w (n : Nat) (fu : Nat → Rat) (q0 h q9 : Rat) (HI : ∀ (w : World), Calls Tryz.prog 151 #[.int .i64 1] w fun e w' => ∃ pv, e = .returned pv ∧ RF w' pv q0 ∧ Below w.heap.size w w') (HO : ∀ (w : World), Calls Tryz.prog 70 #[.int .i64 1, .int .i64 2] w fun e w' => ∃ pv, e = .returned pv ∧ RF w' pv h ∧ Below w.heap.size w w') (h0 : q0 = fu 0) (hf : fu n = q9) (hn : n ≤ 1000) (HM : ∀ (i : Nat) (q r : Rat), i < n → q = fu i → r = fu (i + 1) → ∀ (p0 p1 : Value) (w : World), RF w p0 q → RF w p1 h → Calls Tryz.prog 177 #[p0, p1] w fun e w' => ∃ pv, e = .returned pv ∧ RF w' pv r ∧ Below w.heap.size w w') (w : World) :
  Calls Tryz.prog 109 #[.int .i64 (n : Int)] w fun e w' => ∃ pv, e = .returned pv ∧ RF w' pv q9 ∧ Below w.heap.size w w' := by
 replace HI := Lib.hid HI
 replace HO := Lib.hid HO
 have hL0 : GL w w [] := GL.start w
 have hS : SS w [] := SS.nil w
 replace h0 := Lib.hid h0
 replace hf := Lib.hid hf
 replace HM := Lib.hid HM
 replace hS := (hS.new (.cells #[.bool false, .slice none 0 0, .slice none 0 0] 42))
 replace hL0 := (hL0.new rfl [.bool false, .slice none 0 0, .slice none 0 0] 42)
 generalize hweq : (w.alloc (.cells #[.bool false, .slice none 0 0, .slice none 0 0] 42)) = x1 at hL0 hS
 go_enter Tryz.func109, Tryz.ntmps109
 go_wp2_with fail
 with_reducible refine Calls.mono (HI.out _) ?_
 rintro e x2 ⟨v0, rfl, q0, hb⟩
 replace hL0 := hL0.call hb
 replace hS := hS.call hb
 clear hb hweq
 obtain ⟨g1, d1, g2, d2, rfl⟩ := rf_form q0
 replace hS := hS.cons (rf_rn1 q0)
 replace hS := hS.cons (rf_rn2 q0)
 clear q0
 replace hS := (hS.new (.cells #[.bool (zs q0.num), .slice g1 (tln q0.num.natAbs) d1, .slice g2 (tln (fd q0)) d2] 42))
 replace hL0 := (hL0.new rfl [.bool (zs q0.num), .slice g1 (tln q0.num.natAbs) d1, .slice g2 (tln (fd q0)) d2] 42)
 generalize hweq : (x2.alloc (.cells #[.bool (zs q0.num), .slice g1 (tln q0.num.natAbs) d1, .slice g2 (tln (fd q0)) d2] 42)) = x3 at hL0 hS
 go_wp2_with fail
 clear hweq
 go_loopg [4] n (fun gk iv wr => ∃ (i : Nat) (q : Rat) (ua1 : Option Addr) (ma1 : Nat) (va1 : Option Addr) (na1 : Nat), i + gk = n ∧ iv = .int .i64 (i : Int) ∧ q = fu i ∧ GL w wr [(x2.heap.size, [.bool (zs q.num), .slice ua1 (tln q.num.natAbs) ma1, .slice va1 (tln (fd q)) na1]), (w.heap.size, [.bool false, .slice none 0 0, .slice none 0 0])] ∧ SS wr [(.slice ua1 (tln q.num.natAbs) ma1, q.num.natAbs), (.slice va1 (tln (fd q)) na1, (fd q)), (.slice g2 (tln (fd q0)) d2, (fd q0)), (.slice g1 (tln q0.num.natAbs) d1, q0.num.natAbs)])
 case atStart => exact ⟨0, _, _, _, _, _, Nat.zero_add n, by first | rfl | go_num, h0.out, hL0, ((hS).cons (hS.get List.mem_cons_self)).cons (hS.get (List.mem_cons_of_mem _ List.mem_cons_self))⟩
 case round =>
  clear hL0 hS
  obtain ⟨i, q, ua1, ma1, va1, na1, hik, rfl, hq, hL0, hS⟩ := hrel
  by_cases hin : i < n
  ·have k1 : (i : Int) < (n : Int) := by omega
   have k2 : (i : Int) ≤ 1000 := by omega
   obtain ⟨r, hr⟩ : ∃ r, r = fu (i + 1) := ⟨_, rfl⟩
   have HM1 := Lib.hid (HM.out i q r hin hq hr)
   replace hq := Lib.hid hq
   replace hr := Lib.hid hr
   go_upto_region 5 with fail
   refine region_tl 3 [EV (.agg #[.bool (zs q.num), .slice ua1 (tln q.num.natAbs) ma1, .slice va1 (tln (fd q)) na1]), PF h, PF r] (by kernel_rfl) (by kernel_rfl) ?_ ?_ ?_
   ·exact stays_cons (stays_eq _) (stays_cons (stays_rf _) (stays_cons (stays_rf _) (stays_nil)))
   ·simp only [List.take_succ_cons, List.take_zero, hopsR, and_true]
    refine ⟨?_, ?_, ?_⟩ <;> intro fv w1 hb1 hp
    all_goals (simp only [putsV, Act.put, List.setIfInBounds_toArray, List.set_cons_succ, List.set_cons_zero, Nat.zero_add, Nat.reduceAdd])
    ·refine tyAt_none rfl ?_
     have hc := (hL0.call (below_drew hb1)).fc
     simp only [fcG, cellsF, neK, and_true, ne_eq, Nat.zero_add, Nat.reduceAdd] at hc
     simp [tyUpon, execOp, go_sem, Act.eval, hc, Below.refl]
    ·refine tyAt_none rfl ?_
     refine ty_call (f := 70) (args := #[.int .i64 1, .int .i64 2]) (by simp [execOp, go_sem, Act.eval]) ?_
     exact (HO.out w1).mono fun e w2 ⟨pv, h1, h2, h3⟩ => ⟨pv, h1, h2, h3⟩
    ·have h0 : EV _ (fv 0) w1 := hp 0 (LC (by kernel_rfl))
     have h1 : PF _ (fv 1) w1 := hp 1 (LC (by kernel_rfl))
     refine tyAt_none rfl ?_
     refine ty_call (f := 177) (args := #[.agg #[.bool (zs q.num), .slice ua1 (tln q.num.natAbs) ma1, .slice va1 (tln (fd q)) na1], fv 1]) (by simp [execOp, go_sem, Act.eval, h0]) ?_
     exact (HM1.out (.agg #[.bool (zs q.num), .slice ua1 (tln q.num.natAbs) ma1, .slice va1 (tln (fd q)) na1]) (fv 1) w1 (rf_of (Sl.below (hS.get List.mem_cons_self) (below_drew hb1)) (Sl.below (hS.get (List.mem_cons_of_mem _ List.mem_cons_self)) (below_drew hb1))) h1).mono fun e w2 ⟨pv, h1, h2, h3⟩ => ⟨pv, h1, h2, h3⟩
   ·intro fv x4 hb1 hv
    have e0 : fv 0 = _ := hv 0 (by omega)
    have q1 : RF x4 (fv 1) h := hv 1 (by omega)
    obtain ⟨g3, d3, g4, d4, e1⟩ := rf_form q1
    rw [e1] at q1
    have q2 : RF x4 (fv 2) r := hv 2 (by omega)
    obtain ⟨g5, d5, g6, d6, e2⟩ := rf_form q2
    rw [e2] at q2
    simp only [List.take_succ_cons, List.take_zero, putsV, Act.put, List.setIfInBounds_toArray, List.set_cons_succ, List.set_cons_zero, List.drop_succ_cons, List.drop_zero, Nat.zero_add, Nat.reduceAdd, e0, e1, e2]
    replace hL0 := hL0.call (below_drew hb1)
    replace hS := hS.call (below_drew hb1)
    replace hS := hS.cons (rf_rn1 q1)
    replace hS := hS.cons (rf_rn2 q1)
    replace hS := hS.cons (rf_rn1 q2)
    replace hS := hS.cons (rf_rn2 q2)
    clear e0 e1 e2 hb1 hv q1 q2 fv
    have hS1 := hS.put ((((Upd.refl x2.heap.size x4).setCell 0 (.bool (zs r.num))).setCell 1 (.slice g5 (tln r.num.natAbs) d5)).setCell 2 (.slice g6 (tln (fd r)) d6)) (hL0.get _ _ List.mem_cons_self) (by intro v hv n; simp only [List.mem_cons, List.not_mem_nil, or_false] at hv; rcases hv with rfl | rfl | rfl <;> simp)
    have hA := hL0.fc
    simp only [fcG, cellsF, neK, and_true, ne_eq, Nat.zero_add, Nat.reduceAdd] at hA
    have hP := hL0.put 0 (x2.heap.size) _ rfl [.bool (zs r.num), .slice g5 (tln r.num.natAbs) d5, .slice g6 (tln (fd r)) d6] rfl
    simp only [setAll, List.set_cons_zero, List.set_cons_succ] at hP
    generalize hput1 : (((x4.setCell ⟨x2.heap.size, 0, none⟩ (.bool (zs r.num))).setCell ⟨x2.heap.size, 1, none⟩ (.slice g5 (tln r.num.natAbs) d5)).setCell ⟨x2.heap.size, 2, none⟩ (.slice g6 (tln (fd r)) d6)) = x5 at hP hS1
    have hB1 := hP.fc
    simp only [fcG, cellsF, neK, and_true, ne_eq, Nat.zero_add, Nat.reduceAdd] at hB1
    replace hL0 := hP
    replace hS := hS1
    clear hS1
    go_wp2_with fail
    go_roundg (gk - 1)
    case measure => omega
    case rel => exact ⟨i + 1, _, _, _, _, _, by omega, by first | rfl | go_num, hr.out, hL0, (((show SS x5 [(.slice g2 (tln (fd q0)) d2, (fd q0)), (.slice g1 (tln q0.num.natAbs) d1, q0.num.natAbs)] from fun p hp => hS p (List.mem_cons_of_mem _ (List.mem_cons_of_mem _ (List.mem_cons_of_mem _ (List.mem_cons_of_mem _ (List.mem_cons_of_mem _ (List.mem_cons_of_mem _ hp)))))))).cons (hS.get List.mem_cons_self)).cons (hS.get (List.mem_cons_of_mem _ List.mem_cons_self))⟩
  ·have k1 : ¬ (i : Int) < (n : Int) := by omega
   obtain rfl : i = n := by omega
   have hq2 := (hq.trans hf.out).symm
   subst hq2
   clear hq
   have hS1 := hS.put ((((Upd.refl w.heap.size wr).setCell 0 (.bool (zs q9.num))).setCell 1 (.slice ua1 (tln q9.num.natAbs) ma1)).setCell 2 (.slice va1 (tln (fd q9)) na1)) (hL0.get _ _ (List.mem_cons_of_mem _ List.mem_cons_self)) (by intro v hv n; simp only [List.mem_cons, List.not_mem_nil, or_false] at hv; rcases hv with rfl | rfl | rfl <;> simp)
   have hA := hL0.fc
   simp only [fcG, cellsF, neK, and_true, ne_eq, Nat.zero_add, Nat.reduceAdd] at hA
   have hP := hL0.put 1 (w.heap.size) _ rfl [.bool (zs q9.num), .slice ua1 (tln q9.num.natAbs) ma1, .slice va1 (tln (fd q9)) na1] rfl
   simp only [setAll, List.set_cons_zero, List.set_cons_succ] at hP
   generalize hput1 : (((wr.setCell ⟨w.heap.size, 0, none⟩ (.bool (zs q9.num))).setCell ⟨w.heap.size, 1, none⟩ (.slice ua1 (tln q9.num.natAbs) ma1)).setCell ⟨w.heap.size, 2, none⟩ (.slice va1 (tln (fd q9)) na1)) = x4 at hP hS1
   have hB1 := hP.fc
   simp only [fcG, cellsF, neK, and_true, ne_eq, Nat.zero_add, Nat.reduceAdd] at hB1
   replace hL0 := hP
   replace hS := hS1
   clear hS1
   go_wp2_with fail
   exact bodyPost_ret (v := .agg #[.bool (zs q9.num), .slice ua1 (tln q9.num.natAbs) ma1, .slice va1 (tln (fd q9)) na1]) (by simp [results, Tryz.results109, go_sem, hB1]) rfl ⟨_, rfl, (rf_of (hS.get List.mem_cons_self) (hS.get (List.mem_cons_of_mem _ List.mem_cons_self))), hL0.bl⟩
theorem rf_zero_cells : ([.bool (zs (0 : Rat).num), .slice none (tln (0 : Rat).num.natAbs) 0, .slice none (tln (fd (0 : Rat))) 0] : List Value) = [.bool false, .slice none 0 0, .slice none 0 0] := by with_unfolding_all rfl
theorem zero_S1 (w : World) : Rn w (.slice none (tln (0 : Rat).num.natAbs) 0) (0 : Rat).num.natAbs := by with_unfolding_all exact rn_nil w
theorem zero_S2 (w : World) : Rn w (.slice none (tln (fd (0 : Rat))) 0) (fd (0 : Rat)) := by with_unfolding_all exact rn_nil w
set_option maxHeartbeats 4000000 in
set_option maxRecDepth 100000 in
theorem rbelow_w (n : Int) (a q0 t h r9 : Rat) (P1 : Nat → Rat → Prop) (P2 : Nat → Rat → Rat → Prop) (k1 k2 : Nat) (HI : ∀ (w : World), Calls Tryz.prog 151 #[.int .i64 1] w fun e w' => ∃ pv, e = .returned pv ∧ RF w' pv q0 ∧ Below w.heap.size w w') (HT : ∀ (w : World), Calls Tryz.prog 109 #[.int .i64 n] w fun e w' => ∃ pv, e = .returned pv ∧ RF w' pv t ∧ Below w.heap.size w w') (HO : ∀ (w : World), Calls Tryz.prog 70 #[.int .i64 1, .int .i64 2] w fun e w' => ∃ pv, e = .returned pv ∧ RF w' pv h ∧ Below w.heap.size w w') (h0 : P1 k1 q0) (HS : ∀ (k : Nat) (d y : Rat), P1 k d → y = d * d → ∀ (p0 : Value) (w : World), RF w p0 d → Calls Tryz.prog 107 #[p0] w fun e w' => ∃ pv, e = .returned pv ∧ RF w' pv y ∧ Below w.heap.size w w') (HC : ∀ (k : Nat) (d y : Rat) (i : Int), P1 k d → y = d * d → i = cmpQ y a → ∀ (p0 p1 : Value) (w : World), RF w p0 y → RF w p1 a → Calls Tryz.prog 176 #[p0, p1] w fun e w' => e = .returned (.int .i64 i) ∧ Below w.heap.size w w') (HA : ∀ (k : Nat) (d y : Rat) (i : Int) (z : Rat), P1 k d → y = d * d → i = cmpQ y a → i ≤ 0 → z = d + d → ∀ (p0 p1 : Value) (w : World), RF w p0 d → RF w p1 d → Calls Tryz.prog 108 #[p0, p1] w fun e w' => ∃ pv, e = .returned pv ∧ RF w' pv z ∧ Below w.heap.size w w') (h1 : ∀ (k : Nat) (d y : Rat) (i : Int) (z : Rat), P1 k d → y = d * d → i = cmpQ y a → i ≤ 0 → z = d + d → ∃ k', k' < k ∧ P1 k' z) (h2 : ∀ (k : Nat) (d y : Rat) (i : Int), P1 k d → y = d * d → i = cmpQ y a → ¬ i ≤ 0 → P2 k2 0 d) (HD : ∀ (k : Nat) (o g : Rat) (i : Int), P2 k o g → i = cmpQ g t → ∀ (p0 p1 : Value) (w : World), RF w p0 g → RF w p1 t → Calls Tryz.prog 176 #[p0, p1] w fun e w' => e = .returned (.int .i64 i) ∧ Below w.heap.size w w') (HE : ∀ (k : Nat) (o g : Rat) (i : Int) (x : Rat), P2 k o g → i = cmpQ g t → 0 ≤ i → x = o + g → ∀ (p0 p1 : Value) (w : World), RF w p0 o → RF w p1 g → Calls Tryz.prog 108 #[p0, p1] w fun e w' => ∃ pv, e = .returned pv ∧ RF w' pv x ∧ Below w.heap.size w w') (HF : ∀ (k : Nat) (o g : Rat) (i : Int) (x vv : Rat), P2 k o g → i = cmpQ g t → 0 ≤ i → x = o + g → vv = x * x → ∀ (p0 : Value) (w : World), RF w p0 x → Calls Tryz.prog 107 #[p0] w fun e w' => ∃ pv, e = .returned pv ∧ RF w' pv vv ∧ Below w.heap.size w w') (HG : ∀ (k : Nat) (o g : Rat) (i : Int) (x vv : Rat) (j : Int), P2 k o g → i = cmpQ g t → 0 ≤ i → x = o + g → vv = x * x → j = cmpQ vv a → ∀ (p0 p1 : Value) (w : World), RF w p0 vv → RF w p1 a → Calls Tryz.prog 176 #[p0, p1] w fun e w' => e = .returned (.int .i64 j) ∧ Below w.heap.size w w') (HM : ∀ (k : Nat) (o g : Rat) (i : Int) (z : Rat), P2 k o g → i = cmpQ g t → 0 ≤ i → z = g * h → ∀ (p0 p1 : Value) (w : World), RF w p0 g → RF w p1 h → Calls Tryz.prog 177 #[p0, p1] w fun e w' => ∃ pv, e = .returned pv ∧ RF w' pv z ∧ Below w.heap.size w w') (h3 : ∀ (k : Nat) (o g : Rat) (i : Int) (x vv : Rat) (j : Int) (z : Rat), P2 k o g → i = cmpQ g t → 0 ≤ i → x = o + g → vv = x * x → j = cmpQ vv a → j ≤ 0 → z = g * h → ∃ k', k' < k ∧ P2 k' x z) (h4 : ∀ (k : Nat) (o g : Rat) (i : Int) (x vv : Rat) (j : Int) (z : Rat), P2 k o g → i = cmpQ g t → 0 ≤ i → x = o + g → vv = x * x → j = cmpQ vv a → ¬ j ≤ 0 → z = g * h → ∃ k', k' < k ∧ P2 k' o z) (h5 : ∀ (k : Nat) (o g : Rat) (i : Int), P2 k o g → i = cmpQ g t → ¬ 0 ≤ i → o = r9) (p0 : Value) (w : World) (r0 : RF w p0 a) :
  Calls Tryz.prog 105 #[p0, .int .i64 n] w fun e w' => ∃ pv, e = .returned pv ∧ RF w' pv r9 ∧ Below w.heap.size w w' := by
 obtain ⟨xa0, xc0, xb0, xd0, rfl⟩ := rf_form r0
 have xf0 := Lib.hid (rf_rn1 r0)
 have xk0 := Lib.hid (rf_rn2 r0)
 clear r0
 replace HI := Lib.hid HI
 replace HT := Lib.hid HT
 replace HO := Lib.hid HO
 have hL0 : GL w w [] := GL.start w
 have hS : SS w [] := SS.nil w
 replace h0 := Lib.hid h0
 replace HS := Lib.hid HS
 replace HC := Lib.hid HC
 replace HA := Lib.hid HA
 replace h1 := Lib.hid h1
 replace h2 := Lib.hid h2
 replace HD := Lib.hid HD
 replace HE := Lib.hid HE
 replace HF := Lib.hid HF
 replace HG := Lib.hid HG
 replace HM := Lib.hid HM
 replace h3 := Lib.hid h3
 replace h4 := Lib.hid h4
 replace h5 := Lib.hid h5
 replace hS := (((hS.new (.cells #[.bool (zs a.num), .slice xa0 (tln a.num.natAbs) xc0, .slice xb0 (tln (fd a)) xd0] 42)).new (.cells #[.bool false, .slice none 0 0, .slice none 0 0] 42)).new (.cells #[.bool false, .slice none 0 0, .slice none 0 0] 42))
 replace hL0 := (((hL0.new rfl [.bool (zs a.num), .slice xa0 (tln a.num.natAbs) xc0, .slice xb0 (tln (fd a)) xd0] 42).new (K := w.heap.size + 1) (szA _ _) [.bool false, .slice none 0 0, .slice none 0 0] 42).new (K := w.heap.size + 1 + 1) (by simp only [World.size_alloc]) [.bool false, .slice none 0 0, .slice none 0 0] 42)
 generalize hweq : (((w.alloc (.cells #[.bool (zs a.num), .slice xa0 (tln a.num.natAbs) xc0, .slice xb0 (tln (fd a)) xd0] 42)).alloc (.cells #[.bool false, .slice none 0 0, .slice none 0 0] 42)).alloc (.cells #[.bool false, .slice none 0 0, .slice none 0 0] 42)) = x1 at hL0 hS
 go_enter Tryz.func105, Tryz.ntmps105
 go_wp2_with fail
 with_reducible refine Calls.mono (HI.out _) ?_
 rintro e x2 ⟨v0, rfl, q0, hb⟩
 replace hL0 := hL0.call hb
 replace hS := hS.call hb
 clear hb hweq
 obtain ⟨g1, d1, g2, d2, rfl⟩ := rf_form q0
 replace hS := hS.cons (rf_rn1 q0)
 replace hS := hS.cons (rf_rn2 q0)
 clear q0
 replace hS := (hS.new (.cells #[.bool (zs q0.num), .slice g1 (tln q0.num.natAbs) d1, .slice g2 (tln (fd q0)) d2] 42))
 replace hL0 := (hL0.new rfl [.bool (zs q0.num), .slice g1 (tln q0.num.natAbs) d1, .slice g2 (tln (fd q0)) d2] 42)
 generalize hweq : (x2.alloc (.cells #[.bool (zs q0.num), .slice g1 (tln q0.num.natAbs) d1, .slice g2 (tln (fd q0)) d2] 42)) = x3 at hL0 hS
 go_wp2_with fail
 clear hweq
 go_loopg [] k1 (fun gk wr => ∃ (d : Rat) (ua1 : Option Addr) (ma1 : Nat) (va1 : Option Addr) (na1 : Nat), P1 gk d ∧ GL w wr [(x2.heap.size, [.bool (zs d.num), .slice ua1 (tln d.num.natAbs) ma1, .slice va1 (tln (fd d)) na1]), (w.heap.size + 1 + 1, [.bool false, .slice none 0 0, .slice none 0 0]), (w.heap.size + 1, [.bool false, .slice none 0 0, .slice none 0 0]), (w.heap.size, [.bool (zs a.num), .slice xa0 (tln a.num.natAbs) xc0, .slice xb0 (tln (fd a)) xd0])] ∧ SS wr [(.slice ua1 (tln d.num.natAbs) ma1, d.num.natAbs), (.slice va1 (tln (fd d)) na1, (fd d)), (.slice g2 (tln (fd q0)) d2, (fd q0)), (.slice g1 (tln q0.num.natAbs) d1, q0.num.natAbs)])
 case atStart => exact ⟨_, _, _, _, _, h0.out, hL0, ((hS).cons (hS.get List.mem_cons_self)).cons (hS.get (List.mem_cons_of_mem _ List.mem_cons_self))⟩
 case round =>
  clear hL0 hS
  obtain ⟨d, ua1, ma1, va1, na1, hP, hL0, hS⟩ := hrel
  obtain ⟨y, ey⟩ : ∃ y, y = d * d := ⟨_, rfl⟩
  obtain ⟨i, ei⟩ : ∃ i, i = cmpQ y a := ⟨_, rfl⟩
  have HS1 := Lib.hid (HS.out gk d y hP ey)
  have HC1 := Lib.hid (HC.out gk d y i hP ey ei)
  by_cases hi : i ≤ 0
  ·have f1 : decide (i ≤ 0) = true := decide_eq_true hi
   have fi : i ≤ 0 := hi
   have f2 : decide (0 < i) = false := decide_eq_false (by omega)
   obtain ⟨z, ez⟩ : ∃ z, z = d + d := ⟨_, rfl⟩
   have HA1 := Lib.hid (HA.out gk d y i z hP ey ei hi ez)
   obtain ⟨kn, hkn, hPn⟩ := h1.out gk d y i z hP ey ei hi ez
   clear hi hP
   replace ey := Lib.hid ey
   replace ei := Lib.hid ei
   replace ez := Lib.hid ez
   replace hkn := Lib.hid hkn
   replace hPn := Lib.hid hPn
   go_upto_region 3 with fail
   refine region_tl 5 [EV (.agg #[.bool (zs d.num), .slice ua1 (tln d.num.natAbs) ma1, .slice va1 (tln (fd d)) na1]), PF y, EV (.agg #[.bool (zs a.num), .slice xa0 (tln a.num.natAbs) xc0, .slice xb0 (tln (fd a)) xd0]), EV (.int .i64 i), EV (.bool true)] (by kernel_rfl) (by kernel_rfl) ?_ ?_ ?_
   ·exact stays_cons (stays_eq _) (stays_cons (stays_rf _) (stays_cons (stays_eq _) (stays_cons (stays_eq _) (stays_cons (stays_eq _) (stays_nil)))))
   ·simp only [List.take_succ_cons, List.take_zero, hopsR, and_true]
    refine ⟨?_, ?_, ?_, ?_, ?_⟩ <;> intro fv w1 hb1 hp
    all_goals (simp only [putsV, Act.put, List.setIfInBounds_toArray, List.set_cons_succ, List.set_cons_zero, Nat.zero_add, Nat.reduceAdd])
    ·refine tyAt_none rfl ?_
     have hc := (hL0.call (below_drew hb1)).fc
     simp only [fcG, cellsF, neK, and_true, ne_eq, Nat.zero_add, Nat.reduceAdd] at hc
     simp [tyUpon, execOp, go_sem, Act.eval, hc, f1, f2, fi, Below.refl]
    ·have h0 : EV _ (fv 0) w1 := hp 0 (LC (by kernel_rfl))
     refine tyAt_none rfl ?_
     refine ty_call (f := 107) (args := #[.agg #[.bool (zs d.num), .slice ua1 (tln d.num.natAbs) ma1, .slice va1 (tln (fd d)) na1]]) (by simp [execOp, go_sem, Act.eval, h0]) ?_
     exact (HS1.out (.agg #[.bool (zs d.num), .slice ua1 (tln d.num.natAbs) ma1, .slice va1 (tln (fd d)) na1]) w1 (rf_of (Sl.below (hS.get List.mem_cons_self) (below_drew hb1)) (Sl.below (hS.get (List.mem_cons_of_mem _ List.mem_cons_self)) (below_drew hb1)))).mono fun e w2 ⟨pv, h1, h2, h3⟩ => ⟨pv, h1, h2, h3⟩
    ·refine tyAt_none rfl ?_
     have hc := (hL0.call (below_drew hb1)).fc
     simp only [fcG, cellsF, neK, and_true, ne_eq, Nat.zero_add, Nat.reduceAdd] at hc
     simp [tyUpon, execOp, go_sem, Act.eval, hc, f1, f2, fi, Below.refl]
    ·have h1 : PF _ (fv 1) w1 := hp 1 (LC (by kernel_rfl))
     have h2 : EV _ (fv 2) w1 := hp 2 (LC (by kernel_rfl))
     refine tyAt_none rfl ?_
     refine ty_call (f := 176) (args := #[fv 1, .agg #[.bool (zs a.num), .slice xa0 (tln a.num.natAbs) xc0, .slice xb0 (tln (fd a)) xd0]]) (by simp [execOp, go_sem, Act.eval, h2]) ?_
     exact (HC1.out (fv 1) (.agg #[.bool (zs a.num), .slice xa0 (tln a.num.natAbs) xc0, .slice xb0 (tln (fd a)) xd0]) w1 h1 (rf_of (Sl.below (Sl.below xf0.out hL0.bl) (below_drew hb1)) (Sl.below (Sl.below xk0.out hL0.bl) (below_drew hb1)))).mono fun e w2 ⟨h1, h2⟩ => ⟨_, h1, rfl, h2⟩
    ·have h3 : EV _ (fv 3) w1 := hp 3 (LC (by kernel_rfl))
     refine tyAt_none rfl ?_
     simp [tyUpon, execOp, go_sem, Act.eval, h3, f1, f2, fi, Below.refl]
   ·intro fv x4 hb1 hv
    have e0 : fv 0 = _ := hv 0 (by omega)
    have q1 : RF x4 (fv 1) y := hv 1 (by omega)
    obtain ⟨g3, d3, g4, d4, e1⟩ := rf_form q1
    rw [e1] at q1
    have e2 : fv 2 = _ := hv 2 (by omega)
    have e3 : fv 3 = _ := hv 3 (by omega)
    have e4 : fv 4 = _ := hv 4 (by omega)
    simp only [List.take_succ_cons, List.take_zero, putsV, Act.put, List.setIfInBounds_toArray, List.set_cons_succ, List.set_cons_zero, List.drop_succ_cons, List.drop_zero, Nat.zero_add, Nat.reduceAdd, e0, e1, e2, e3, e4]
    replace hL0 := hL0.call (below_drew hb1)
    replace hS := hS.call (below_drew hb1)
    replace hS := hS.cons (rf_rn1 q1)
    replace hS := hS.cons (rf_rn2 q1)
    clear e0 e1 e2 e3 e4 hb1 hv q1 fv
    have hN0 := cells_of _ 0 [] rfl (hL0.get _ _ List.mem_cons_self)
    simp only [cellsF, and_true, Nat.zero_add, Nat.reduceAdd] at hN0
    go_wp2_with fail
    clear hN0
    with_reducible refine Calls.mono (HA1.out (.agg #[.bool (zs d.num), .slice ua1 (tln d.num.natAbs) ma1, .slice va1 (tln (fd d)) na1]) (.agg #[.bool (zs d.num), .slice ua1 (tln d.num.natAbs) ma1, .slice va1 (tln (fd d)) na1]) _ (rf_of (hS.get (List.mem_cons_of_mem _ (List.mem_cons_of_mem _ List.mem_cons_self))) (hS.get (List.mem_cons_of_mem _ (List.mem_cons_of_mem _ (List.mem_cons_of_mem _ List.mem_cons_self))))) (rf_of (hS.get (List.mem_cons_of_mem _ (List.mem_cons_of_mem _ List.mem_cons_self))) (hS.get (List.mem_cons_of_mem _ (List.mem_cons_of_mem _ (List.mem_cons_of_mem _ List.mem_cons_self)))))) ?_
    rintro e x5 ⟨v0, rfl, q0, hb⟩
    replace hL0 := hL0.call hb
    replace hS := hS.call hb
    clear hb
    obtain ⟨g5, d5, g6, d6, rfl⟩ := rf_form q0
    replace hS := hS.cons (rf_rn1 q0)
    replace hS := hS.cons (rf_rn2 q0)
    clear q0
    have hS1 := hS.put ((((Upd.refl x2.heap.size x5).setCell 0 (.bool (zs z.num))).setCell 1 (.slice g5 (tln z.num.natAbs) d5)).setCell 2 (.slice g6 (tln (fd z)) d6)) (hL0.get _ _ List.mem_cons_self) (by intro v hv n; simp only [List.mem_cons, List.not_mem_nil, or_false] at hv; rcases hv with rfl | rfl | rfl <;> simp)
    have hA := hL0.fc
    simp only [fcG, cellsF, neK, and_true, ne_eq, Nat.zero_add, Nat.reduceAdd] at hA
    have hP := hL0.put 0 (x2.heap.size) _ rfl [.bool (zs z.num), .slice g5 (tln z.num.natAbs) d5, .slice g6 (tln (fd z)) d6] rfl
    simp only [setAll, List.set_cons_zero, List.set_cons_succ] at hP
    generalize hput1 : (((x5.setCell ⟨x2.heap.size, 0, none⟩ (.bool (zs z.num))).setCell ⟨x2.heap.size, 1, none⟩ (.slice g5 (tln z.num.natAbs) d5)).setCell ⟨x2.heap.size, 2, none⟩ (.slice g6 (tln (fd z)) d6)) = x6 at hP hS1
    have hB1 := hP.fc
    simp only [fcG, cellsF, neK, and_true, ne_eq, Nat.zero_add, Nat.reduceAdd] at hB1
    replace hL0 := hP
    replace hS := hS1
    clear hS1
    go_wp2_with fail
    go_roundg kn
    case measure => exact hkn.out
    case rel => exact ⟨_, _, _, _, _, hPn.out, hL0, (((show SS x6 [(.slice g2 (tln (fd q0)) d2, (fd q0)), (.slice g1 (tln q0.num.natAbs) d1, q0.num.natAbs)] from fun p hp => hS p (List.mem_cons_of_mem _ (List.mem_cons_of_mem _ (List.mem_cons_of_mem _ (List.mem_cons_of_mem _ (List.mem_cons_of_mem _ (List.mem_cons_of_mem _ hp)))))))).cons (hS.get List.mem_cons_self)).cons (hS.get (List.mem_cons_of_mem _ List.mem_cons_self))⟩
  ·have f1 : decide (i ≤ 0) = false := decide_eq_false hi
   have fi : 0 < i := by omega
   have f2 : decide (0 < i) = true := decide_eq_true (by omega)
   have hP2 := Lib.hid (h2.out gk d y i hP ey ei (by omega))
   clear hi hP
   replace ey := Lib.hid ey
   replace ei := Lib.hid ei
   go_upto_region 3 with fail
   refine region_tl 5 [EV (.agg #[.bool (zs d.num), .slice ua1 (tln d.num.natAbs) ma1, .slice va1 (tln (fd d)) na1]), PF y, EV (.agg #[.bool (zs a.num), .slice xa0 (tln a.num.natAbs) xc0, .slice xb0 (tln (fd a)) xd0]), EV (.int .i64 i), EV (.bool false)] (by kernel_rfl) (by kernel_rfl) ?_ ?_ ?_
   ·exact stays_cons (stays_eq _) (stays_cons (stays_rf _) (stays_cons (stays_eq _) (stays_cons (stays_eq _) (stays_cons (stays_eq _) (stays_nil)))))
   ·simp only [List.take_succ_cons, List.take_zero, hopsR, and_true]
    refine ⟨?_, ?_, ?_, ?_, ?_⟩ <;> intro fv w1 hb1 hp
    all_goals (simp only [putsV, Act.put, List.setIfInBounds_toArray, List.set_cons_succ, List.set_cons_zero, Nat.zero_add, Nat.reduceAdd])
    ·refine tyAt_none rfl ?_
     have hc := (hL0.call (below_drew hb1)).fc
     simp only [fcG, cellsF, neK, and_true, ne_eq, Nat.zero_add, Nat.reduceAdd] at hc
     simp [tyUpon, execOp, go_sem, Act.eval, hc, f1, f2, fi, Below.refl]
    ·have h0 : EV _ (fv 0) w1 := hp 0 (LC (by kernel_rfl))
     refine tyAt_none rfl ?_
     refine ty_call (f := 107) (args := #[.agg #[.bool (zs d.num), .slice ua1 (tln d.num.natAbs) ma1, .slice va1 (tln (fd d)) na1]]) (by simp [execOp, go_sem, Act.eval, h0]) ?_
     exact (HS1.out (.agg #[.bool (zs d.num), .slice ua1 (tln d.num.natAbs) ma1, .slice va1 (tln (fd d)) na1]) w1 (rf_of (Sl.below (hS.get List.mem_cons_self) (below_drew hb1)) (Sl.below (hS.get (List.mem_cons_of_mem _ List.mem_cons_self)) (below_drew hb1)))).mono fun e w2 ⟨pv, h1, h2, h3⟩ => ⟨pv, h1, h2, h3⟩
    ·refine tyAt_none rfl ?_
     have hc := (hL0.call (below_drew hb1)).fc
     simp only [fcG, cellsF, neK, and_true, ne_eq, Nat.zero_add, Nat.reduceAdd] at hc
     simp [tyUpon, execOp, go_sem, Act.eval, hc, f1, f2, fi, Below.refl]
    ·have h1 : PF _ (fv 1) w1 := hp 1 (LC (by kernel_rfl))
     have h2 : EV _ (fv 2) w1 := hp 2 (LC (by kernel_rfl))
     refine tyAt_none rfl ?_
     refine ty_call (f := 176) (args := #[fv 1, .agg #[.bool (zs a.num), .slice xa0 (tln a.num.natAbs) xc0, .slice xb0 (tln (fd a)) xd0]]) (by simp [execOp, go_sem, Act.eval, h2]) ?_
     exact (HC1.out (fv 1) (.agg #[.bool (zs a.num), .slice xa0 (tln a.num.natAbs) xc0, .slice xb0 (tln (fd a)) xd0]) w1 h1 (rf_of (Sl.below (Sl.below xf0.out hL0.bl) (below_drew hb1)) (Sl.below (Sl.below xk0.out hL0.bl) (below_drew hb1)))).mono fun e w2 ⟨h1, h2⟩ => ⟨_, h1, rfl, h2⟩
    ·have h3 : EV _ (fv 3) w1 := hp 3 (LC (by kernel_rfl))
     refine tyAt_none rfl ?_
     simp [tyUpon, execOp, go_sem, Act.eval, h3, f1, f2, fi, Below.refl]
   ·intro fv x4 hb1 hv
    have e0 : fv 0 = _ := hv 0 (by omega)
    have q1 : RF x4 (fv 1) y := hv 1 (by omega)
    obtain ⟨g3, d3, g4, d4, e1⟩ := rf_form q1
    rw [e1] at q1
    have e2 : fv 2 = _ := hv 2 (by omega)
    have e3 : fv 3 = _ := hv 3 (by omega)
    have e4 : fv 4 = _ := hv 4 (by omega)
    simp only [List.take_succ_cons, List.take_zero, putsV, Act.put, List.setIfInBounds_toArray, List.set_cons_succ, List.set_cons_zero, List.drop_succ_cons, List.drop_zero, Nat.zero_add, Nat.reduceAdd, e0, e1, e2, e3, e4]
    replace hL0 := hL0.call (below_drew hb1)
    replace hS := hS.call (below_drew hb1)
    replace hS := hS.cons (rf_rn1 q1)
    replace hS := hS.cons (rf_rn2 q1)
    clear e0 e1 e2 e3 e4 hb1 hv q1 fv
    go_wp2_with fail
    with_reducible refine Calls.mono (HT.out _) ?_
    rintro e x5 ⟨v0, rfl, q0, hb⟩
    replace hL0 := hL0.call hb
    replace hS := hS.call hb
    clear hb
    obtain ⟨g5, d5, g6, d6, rfl⟩ := rf_form q0
    replace hS := hS.cons (rf_rn1 q0)
    replace hS := hS.cons (rf_rn2 q0)
    clear q0
    clear HS HC HA h1 h2 HS1 HC1 ey ei f1 f2 fi
    replace hS := (hS.new (.cells #[.bool (zs t.num), .slice g5 (tln t.num.natAbs) d5, .slice g6 (tln (fd t)) d6] 42))
    replace hL0 := (hL0.new rfl [.bool (zs t.num), .slice g5 (tln t.num.natAbs) d5, .slice g6 (tln (fd t)) d6] 42)
    generalize hweq : (x5.alloc (.cells #[.bool (zs t.num), .slice g5 (tln t.num.natAbs) d5, .slice g6 (tln (fd t)) d6] 42)) = x6 at hL0 hS
    go_wp2_with fail
    clear hweq
    replace hL0 : GL w x6 [(x5.heap.size, [.bool (zs t.num), .slice g5 (tln t.num.natAbs) d5, .slice g6 (tln (fd t)) d6]), (x2.heap.size, [.bool (zs d.num), .slice ua1 (tln d.num.natAbs) ma1, .slice va1 (tln (fd d)) na1]), (w.heap.size + 1 + 1, [.bool (zs (0 : Rat).num), .slice none (tln (0 : Rat).num.natAbs) 0, .slice none (tln (fd (0 : Rat))) 0]), (w.heap.size + 1, [.bool false, .slice none 0 0, .slice none 0 0]), (w.heap.size, [.bool (zs a.num), .slice xa0 (tln a.num.natAbs) xc0, .slice xb0 (tln (fd a)) xd0])] := by rw [rf_zero_cells]; exact hL0
    go_loopg [] k2 (fun gk wr => ∃ (o g : Rat) (ua2 : Option Addr) (ma2 : Nat) (va2 : Option Addr) (na2 : Nat) (ua3 : Option Addr) (ma3 : Nat) (va3 : Option Addr) (na3 : Nat), P2 gk o g ∧ GL w wr [(x5.heap.size, [.bool (zs t.num), .slice g5 (tln t.num.natAbs) d5, .slice g6 (tln (fd t)) d6]), (x2.heap.size, [.bool (zs g.num), .slice ua3 (tln g.num.natAbs) ma3, .slice va3 (tln (fd g)) na3]), (w.heap.size + 1 + 1, [.bool (zs o.num), .slice ua2 (tln o.num.natAbs) ma2, .slice va2 (tln (fd o)) na2]), (w.heap.size + 1, [.bool false, .slice none 0 0, .slice none 0 0]), (w.heap.size, [.bool (zs a.num), .slice xa0 (tln a.num.natAbs) xc0, .slice xb0 (tln (fd a)) xd0])] ∧ SS wr [(.slice ua2 (tln o.num.natAbs) ma2, o.num.natAbs), (.slice va2 (tln (fd o)) na2, (fd o)), (.slice ua3 (tln g.num.natAbs) ma3, g.num.natAbs), (.slice va3 (tln (fd g)) na3, (fd g)), (.slice g6 (tln (fd t)) d6, (fd t)), (.slice g5 (tln t.num.natAbs) d5, t.num.natAbs), (.slice g4 (tln (fd y)) d4, (fd y)), (.slice g3 (tln y.num.natAbs) d3, y.num.natAbs), (.slice ua1 (tln d.num.natAbs) ma1, d.num.natAbs), (.slice va1 (tln (fd d)) na1, (fd d)), (.slice g2 (tln (fd q0)) d2, (fd q0)), (.slice g1 (tln q0.num.natAbs) d1, q0.num.natAbs)])
    case atStart => exact ⟨_, _, _, _, _, _, _, _, _, _, hP2.out, hL0, ((((hS).cons (hS.get (List.mem_cons_of_mem _ (List.mem_cons_of_mem _ (List.mem_cons_of_mem _ (List.mem_cons_of_mem _ (List.mem_cons_of_mem _ List.mem_cons_self))))))).cons (hS.get (List.mem_cons_of_mem _ (List.mem_cons_of_mem _ (List.mem_cons_of_mem _ (List.mem_cons_of_mem _ List.mem_cons_self)))))).cons (zero_S2 _)).cons (zero_S1 _)⟩
    case round =>
     clear hL0 hS
     obtain ⟨o, g, ua2, ma2, va2, na2, ua3, ma3, va3, na3, hP, hL0, hS⟩ := hrel
     obtain ⟨i, ei⟩ : ∃ i, i = cmpQ g t := ⟨_, rfl⟩
     have HC2 := Lib.hid (HD.out gk o g i hP ei)
     by_cases hi : 0 ≤ i
     ·have f1 : decide (0 ≤ i) = true := decide_eq_true hi
      have fi : 0 ≤ i := hi
      have f2 : decide (i < 0) = false := decide_eq_false (by omega)
      obtain ⟨x, ex⟩ : ∃ x, x = o + g := ⟨_, rfl⟩
      have HA2 := Lib.hid (HE.out gk o g i x hP ei hi ex)
      obtain ⟨vv, ey⟩ : ∃ vv, vv = x * x := ⟨_, rfl⟩
      have HS2 := Lib.hid (HF.out gk o g i x vv hP ei hi ex ey)
      obtain ⟨j, ej⟩ : ∃ j, j = cmpQ vv a := ⟨_, rfl⟩
      have HC3 := Lib.hid (HG.out gk o g i x vv j hP ei hi ex ey ej)
      obtain ⟨z, ez⟩ : ∃ z, z = g * h := ⟨_, rfl⟩
      have HM2 := Lib.hid (HM.out gk o g i z hP ei hi ez)
      by_cases hj : j ≤ 0
      ·have f3 : decide (j ≤ 0) = true := decide_eq_true hj
       have fj : j ≤ 0 := by omega
       have f4 : decide (0 < j) = false := decide_eq_false (by omega)
       obtain ⟨kn, hkn, hPn⟩ := h3.out gk o g i x vv j z hP ei hi ex ey ej (by omega) ez
       clear hi hj hP
       replace ei := Lib.hid ei
       replace ex := Lib.hid ex
       replace ey := Lib.hid ey
       replace ej := Lib.hid ej
       replace ez := Lib.hid ez
       replace hkn := Lib.hid hkn
       replace hPn := Lib.hid hPn
       have hN0 := cells_of _ 0 [] rfl (hL0.get _ _ List.mem_cons_self)
       simp only [cellsF, and_true, Nat.zero_add, Nat.reduceAdd] at hN0
       have hN1 := cells_of _ 0 [] rfl (hL0.get _ _ (List.mem_cons_of_mem _ List.mem_cons_self))
       simp only [cellsF, and_true, Nat.zero_add, Nat.reduceAdd] at hN1
       go_wp2_with fail
       clear hN0 hN1
       with_reducible refine Calls.mono (HC2.out (.agg #[.bool (zs g.num), .slice ua3 (tln g.num.natAbs) ma3, .slice va3 (tln (fd g)) na3]) (.agg #[.bool (zs t.num), .slice g5 (tln t.num.natAbs) d5, .slice g6 (tln (fd t)) d6]) _ (rf_of (hS.get (List.mem_cons_of_mem _ (List.mem_cons_of_mem _ List.mem_cons_self))) (hS.get (List.mem_cons_of_mem _ (List.mem_cons_of_mem _ (List.mem_cons_of_mem _ List.mem_cons_self))))) (rf_of (hS.get (List.mem_cons_of_mem _ (List.mem_cons_of_mem _ (List.mem_cons_of_mem _ (List.mem_cons_of_mem _ (List.mem_cons_of_mem _ List.mem_cons_self)))))) (hS.get (List.mem_cons_of_mem _ (List.mem_cons_of_mem _ (List.mem_cons_of_mem _ (List.mem_cons_of_mem _ List.mem_cons_self))))))) ?_
       rintro e x7 ⟨rfl, hb⟩
       replace hL0 := hL0.call hb
       replace hS := hS.call hb
       clear hb
       have hN0 := cells_of _ 0 [] rfl (hL0.get _ _ (List.mem_cons_of_mem _ List.mem_cons_self))
       simp only [cellsF, and_true, Nat.zero_add, Nat.reduceAdd] at hN0
       have hN1 := cells_of _ 0 [] rfl (hL0.get _ _ (List.mem_cons_of_mem _ (List.mem_cons_of_mem _ List.mem_cons_self)))
       simp only [cellsF, and_true, Nat.zero_add, Nat.reduceAdd] at hN1
       go_wp2_with fail
       clear hN0 hN1
       with_reducible refine Calls.mono (HA2.out (.agg #[.bool (zs o.num), .slice ua2 (tln o.num.natAbs) ma2, .slice va2 (tln (fd o)) na2]) (.agg #[.bool (zs g.num), .slice ua3 (tln g.num.natAbs) ma3, .slice va3 (tln (fd g)) na3]) _ (rf_of (hS.get List.mem_cons_self) (hS.get (List.mem_cons_of_mem _ List.mem_cons_self))) (rf_of (hS.get (List.mem_cons_of_mem _ (List.mem_cons_of_mem _ List.mem_cons_self))) (hS.get (List.mem_cons_of_mem _ (List.mem_cons_of_mem _ (List.mem_cons_of_mem _ List.mem_cons_self)))))) ?_
       rintro e x8 ⟨v0, rfl, q0, hb⟩
       replace hL0 := hL0.call hb
       replace hS := hS.call hb
       clear hb
       obtain ⟨g7, d7, g8, d8, rfl⟩ := rf_form q0
       replace hS := hS.cons (rf_rn1 q0)
       replace hS := hS.cons (rf_rn2 q0)
       clear q0
       replace hS := (hS.new (.cells #[.bool (zs x.num), .slice g7 (tln x.num.natAbs) d7, .slice g8 (tln (fd x)) d8] 42))
       replace hL0 := (hL0.new rfl [.bool (zs x.num), .slice g7 (tln x.num.natAbs) d7, .slice g8 (tln (fd x)) d8] 42)
       generalize hweq : (x8.alloc (.cells #[.bool (zs x.num), .slice g7 (tln x.num.natAbs) d7, .slice g8 (tln (fd x)) d8] 42)) = x9 at hL0 hS
       go_upto_region 8 with fail
       clear hweq
       refine region_tl 5 [EV (.agg #[.bool (zs x.num), .slice g7 (tln x.num.natAbs) d7, .slice g8 (tln (fd x)) d8]), PF vv, EV (.agg #[.bool (zs a.num), .slice xa0 (tln a.num.natAbs) xc0, .slice xb0 (tln (fd a)) xd0]), EV (.int .i64 j), EV (.bool true)] (by kernel_rfl) (by kernel_rfl) ?_ ?_ ?_
       ·exact stays_cons (stays_eq _) (stays_cons (stays_rf _) (stays_cons (stays_eq _) (stays_cons (stays_eq _) (stays_cons (stays_eq _) (stays_nil)))))
       ·simp only [List.take_succ_cons, List.take_zero, hopsR, and_true]
        refine ⟨?_, ?_, ?_, ?_, ?_⟩ <;> intro fv w1 hb1 hp
        all_goals (simp only [putsV, Act.put, List.setIfInBounds_toArray, List.set_cons_succ, List.set_cons_zero, Nat.zero_add, Nat.reduceAdd])
        ·refine tyAt_none rfl ?_
         have hc := (hL0.call (below_drew hb1)).fc
         simp only [fcG, cellsF, neK, and_true, ne_eq, Nat.zero_add, Nat.reduceAdd] at hc
         simp [tyUpon, execOp, go_sem, Act.eval, hc, f3, f4, fj, Below.refl]
        ·have h0 : EV _ (fv 0) w1 := hp 0 (LC (by kernel_rfl))
         refine tyAt_none rfl ?_
         refine ty_call (f := 107) (args := #[.agg #[.bool (zs x.num), .slice g7 (tln x.num.natAbs) d7, .slice g8 (tln (fd x)) d8]]) (by simp [execOp, go_sem, Act.eval, h0]) ?_
         exact (HS2.out (.agg #[.bool (zs x.num), .slice g7 (tln x.num.natAbs) d7, .slice g8 (tln (fd x)) d8]) w1 (rf_of (Sl.below (hS.get (List.mem_cons_of_mem _ List.mem_cons_self)) (below_drew hb1)) (Sl.below (hS.get List.mem_cons_self) (below_drew hb1)))).mono fun e w2 ⟨pv, h1, h2, h3⟩ => ⟨pv, h1, h2, h3⟩
        ·refine tyAt_none rfl ?_
         have hc := (hL0.call (below_drew hb1)).fc
         simp only [fcG, cellsF, neK, and_true, ne_eq, Nat.zero_add, Nat.reduceAdd] at hc
         simp [tyUpon, execOp, go_sem, Act.eval, hc, f3, f4, fj, Below.refl]
        ·have h1 : PF _ (fv 1) w1 := hp 1 (LC (by kernel_rfl))
         have h2 : EV _ (fv 2) w1 := hp 2 (LC (by kernel_rfl))
         refine tyAt_none rfl ?_
         refine ty_call (f := 176) (args := #[fv 1, .agg #[.bool (zs a.num), .slice xa0 (tln a.num.natAbs) xc0, .slice xb0 (tln (fd a)) xd0]]) (by simp [execOp, go_sem, Act.eval, h2]) ?_
         exact (HC3.out (fv 1) (.agg #[.bool (zs a.num), .slice xa0 (tln a.num.natAbs) xc0, .slice xb0 (tln (fd a)) xd0]) w1 h1 (rf_of (Sl.below (Sl.below xf0.out hL0.bl) (below_drew hb1)) (Sl.below (Sl.below xk0.out hL0.bl) (below_drew hb1)))).mono fun e w2 ⟨h1, h2⟩ => ⟨_, h1, rfl, h2⟩
        ·have h3 : EV _ (fv 3) w1 := hp 3 (LC (by kernel_rfl))
         refine tyAt_none rfl ?_
         simp [tyUpon, execOp, go_sem, Act.eval, h3, f3, f4, fj, Below.refl]
       ·intro fv x10 hb1 hv
        have e0 : fv 0 = _ := hv 0 (by omega)
        have q1 : RF x10 (fv 1) vv := hv 1 (by omega)
        obtain ⟨g9, d9, g10, d10, e1⟩ := rf_form q1
        rw [e1] at q1
        have e2 : fv 2 = _ := hv 2 (by omega)
        have e3 : fv 3 = _ := hv 3 (by omega)
        have e4 : fv 4 = _ := hv 4 (by omega)
        simp only [List.take_succ_cons, List.take_zero, putsV, Act.put, List.setIfInBounds_toArray, List.set_cons_succ, List.set_cons_zero, List.drop_succ_cons, List.drop_zero, Nat.zero_add, Nat.reduceAdd, e0, e1, e2, e3, e4]
        replace hL0 := hL0.call (below_drew hb1)
        replace hS := hS.call (below_drew hb1)
        replace hS := hS.cons (rf_rn1 q1)
        replace hS := hS.cons (rf_rn2 q1)
        clear e0 e1 e2 e3 e4 hb1 hv q1 fv
        have hS1 := hS.put ((((Upd.refl (w.heap.size + 1 + 1) x10).setCell 0 (.bool (zs x.num))).setCell 1 (.slice g7 (tln x.num.natAbs) d7)).setCell 2 (.slice g8 (tln (fd x)) d8)) (hL0.get _ _ (List.mem_cons_of_mem _ (List.mem_cons_of_mem _ (List.mem_cons_of_mem _ List.mem_cons_self)))) (by intro v hv n; simp only [List.mem_cons, List.not_mem_nil, or_false] at hv; rcases hv with rfl | rfl | rfl <;> simp)
        have hA := hL0.fc
        simp only [fcG, cellsF, neK, and_true, ne_eq, Nat.zero_add, Nat.reduceAdd] at hA
        have hP := hL0.put 3 (w.heap.size + 1 + 1) _ rfl [.bool (zs x.num), .slice g7 (tln x.num.natAbs) d7, .slice g8 (tln (fd x)) d8] rfl
        simp only [setAll, List.set_cons_zero, List.set_cons_succ] at hP
        generalize hput1 : (((x10.setCell ⟨w.heap.size + 1 + 1, 0, none⟩ (.bool (zs x.num))).setCell ⟨w.heap.size + 1 + 1, 1, none⟩ (.slice g7 (tln x.num.natAbs) d7)).setCell ⟨w.heap.size + 1 + 1, 2, none⟩ (.slice g8 (tln (fd x)) d8)) = x11 at hP hS1
        have hB1 := hP.fc
        simp only [fcG, cellsF, neK, and_true, ne_eq, Nat.zero_add, Nat.reduceAdd] at hB1
        replace hL0 := hP
        replace hS := hS1
        clear hS1
        go_upto_region 10 with fail
        clear hput1 hB1
        clear hA
        refine region_tl 3 [EV (.agg #[.bool (zs g.num), .slice ua3 (tln g.num.natAbs) ma3, .slice va3 (tln (fd g)) na3]), PF h, PF z] (by kernel_rfl) (by kernel_rfl) ?_ ?_ ?_
        ·exact stays_cons (stays_eq _) (stays_cons (stays_rf _) (stays_cons (stays_rf _) (stays_nil)))
        ·simp only [List.take_succ_cons, List.take_zero, hopsR, and_true]
         refine ⟨?_, ?_, ?_⟩ <;> intro fv w1 hb1 hp
         all_goals (simp only [putsV, Act.put, List.setIfInBounds_toArray, List.set_cons_succ, List.set_cons_zero, Nat.zero_add, Nat.reduceAdd])
         ·refine tyAt_none rfl ?_
          have hc := (hL0.call (below_drew hb1)).fc
          simp only [fcG, cellsF, neK, and_true, ne_eq, Nat.zero_add, Nat.reduceAdd] at hc
          simp [tyUpon, execOp, go_sem, Act.eval, hc, f3, f4, fj, Below.refl]
         ·refine tyAt_none rfl ?_
          refine ty_call (f := 70) (args := #[.int .i64 1, .int .i64 2]) (by simp [execOp, go_sem, Act.eval]) ?_
          exact (HO.out w1).mono fun e w2 ⟨pv, h1, h2, h3⟩ => ⟨pv, h1, h2, h3⟩
         ·have h0 : EV _ (fv 0) w1 := hp 0 (LC (by kernel_rfl))
          have h1 : PF _ (fv 1) w1 := hp 1 (LC (by kernel_rfl))
          refine tyAt_none rfl ?_
          refine ty_call (f := 177) (args := #[.agg #[.bool (zs g.num), .slice ua3 (tln g.num.natAbs) ma3, .slice va3 (tln (fd g)) na3], fv 1]) (by simp [execOp, go_sem, Act.eval, h0]) ?_
          exact (HM2.out (.agg #[.bool (zs g.num), .slice ua3 (tln g.num.natAbs) ma3, .slice va3 (tln (fd g)) na3]) (fv 1) w1 (rf_of (Sl.below (hS.get (List.mem_cons_of_mem _ (List.mem_cons_of_mem _ (List.mem_cons_of_mem _ (List.mem_cons_of_mem _ (List.mem_cons_of_mem _ (List.mem_cons_of_mem _ List.mem_cons_self))))))) (below_drew hb1)) (Sl.below (hS.get (List.mem_cons_of_mem _ (List.mem_cons_of_mem _ (List.mem_cons_of_mem _ (List.mem_cons_of_mem _ (List.mem_cons_of_mem _ (List.mem_cons_of_mem _ (List.mem_cons_of_mem _ List.mem_cons_self)))))))) (below_drew hb1))) h1).mono fun e w2 ⟨pv, h1, h2, h3⟩ => ⟨pv, h1, h2, h3⟩
        ·intro fv x12 hb1 hv
         have e0 : fv 0 = _ := hv 0 (by omega)
         have q1 : RF x12 (fv 1) h := hv 1 (by omega)
         obtain ⟨g11, d11, g12, d12, e1⟩ := rf_form q1
         rw [e1] at q1
         have q2 : RF x12 (fv 2) z := hv 2 (by omega)
         obtain ⟨g13, d13, g14, d14, e2⟩ := rf_form q2
         rw [e2] at q2
         simp only [List.take_succ_cons, List.take_zero, putsV, Act.put, List.setIfInBounds_toArray, List.set_cons_succ, List.set_cons_zero, List.drop_succ_cons, List.drop_zero, Nat.zero_add, Nat.reduceAdd, e0, e1, e2]
         replace hL0 := hL0.call (below_drew hb1)
         replace hS := hS.call (below_drew hb1)
         replace hS := hS.cons (rf_rn1 q1)
         replace hS := hS.cons (rf_rn2 q1)
         replace hS := hS.cons (rf_rn1 q2)
         replace hS := hS.cons (rf_rn2 q2)
         clear e0 e1 e2 hb1 hv q1 q2 fv
         have hS1 := hS.put ((((Upd.refl x2.heap.size x12).setCell 0 (.bool (zs z.num))).setCell 1 (.slice g13 (tln z.num.natAbs) d13)).setCell 2 (.slice g14 (tln (fd z)) d14)) (hL0.get _ _ (List.mem_cons_of_mem _ (List.mem_cons_of_mem _ List.mem_cons_self))) (by intro v hv n; simp only [List.mem_cons, List.not_mem_nil, or_false] at hv; rcases hv with rfl | rfl | rfl <;> simp)
         have hA := hL0.fc
         simp only [fcG, cellsF, neK, and_true, ne_eq, Nat.zero_add, Nat.reduceAdd] at hA
         have hP := hL0.put 2 (x2.heap.size) _ rfl [.bool (zs z.num), .slice g13 (tln z.num.natAbs) d13, .slice g14 (tln (fd z)) d14] rfl
         simp only [setAll, List.set_cons_zero, List.set_cons_succ] at hP
         generalize hput2 : (((x12.setCell ⟨x2.heap.size, 0, none⟩ (.bool (zs z.num))).setCell ⟨x2.heap.size, 1, none⟩ (.slice g13 (tln z.num.natAbs) d13)).setCell ⟨x2.heap.size, 2, none⟩ (.slice g14 (tln (fd z)) d14)) = x13 at hP hS1
         have hB2 := hP.fc
         simp only [fcG, cellsF, neK, and_true, ne_eq, Nat.zero_add, Nat.reduceAdd] at hB2
         replace hL0 := hP
         replace hS := hS1
         clear hS1
         go_wp2_with fail
         go_roundg kn
         case measure => exact hkn.out
         case rel => exact ⟨_, _, _, _, _, _, _, _, _, _, hPn.out, hL0.weak (List.Sublist.cons _ (List.Sublist.refl _)), (((((show SS x13 [(.slice g6 (tln (fd t)) d6, (fd t)), (.slice g5 (tln t.num.natAbs) d5, t.num.natAbs), (.slice g4 (tln (fd y)) d4, (fd y)), (.slice g3 (tln y.num.natAbs) d3, y.num.natAbs), (.slice ua1 (tln d.num.natAbs) ma1, d.num.natAbs), (.slice va1 (tln (fd d)) na1, (fd d)), (.slice g2 (tln (fd q0)) d2, (fd q0)), (.slice g1 (tln q0.num.natAbs) d1, q0.num.natAbs)] from fun p hp => hS p (List.mem_cons_of_mem _ (List.mem_cons_of_mem _ (List.mem_cons_of_mem _ (List.mem_cons_of_mem _ (List.mem_cons_of_mem _ (List.mem_cons_of_mem _ (List.mem_cons_of_mem _ (List.mem_cons_of_mem _ (List.mem_cons_of_mem _ (List.mem_cons_of_mem _ (List.mem_cons_of_mem _ (List.mem_cons_of_mem _ hp)))))))))))))).cons (hS.get List.mem_cons_self)).cons (hS.get (List.mem_cons_of_mem _ List.mem_cons_self))).cons (hS.get (List.mem_cons_of_mem _ (List.mem_cons_of_mem _ (List.mem_cons_of_mem _ (List.mem_cons_of_mem _ (List.mem_cons_of_mem _ (List.mem_cons_of_mem _ List.mem_cons_self)))))))).cons (hS.get (List.mem_cons_of_mem _ (List.mem_cons_of_mem _ (List.mem_cons_of_mem _ (List.mem_cons_of_mem _ (List.mem_cons_of_mem _ (List.mem_cons_of_mem _ (List.mem_cons_of_mem _ List.mem_cons_self))))))))⟩
      ·have f3 : decide (j ≤ 0) = false := decide_eq_false hj
       have fj : 0 < j := by omega
       have f4 : decide (0 < j) = true := decide_eq_true (by omega)
       obtain ⟨kn, hkn, hPn⟩ := h4.out gk o g i x vv j z hP ei hi ex ey ej (by omega) ez
       clear hi hj hP
       replace ei := Lib.hid ei
       replace ex := Lib.hid ex
       replace ey := Lib.hid ey
       replace ej := Lib.hid ej
       replace ez := Lib.hid ez
       replace hkn := Lib.hid hkn
       replace hPn := Lib.hid hPn
       have hN0 := cells_of _ 0 [] rfl (hL0.get _ _ List.mem_cons_self)
       simp only [cellsF, and_true, Nat.zero_add, Nat.reduceAdd] at hN0
       have hN1 := cells_of _ 0 [] rfl (hL0.get _ _ (List.mem_cons_of_mem _ List.mem_cons_self))
       simp only [cellsF, and_true, Nat.zero_add, Nat.reduceAdd] at hN1
       go_wp2_with fail
       clear hN0 hN1
       with_reducible refine Calls.mono (HC2.out (.agg #[.bool (zs g.num), .slice ua3 (tln g.num.natAbs) ma3, .slice va3 (tln (fd g)) na3]) (.agg #[.bool (zs t.num), .slice g5 (tln t.num.natAbs) d5, .slice g6 (tln (fd t)) d6]) _ (rf_of (hS.get (List.mem_cons_of_mem _ (List.mem_cons_of_mem _ List.mem_cons_self))) (hS.get (List.mem_cons_of_mem _ (List.mem_cons_of_mem _ (List.mem_cons_of_mem _ List.mem_cons_self))))) (rf_of (hS.get (List.mem_cons_of_mem _ (List.mem_cons_of_mem _ (List.mem_cons_of_mem _ (List.mem_cons_of_mem _ (List.mem_cons_of_mem _ List.mem_cons_self)))))) (hS.get (List.mem_cons_of_mem _ (List.mem_cons_of_mem _ (List.mem_cons_of_mem _ (List.mem_cons_of_mem _ List.mem_cons_self))))))) ?_
       rintro e x7 ⟨rfl, hb⟩
       replace hL0 := hL0.call hb
       replace hS := hS.call hb
       clear hb
       have hN0 := cells_of _ 0 [] rfl (hL0.get _ _ (List.mem_cons_of_mem _ List.mem_cons_self))
       simp only [cellsF, and_true, Nat.zero_add, Nat.reduceAdd] at hN0
       have hN1 := cells_of _ 0 [] rfl (hL0.get _ _ (List.mem_cons_of_mem _ (List.mem_cons_of_mem _ List.mem_cons_self)))
       simp only [cellsF, and_true, Nat.zero_add, Nat.reduceAdd] at hN1
       go_wp2_with fail
       clear hN0 hN1
       with_reducible refine Calls.mono (HA2.out (.agg #[.bool (zs o.num), .slice ua2 (tln o.num.natAbs) ma2, .slice va2 (tln (fd o)) na2]) (.agg #[.bool (zs g.num), .slice ua3 (tln g.num.natAbs) ma3, .slice va3 (tln (fd g)) na3]) _ (rf_of (hS.get List.mem_cons_self) (hS.get (List.mem_cons_of_mem _ List.mem_cons_self))) (rf_of (hS.get (List.mem_cons_of_mem _ (List.mem_cons_of_mem _ List.mem_cons_self))) (hS.get (List.mem_cons_of_mem _ (List.mem_cons_of_mem _ (List.mem_cons_of_mem _ List.mem_cons_self)))))) ?_
       rintro e x8 ⟨v0, rfl, q0, hb⟩
       replace hL0 := hL0.call hb
       replace hS := hS.call hb
       clear hb
       obtain ⟨g7, d7, g8, d8, rfl⟩ := rf_form q0
       replace hS := hS.cons (rf_rn1 q0)
       replace hS := hS.cons (rf_rn2 q0)
       clear q0
       replace hS := (hS.new (.cells #[.bool (zs x.num), .slice g7 (tln x.num.natAbs) d7, .slice g8 (tln (fd x)) d8] 42))
       replace hL0 := (hL0.new rfl [.bool (zs x.num), .slice g7 (tln x.num.natAbs) d7, .slice g8 (tln (fd x)) d8] 42)
       generalize hweq : (x8.alloc (.cells #[.bool (zs x.num), .slice g7 (tln x.num.natAbs) d7, .slice g8 (tln (fd x)) d8] 42)) = x9 at hL0 hS
       go_upto_region 8 with fail
       clear hweq
       refine region_tl 5 [EV (.agg #[.bool (zs x.num), .slice g7 (tln x.num.natAbs) d7, .slice g8 (tln (fd x)) d8]), PF vv, EV (.agg #[.bool (zs a.num), .slice xa0 (tln a.num.natAbs) xc0, .slice xb0 (tln (fd a)) xd0]), EV (.int .i64 j), EV (.bool false)] (by kernel_rfl) (by kernel_rfl) ?_ ?_ ?_
       ·exact stays_cons (stays_eq _) (stays_cons (stays_rf _) (stays_cons (stays_eq _) (stays_cons (stays_eq _) (stays_cons (stays_eq _) (stays_nil)))))
       ·simp only [List.take_succ_cons, List.take_zero, hopsR, and_true]
        refine ⟨?_, ?_, ?_, ?_, ?_⟩ <;> intro fv w1 hb1 hp
        all_goals (simp only [putsV, Act.put, List.setIfInBounds_toArray, List.set_cons_succ, List.set_cons_zero, Nat.zero_add, Nat.reduceAdd])
        ·refine tyAt_none rfl ?_
         have hc := (hL0.call (below_drew hb1)).fc
         simp only [fcG, cellsF, neK, and_true, ne_eq, Nat.zero_add, Nat.reduceAdd] at hc
         simp [tyUpon, execOp, go_sem, Act.eval, hc, f3, f4, fj, Below.refl]
        ·have h0 : EV _ (fv 0) w1 := hp 0 (LC (by kernel_rfl))
         refine tyAt_none rfl ?_
         refine ty_call (f := 107) (args := #[.agg #[.bool (zs x.num), .slice g7 (tln x.num.natAbs) d7, .slice g8 (tln (fd x)) d8]]) (by simp [execOp, go_sem, Act.eval, h0]) ?_
         exact (HS2.out (.agg #[.bool (zs x.num), .slice g7 (tln x.num.natAbs) d7, .slice g8 (tln (fd x)) d8]) w1 (rf_of (Sl.below (hS.get (List.mem_cons_of_mem _ List.mem_cons_self)) (below_drew hb1)) (Sl.below (hS.get List.mem_cons_self) (below_drew hb1)))).mono fun e w2 ⟨pv, h1, h2, h3⟩ => ⟨pv, h1, h2, h3⟩
        ·refine tyAt_none rfl ?_
         have hc := (hL0.call (below_drew hb1)).fc
         simp only [fcG, cellsF, neK, and_true, ne_eq, Nat.zero_add, Nat.reduceAdd] at hc
         simp [tyUpon, execOp, go_sem, Act.eval, hc, f3, f4, fj, Below.refl]
        ·have h1 : PF _ (fv 1) w1 := hp 1 (LC (by kernel_rfl))
         have h2 : EV _ (fv 2) w1 := hp 2 (LC (by kernel_rfl))
         refine tyAt_none rfl ?_
         refine ty_call (f := 176) (args := #[fv 1, .agg #[.bool (zs a.num), .slice xa0 (tln a.num.natAbs) xc0, .slice xb0 (tln (fd a)) xd0]]) (by simp [execOp, go_sem, Act.eval, h2]) ?_
         exact (HC3.out (fv 1) (.agg #[.bool (zs a.num), .slice xa0 (tln a.num.natAbs) xc0, .slice xb0 (tln (fd a)) xd0]) w1 h1 (rf_of (Sl.below (Sl.below xf0.out hL0.bl) (below_drew hb1)) (Sl.below (Sl.below xk0.out hL0.bl) (below_drew hb1)))).mono fun e w2 ⟨h1, h2⟩ => ⟨_, h1, rfl, h2⟩
        ·have h3 : EV _ (fv 3) w1 := hp 3 (LC (by kernel_rfl))
         refine tyAt_none rfl ?_
         simp [tyUpon, execOp, go_sem, Act.eval, h3, f3, f4, fj, Below.refl]
       ·intro fv x10 hb1 hv
        have e0 : fv 0 = _ := hv 0 (by omega)
        have q1 : RF x10 (fv 1) vv := hv 1 (by omega)
        obtain ⟨g9, d9, g10, d10, e1⟩ := rf_form q1
        rw [e1] at q1
        have e2 : fv 2 = _ := hv 2 (by omega)
        have e3 : fv 3 = _ := hv 3 (by omega)
        have e4 : fv 4 = _ := hv 4 (by omega)
        simp only [List.take_succ_cons, List.take_zero, putsV, Act.put, List.setIfInBounds_toArray, List.set_cons_succ, List.set_cons_zero, List.drop_succ_cons, List.drop_zero, Nat.zero_add, Nat.reduceAdd, e0, e1, e2, e3, e4]
        replace hL0 := hL0.call (below_drew hb1)
        replace hS := hS.call (below_drew hb1)
        replace hS := hS.cons (rf_rn1 q1)
        replace hS := hS.cons (rf_rn2 q1)
        clear e0 e1 e2 e3 e4 hb1 hv q1 fv
        go_upto_region 10 with fail
        refine region_tl 3 [EV (.agg #[.bool (zs g.num), .slice ua3 (tln g.num.natAbs) ma3, .slice va3 (tln (fd g)) na3]), PF h, PF z] (by kernel_rfl) (by kernel_rfl) ?_ ?_ ?_
        ·exact stays_cons (stays_eq _) (stays_cons (stays_rf _) (stays_cons (stays_rf _) (stays_nil)))
        ·simp only [List.take_succ_cons, List.take_zero, hopsR, and_true]
         refine ⟨?_, ?_, ?_⟩ <;> intro fv w1 hb1 hp
         all_goals (simp only [putsV, Act.put, List.setIfInBounds_toArray, List.set_cons_succ, List.set_cons_zero, Nat.zero_add, Nat.reduceAdd])
         ·refine tyAt_none rfl ?_
          have hc := (hL0.call (below_drew hb1)).fc
          simp only [fcG, cellsF, neK, and_true, ne_eq, Nat.zero_add, Nat.reduceAdd] at hc
          simp [tyUpon, execOp, go_sem, Act.eval, hc, f3, f4, fj, Below.refl]
         ·refine tyAt_none rfl ?_
          refine ty_call (f := 70) (args := #[.int .i64 1, .int .i64 2]) (by simp [execOp, go_sem, Act.eval]) ?_
          exact (HO.out w1).mono fun e w2 ⟨pv, h1, h2, h3⟩ => ⟨pv, h1, h2, h3⟩
         ·have h0 : EV _ (fv 0) w1 := hp 0 (LC (by kernel_rfl))
          have h1 : PF _ (fv 1) w1 := hp 1 (LC (by kernel_rfl))
          refine tyAt_none rfl ?_
          refine ty_call (f := 177) (args := #[.agg #[.bool (zs g.num), .slice ua3 (tln g.num.natAbs) ma3, .slice va3 (tln (fd g)) na3], fv 1]) (by simp [execOp, go_sem, Act.eval, h0]) ?_
          exact (HM2.out (.agg #[.bool (zs g.num), .slice ua3 (tln g.num.natAbs) ma3, .slice va3 (tln (fd g)) na3]) (fv 1) w1 (rf_of (Sl.below (hS.get (List.mem_cons_of_mem _ (List.mem_cons_of_mem _ (List.mem_cons_of_mem _ (List.mem_cons_of_mem _ (List.mem_cons_of_mem _ (List.mem_cons_of_mem _ List.mem_cons_self))))))) (below_drew hb1)) (Sl.below (hS.get (List.mem_cons_of_mem _ (List.mem_cons_of_mem _ (List.mem_cons_of_mem _ (List.mem_cons_of_mem _ (List.mem_cons_of_mem _ (List.mem_cons_of_mem _ (List.mem_cons_of_mem _ List.mem_cons_self)))))))) (below_drew hb1))) h1).mono fun e w2 ⟨pv, h1, h2, h3⟩ => ⟨pv, h1, h2, h3⟩
        ·intro fv x11 hb1 hv
         have e0 : fv 0 = _ := hv 0 (by omega)
         have q1 : RF x11 (fv 1) h := hv 1 (by omega)
         obtain ⟨g11, d11, g12, d12, e1⟩ := rf_form q1
         rw [e1] at q1
         have q2 : RF x11 (fv 2) z := hv 2 (by omega)
         obtain ⟨g13, d13, g14, d14, e2⟩ := rf_form q2
         rw [e2] at q2
         simp only [List.take_succ_cons, List.take_zero, putsV, Act.put, List.setIfInBounds_toArray, List.set_cons_succ, List.set_cons_zero, List.drop_succ_cons, List.drop_zero, Nat.zero_add, Nat.reduceAdd, e0, e1, e2]
         replace hL0 := hL0.call (below_drew hb1)
         replace hS := hS.call (below_drew hb1)
         replace hS := hS.cons (rf_rn1 q1)
         replace hS := hS.cons (rf_rn2 q1)
         replace hS := hS.cons (rf_rn1 q2)
         replace hS := hS.cons (rf_rn2 q2)
         clear e0 e1 e2 hb1 hv q1 q2 fv
         have hS1 := hS.put ((((Upd.refl x2.heap.size x11).setCell 0 (.bool (zs z.num))).setCell 1 (.slice g13 (tln z.num.natAbs) d13)).setCell 2 (.slice g14 (tln (fd z)) d14)) (hL0.get _ _ (List.mem_cons_of_mem _ (List.mem_cons_of_mem _ List.mem_cons_self))) (by intro v hv n; simp only [List.mem_cons, List.not_mem_nil, or_false] at hv; rcases hv with rfl | rfl | rfl <;> simp)
         have hA := hL0.fc
         simp only [fcG, cellsF, neK, and_true, ne_eq, Nat.zero_add, Nat.reduceAdd] at hA
         have hP := hL0.put 2 (x2.heap.size) _ rfl [.bool (zs z.num), .slice g13 (tln z.num.natAbs) d13, .slice g14 (tln (fd z)) d14] rfl
         simp only [setAll, List.set_cons_zero, List.set_cons_succ] at hP
         generalize hput1 : (((x11.setCell ⟨x2.heap.size, 0, none⟩ (.bool (zs z.num))).setCell ⟨x2.heap.size, 1, none⟩ (.slice g13 (tln z.num.natAbs) d13)).setCell ⟨x2.heap.size, 2, none⟩ (.slice g14 (tln (fd z)) d14)) = x12 at hP hS1
         have hB1 := hP.fc
         simp only [fcG, cellsF, neK, and_true, ne_eq, Nat.zero_add, Nat.reduceAdd] at hB1
         replace hL0 := hP
         replace hS := hS1
         clear hS1
         go_wp2_with fail
         go_roundg kn
         case measure => exact hkn.out
         case rel => exact ⟨_, _, _, _, _, _, _, _, _, _, hPn.out, hL0.weak (List.Sublist.cons _ (List.Sublist.refl _)), (((((show SS x12 [(.slice g6 (tln (fd t)) d6, (fd t)), (.slice g5 (tln t.num.natAbs) d5, t.num.natAbs), (.slice g4 (tln (fd y)) d4, (fd y)), (.slice g3 (tln y.num.natAbs) d3, y.num.natAbs), (.slice ua1 (tln d.num.natAbs) ma1, d.num.natAbs), (.slice va1 (tln (fd d)) na1, (fd d)), (.slice g2 (tln (fd q0)) d2, (fd q0)), (.slice g1 (tln q0.num.natAbs) d1, q0.num.natAbs)] from fun p hp => hS p (List.mem_cons_of_mem _ (List.mem_cons_of_mem _ (List.mem_cons_of_mem _ (List.mem_cons_of_mem _ (List.mem_cons_of_mem _ (List.mem_cons_of_mem _ (List.mem_cons_of_mem _ (List.mem_cons_of_mem _ (List.mem_cons_of_mem _ (List.mem_cons_of_mem _ (List.mem_cons_of_mem _ (List.mem_cons_of_mem _ hp)))))))))))))).cons (hS.get List.mem_cons_self)).cons (hS.get (List.mem_cons_of_mem _ List.mem_cons_self))).cons (hS.get (List.mem_cons_of_mem _ (List.mem_cons_of_mem _ (List.mem_cons_of_mem _ (List.mem_cons_of_mem _ (List.mem_cons_of_mem _ (List.mem_cons_of_mem _ (List.mem_cons_of_mem _ (List.mem_cons_of_mem _ (List.mem_cons_of_mem _ List.mem_cons_self))))))))))).cons (hS.get (List.mem_cons_of_mem _ (List.mem_cons_of_mem _ (List.mem_cons_of_mem _ (List.mem_cons_of_mem _ (List.mem_cons_of_mem _ (List.mem_cons_of_mem _ (List.mem_cons_of_mem _ (List.mem_cons_of_mem _ List.mem_cons_self)))))))))⟩
     ·have f1 : decide (0 ≤ i) = false := decide_eq_false hi
      have f2 : decide (i < 0) = true := decide_eq_true (by omega)
      have ho := (h5.out gk o g i hP ei (by omega)).symm
      clear hP hP2 hi
      subst ho
      replace ei := Lib.hid ei
      have hN0 := cells_of _ 0 [] rfl (hL0.get _ _ List.mem_cons_self)
      simp only [cellsF, and_true, Nat.zero_add, Nat.reduceAdd] at hN0
      have hN1 := cells_of _ 0 [] rfl (hL0.get _ _ (List.mem_cons_of_mem _ List.mem_cons_self))
      simp only [cellsF, and_true, Nat.zero_add, Nat.reduceAdd] at hN1
      go_wp2_with fail
      clear hN0 hN1
      with_reducible refine Calls.mono (HC2.out (.agg #[.bool (zs g.num), .slice ua3 (tln g.num.natAbs) ma3, .slice va3 (tln (fd g)) na3]) (.agg #[.bool (zs t.num), .slice g5 (tln t.num.natAbs) d5, .slice g6 (tln (fd t)) d6]) _ (rf_of (hS.get (List.mem_cons_of_mem _ (List.mem_cons_of_mem _ List.mem_cons_self))) (hS.get (List.mem_cons_of_mem _ (List.mem_cons_of_mem _ (List.mem_cons_of_mem _ List.mem_cons_self))))) (rf_of (hS.get (List.mem_cons_of_mem _ (List.mem_cons_of_mem _ (List.mem_cons_of_mem _ (List.mem_cons_of_mem _ (List.mem_cons_of_mem _ List.mem_cons_self)))))) (hS.get (List.mem_cons_of_mem _ (List.mem_cons_of_mem _ (List.mem_cons_of_mem _ (List.mem_cons_of_mem _ List.mem_cons_self))))))) ?_
      rintro e x7 ⟨rfl, hb⟩
      replace hL0 := hL0.call hb
      replace hS := hS.call hb
      clear hb
      have hS1 := hS.put ((((Upd.refl (w.heap.size + 1) x7).setCell 0 (.bool (zs r9.num))).setCell 1 (.slice ua2 (tln r9.num.natAbs) ma2)).setCell 2 (.slice va2 (tln (fd r9)) na2)) (hL0.get _ _ (List.mem_cons_of_mem _ (List.mem_cons_of_mem _ (List.mem_cons_of_mem _ List.mem_cons_self)))) (by intro v hv n; simp only [List.mem_cons, List.not_mem_nil, or_false] at hv; rcases hv with rfl | rfl | rfl <;> simp)
      have hA := hL0.fc
      simp only [fcG, cellsF, neK, and_true, ne_eq, Nat.zero_add, Nat.reduceAdd] at hA
      have hP := hL0.put 3 (w.heap.size + 1) _ rfl [.bool (zs r9.num), .slice ua2 (tln r9.num.natAbs) ma2, .slice va2 (tln (fd r9)) na2] rfl
      simp only [setAll, List.set_cons_zero, List.set_cons_succ] at hP
      generalize hput1 : (((x7.setCell ⟨w.heap.size + 1, 0, none⟩ (.bool (zs r9.num))).setCell ⟨w.heap.size + 1, 1, none⟩ (.slice ua2 (tln r9.num.natAbs) ma2)).setCell ⟨w.heap.size + 1, 2, none⟩ (.slice va2 (tln (fd r9)) na2)) = x8 at hP hS1
      have hB1 := hP.fc
      simp only [fcG, cellsF, neK, and_true, ne_eq, Nat.zero_add, Nat.reduceAdd] at hB1
      replace hL0 := hP
      replace hS := hS1
      clear hS1
      go_wp2_with fail
      exact bodyPost_ret (v := .agg #[.bool (zs r9.num), .slice ua2 (tln r9.num.natAbs) ma2, .slice va2 (tln (fd r9)) na2]) (by simp [results, Tryz.results105, go_sem, hB1]) rfl ⟨_, rfl, (rf_of (hS.get List.mem_cons_self) (hS.get (List.mem_cons_of_mem _ List.mem_cons_self))), hL0.bl⟩
end Go.Proofs.YtdkjckiialnpnaaGreatDoor
namespace Go.Proofs.YtdkjckiialnpnaaGreatDoor
open Go.RowKit Go.Proofs.YtdkjckiialnpnaaGreatDoor.Rx
attribute [local irreducible] lo hs sm s64 c64 d64 b64 mh ml pd pc qd qc val hiB str cmpI srD lz nb isq zl zh zs dval tln fd fe
set_option maxHeartbeats 4000000 in
set_option maxRecDepth 100000 in
theorem rmay_neg (n : Int) (q : Rat) (g1 : decide (n < 0) = true) (p0 : Value) (w : World) (r0 : RF w p0 q) :
  Calls Tryz.prog 104 #[p0, .int .i64 n] w fun e w' => e = .returned (.int .i64 1) ∧ Below w.heap.size w w' := by
 obtain ⟨xa0, xc0, xb0, xd0, rfl⟩ := rf_form r0
 have xf0 := Lib.hid (rf_rn1 r0)
 have xk0 := Lib.hid (rf_rn2 r0)
 clear r0
 have hL0 : GL w w [] := GL.start w
 have hS : SS w [] := SS.nil w
 replace hS := (hS.new (.cells #[.bool (zs q.num), .slice xa0 (tln q.num.natAbs) xc0, .slice xb0 (tln (fd q)) xd0] 42))
 replace hL0 := (hL0.new rfl [.bool (zs q.num), .slice xa0 (tln q.num.natAbs) xc0, .slice xb0 (tln (fd q)) xd0] 42)
 generalize hweq : (w.alloc (.cells #[.bool (zs q.num), .slice xa0 (tln q.num.natAbs) xc0, .slice xb0 (tln (fd q)) xd0] 42)) = x1 at hL0 hS
 go_enter Tryz.func104, Tryz.ntmps104
 go_wp2_with fail
 exact bodyPost_ret (v := .int .i64 1) (by simp [results, Tryz.results104, go_sem]) rfl ⟨rfl, hL0.bl⟩
set_option maxHeartbeats 4000000 in
set_option maxRecDepth 100000 in
theorem rmay_big (n : Int) (q : Rat) (g1 : decide (n < 0) = false) (g2 : decide (100 < n) = true) (p0 : Value) (w : World) (r0 : RF w p0 q) :
  Calls Tryz.prog 104 #[p0, .int .i64 n] w fun e w' => e = .returned (.int .i64 3) ∧ Below w.heap.size w w' := by
 obtain ⟨xa0, xc0, xb0, xd0, rfl⟩ := rf_form r0
 have xf0 := Lib.hid (rf_rn1 r0)
 have xk0 := Lib.hid (rf_rn2 r0)
 clear r0
 have hL0 : GL w w [] := GL.start w
 have hS : SS w [] := SS.nil w
 replace hS := (hS.new (.cells #[.bool (zs q.num), .slice xa0 (tln q.num.natAbs) xc0, .slice xb0 (tln (fd q)) xd0] 42))
 replace hL0 := (hL0.new rfl [.bool (zs q.num), .slice xa0 (tln q.num.natAbs) xc0, .slice xb0 (tln (fd q)) xd0] 42)
 generalize hweq : (w.alloc (.cells #[.bool (zs q.num), .slice xa0 (tln q.num.natAbs) xc0, .slice xb0 (tln (fd q)) xd0] 42)) = x1 at hL0 hS
 go_enter Tryz.func104, Tryz.ntmps104
 go_wp2_with fail
 exact bodyPost_ret (v := .int .i64 3) (by simp [results, Tryz.results104, go_sem]) rfl ⟨rfl, hL0.bl⟩
set_option maxHeartbeats 4000000 in
set_option maxRecDepth 100000 in
theorem rmay_sgn (n c : Int) (q : Rat) (HS : ∀ (p0 : Value) (w : World), RF w p0 q → Calls Tryz.prog 175 #[p0] w fun e w' => e = .returned (.int .i64 c) ∧ Below w.heap.size w w') (g1 : decide (n < 0) = false) (g2 : decide (100 < n) = false) (g3 : decide (c < 0) = true) (p0 : Value) (w : World) (r0 : RF w p0 q) :
  Calls Tryz.prog 104 #[p0, .int .i64 n] w fun e w' => e = .returned (.int .i64 1) ∧ Below w.heap.size w w' := by
 obtain ⟨xa0, xc0, xb0, xd0, rfl⟩ := rf_form r0
 have xf0 := Lib.hid (rf_rn1 r0)
 have xk0 := Lib.hid (rf_rn2 r0)
 clear r0
 replace HS := Lib.hid HS
 have hL0 : GL w w [] := GL.start w
 have hS : SS w [] := SS.nil w
 replace hS := (hS.new (.cells #[.bool (zs q.num), .slice xa0 (tln q.num.natAbs) xc0, .slice xb0 (tln (fd q)) xd0] 42))
 replace hL0 := (hL0.new rfl [.bool (zs q.num), .slice xa0 (tln q.num.natAbs) xc0, .slice xb0 (tln (fd q)) xd0] 42)
 generalize hweq : (w.alloc (.cells #[.bool (zs q.num), .slice xa0 (tln q.num.natAbs) xc0, .slice xb0 (tln (fd q)) xd0] 42)) = x1 at hL0 hS
 go_enter Tryz.func104, Tryz.ntmps104
 have hN0 := cells_of _ 0 [] rfl (hL0.get _ _ List.mem_cons_self)
 simp only [cellsF, and_true, Nat.zero_add, Nat.reduceAdd] at hN0
 go_wp2_with fail
 clear hN0
 with_reducible refine Calls.mono (HS.out (.agg #[.bool (zs q.num), .slice xa0 (tln q.num.natAbs) xc0, .slice xb0 (tln (fd q)) xd0]) _ (rf_of (Sl.below xf0.out hL0.bl) (Sl.below xk0.out hL0.bl))) ?_
 rintro e x2 ⟨rfl, hb⟩
 replace hL0 := hL0.call hb
 replace hS := hS.call hb
 clear hb hweq
 go_wp2_with fail
 exact bodyPost_ret (v := .int .i64 1) (by simp [results, Tryz.results104, go_sem]) rfl ⟨rfl, hL0.bl⟩
set_option maxHeartbeats 4000000 in
set_option maxRecDepth 100000 in
theorem rmay_ok (n c : Int) (q : Rat) (HS : ∀ (p0 : Value) (w : World), RF w p0 q → Calls Tryz.prog 175 #[p0] w fun e w' => e = .returned (.int .i64 c) ∧ Below w.heap.size w w') (g1 : decide (n < 0) = false) (g2 : decide (100 < n) = false) (g3 : decide (c < 0) = false) (p0 : Value) (w : World) (r0 : RF w p0 q) :
  Calls Tryz.prog 104 #[p0, .int .i64 n] w fun e w' => e = .returned (.int .i64 0) ∧ Below w.heap.size w w' := by
 obtain ⟨xa0, xc0, xb0, xd0, rfl⟩ := rf_form r0
 have xf0 := Lib.hid (rf_rn1 r0)
 have xk0 := Lib.hid (rf_rn2 r0)
 clear r0
 replace HS := Lib.hid HS
 have hL0 : GL w w [] := GL.start w
 have hS : SS w [] := SS.nil w
 replace hS := (hS.new (.cells #[.bool (zs q.num), .slice xa0 (tln q.num.natAbs) xc0, .slice xb0 (tln (fd q)) xd0] 42))
 replace hL0 := (hL0.new rfl [.bool (zs q.num), .slice xa0 (tln q.num.natAbs) xc0, .slice xb0 (tln (fd q)) xd0] 42)
 generalize hweq : (w.alloc (.cells #[.bool (zs q.num), .slice xa0 (tln q.num.natAbs) xc0, .slice xb0 (tln (fd q)) xd0] 42)) = x1 at hL0 hS
 go_enter Tryz.func104, Tryz.ntmps104
 have hN0 := cells_of _ 0 [] rfl (hL0.get _ _ List.mem_cons_self)
 simp only [cellsF, and_true, Nat.zero_add, Nat.reduceAdd] at hN0
 go_wp2_with fail
 clear hN0
 with_reducible refine Calls.mono (HS.out (.agg #[.bool (zs q.num), .slice xa0 (tln q.num.natAbs) xc0, .slice xb0 (tln (fd q)) xd0]) _ (rf_of (Sl.below xf0.out hL0.bl) (Sl.below xk0.out hL0.bl))) ?_
 rintro e x2 ⟨rfl, hb⟩
 replace hL0 := hL0.call hb
 replace hS := hS.call hb
 clear hb hweq
 go_wp2_with fail
 exact bodyPost_ret (v := .int .i64 0) (by simp [results, Tryz.results104, go_sem]) rfl ⟨rfl, hL0.bl⟩
set_option maxHeartbeats 4000000 in
set_option maxRecDepth 100000 in
theorem rboth_err (n k : Int) (q : Rat) (HM : ∀ (p0 : Value) (w : World), RF w p0 q → Calls Tryz.prog 104 #[p0, .int .i64 n] w fun e w' => e = .returned (.int .i64 k) ∧ Below w.heap.size w w') (g1 : (k != 0) = true) (p0 : Value) (w : World) (r0 : RF w p0 q) :
  Calls Tryz.prog 38 #[p0, .int .i64 n] w fun e w' => ∃ v0 v1, e = .returned (.tuple #[v0, v1, .int .i64 k]) ∧ RF w' v0 0 ∧ RF w' v1 0 ∧ Below w.heap.size w w' := by
 obtain ⟨xa0, xc0, xb0, xd0, rfl⟩ := rf_form r0
 have xf0 := Lib.hid (rf_rn1 r0)
 have xk0 := Lib.hid (rf_rn2 r0)
 clear r0
 replace HM := Lib.hid HM
 have hL0 : GL w w [] := GL.start w
 have hS : SS w [] := SS.nil w
 replace hS := ((((hS.new (.cells #[.bool (zs q.num), .slice xa0 (tln q.num.natAbs) xc0, .slice xb0 (tln (fd q)) xd0] 42)).new (.cells #[.bool false, .slice none 0 0, .slice none 0 0] 42)).new (.cells #[.bool false, .slice none 0 0, .slice none 0 0] 42)).new (.cells #[.bool false, .slice none 0 0, .slice none 0 0] 42))
 replace hL0 := ((((hL0.new rfl [.bool (zs q.num), .slice xa0 (tln q.num.natAbs) xc0, .slice xb0 (tln (fd q)) xd0] 42).new (K := w.heap.size + 1) (szA _ _) [.bool false, .slice none 0 0, .slice none 0 0] 42).new (K := w.heap.size + 1 + 1) (by simp only [World.size_alloc]) [.bool false, .slice none 0 0, .slice none 0 0] 42).new (K := w.heap.size + 1 + 1 + 1) (by simp only [World.size_alloc]) [.bool false, .slice none 0 0, .slice none 0 0] 42)
 generalize hweq : ((((w.alloc (.cells #[.bool (zs q.num), .slice xa0 (tln q.num.natAbs) xc0, .slice xb0 (tln (fd q)) xd0] 42)).alloc (.cells #[.bool false, .slice none 0 0, .slice none 0 0] 42)).alloc (.cells #[.bool false, .slice none 0 0, .slice none 0 0] 42)).alloc (.cells #[.bool false, .slice none 0 0, .slice none 0 0] 42)) = x1 at hL0 hS
 go_enter Tryz.func38, Tryz.ntmps38
 have hN0 := cells_of _ 0 [] rfl (hL0.get _ _ (List.mem_cons_of_mem _ (List.mem_cons_of_mem _ (List.mem_cons_of_mem _ List.mem_cons_self))))
 simp only [cellsF, and_true, Nat.zero_add, Nat.reduceAdd] at hN0
 go_wp2_with fail
 clear hN0
 with_reducible refine Calls.mono (HM.out (.agg #[.bool (zs q.num), .slice xa0 (tln q.num.natAbs) xc0, .slice xb0 (tln (fd q)) xd0]) _ (rf_of (Sl.below xf0.out hL0.bl) (Sl.below xk0.out hL0.bl))) ?_
 rintro e x2 ⟨rfl, hb⟩
 replace hL0 := hL0.call hb
 replace hS := hS.call hb
 clear hb hweq
 have hA := hL0.fc
 simp only [fcG, cellsF, neK, and_true, ne_eq, Nat.zero_add, Nat.reduceAdd] at hA
 go_upto_region 4 with fail
 obtain ⟨⟨c0, c1, c2⟩, cf0, cn0, ⟨c3, c4, c5⟩, cf1, cn1, ⟨c6, c7, c8⟩, cf2, cn2, ⟨c9, c10, c11⟩, cf3⟩ := id hA
 clear hA
 go_region
 have hS1 : SS ((((((x2.setCell ⟨w.heap.size + 1, 0, none⟩ (.bool false)).setCell ⟨w.heap.size + 1, 1, none⟩ (.slice none 0 0)).setCell ⟨w.heap.size + 1, 2, none⟩ (.slice none 0 0)).setCell ⟨w.heap.size + 1 + 1, 0, none⟩ (.bool false)).setCell ⟨w.heap.size + 1 + 1, 1, none⟩ (.slice none 0 0)).setCell ⟨w.heap.size + 1 + 1, 2, none⟩ (.slice none 0 0)).drew [] := SS.drew ((hS.put ((((Upd.refl (w.heap.size + 1) _).setCell 0 (.bool false)).setCell 1 (.slice none 0 0)).setCell 2 (.slice none 0 0)) (hL0.get _ _ (List.mem_cons_of_mem _ (List.mem_cons_of_mem _ List.mem_cons_self))) (by intro v hv n; simp only [List.mem_cons, List.not_mem_nil, or_false] at hv; rcases hv with rfl | rfl | rfl <;> simp)).put ((((Upd.refl (w.heap.size + 1 + 1) _).setCell 0 (.bool false)).setCell 1 (.slice none 0 0)).setCell 2 (.slice none 0 0)) ((hL0.put 2 (w.heap.size + 1) _ rfl [.bool false, .slice none 0 0, .slice none 0 0] rfl).get _ _ (List.mem_cons_of_mem _ List.mem_cons_self)) (by intro v hv n; simp only [List.mem_cons, List.not_mem_nil, or_false] at hv; rcases hv with rfl | rfl | rfl <;> simp))
 have hP := ((hL0.put 2 (w.heap.size + 1) _ rfl [.bool false, .slice none 0 0, .slice none 0 0] rfl).put 1 (w.heap.size + 1 + 1) _ rfl [.bool false, .slice none 0 0, .slice none 0 0] rfl).drew
 simp only [setAll, List.set_cons_zero, List.set_cons_succ] at hP
 generalize ((((((x2.setCell ⟨w.heap.size + 1, 0, none⟩ (.bool false)).setCell ⟨w.heap.size + 1, 1, none⟩ (.slice none 0 0)).setCell ⟨w.heap.size + 1, 2, none⟩ (.slice none 0 0)).setCell ⟨w.heap.size + 1 + 1, 0, none⟩ (.bool false)).setCell ⟨w.heap.size + 1 + 1, 1, none⟩ (.slice none 0 0)).setCell ⟨w.heap.size + 1 + 1, 2, none⟩ (.slice none 0 0)).drew = x3 at hP hS1 ⊢
 clear hL0
 have hL0 := hP
 clear hP
 clear c0 c1 c2 cf0 cn0 c3 c4 c5 cf1 cn1 c6 c7 c8 cf2 cn2 c9 c10 c11 cf3
 replace hS := hS1
 clear hS1
 have hN0 := cells_of _ 0 [] rfl (hL0.get _ _ (List.mem_cons_of_mem _ List.mem_cons_self))
 simp only [cellsF, and_true, Nat.zero_add, Nat.reduceAdd] at hN0
 have hN1 := cells_of _ 0 [] rfl (hL0.get _ _ (List.mem_cons_of_mem _ (List.mem_cons_of_mem _ List.mem_cons_self)))
 simp only [cellsF, and_true, Nat.zero_add, Nat.reduceAdd] at hN1
 go_wp2_with fail
 exact bodyPost_ret (v := .tuple #[.agg #[.bool false, .slice none 0 0, .slice none 0 0], .agg #[.bool false, .slice none 0 0, .slice none 0 0], .int .i64 k]) (by simp [results, Tryz.results38, go_sem, hN0 ,hN1]) rfl ⟨_, _, rfl, (rf_nil _), (rf_nil _), hL0.bl⟩
set_option maxHeartbeats 4000000 in
set_option maxRecDepth 100000 in
theorem rboth_same (n : Int) (q lo1 s : Rat) (HM : ∀ (p0 : Value) (w : World), RF w p0 q → Calls Tryz.prog 104 #[p0, .int .i64 n] w fun e w' => e = .returned (.int .i64 0) ∧ Below w.heap.size w w') (HB : ∀ (p0 : Value) (w : World), RF w p0 q → Calls Tryz.prog 105 #[p0, .int .i64 n] w fun e w' => ∃ pv, e = .returned pv ∧ RF w' pv lo1 ∧ Below w.heap.size w w') (HQ : ∀ (p0 : Value) (w : World), RF w p0 lo1 → Calls Tryz.prog 107 #[p0] w fun e w' => ∃ pv, e = .returned pv ∧ RF w' pv s ∧ Below w.heap.size w w') (HE : ∀ (p0 p1 : Value) (w : World), RF w p0 s → RF w p1 q → Calls Tryz.prog 106 #[p0, p1] w fun e w' => e = .returned (.bool true) ∧ Below w.heap.size w w') (p0 : Value) (w : World) (r0 : RF w p0 q) :
  Calls Tryz.prog 38 #[p0, .int .i64 n] w fun e w' => ∃ v0 v1, e = .returned (.tuple #[v0, v1, .int .i64 0]) ∧ RF w' v0 lo1 ∧ RF w' v1 lo1 ∧ Below w.heap.size w w' := by
 obtain ⟨xa0, xc0, xb0, xd0, rfl⟩ := rf_form r0
 have xf0 := Lib.hid (rf_rn1 r0)
 have xk0 := Lib.hid (rf_rn2 r0)
 clear r0
 replace HM := Lib.hid HM
 replace HB := Lib.hid HB
 replace HQ := Lib.hid HQ
 replace HE := Lib.hid HE
 have hL0 : GL w w [] := GL.start w
 have hS : SS w [] := SS.nil w
 replace hS := ((((hS.new (.cells #[.bool (zs q.num), .slice xa0 (tln q.num.natAbs) xc0, .slice xb0 (tln (fd q)) xd0] 42)).new (.cells #[.bool false, .slice none 0 0, .slice none 0 0] 42)).new (.cells #[.bool false, .slice none 0 0, .slice none 0 0] 42)).new (.cells #[.bool false, .slice none 0 0, .slice none 0 0] 42))
 replace hL0 := ((((hL0.new rfl [.bool (zs q.num), .slice xa0 (tln q.num.natAbs) xc0, .slice xb0 (tln (fd q)) xd0] 42).new (K := w.heap.size + 1) (szA _ _) [.bool false, .slice none 0 0, .slice none 0 0] 42).new (K := w.heap.size + 1 + 1) (by simp only [World.size_alloc]) [.bool false, .slice none 0 0, .slice none 0 0] 42).new (K := w.heap.size + 1 + 1 + 1) (by simp only [World.size_alloc]) [.bool false, .slice none 0 0, .slice none 0 0] 42)
 generalize hweq : ((((w.alloc (.cells #[.bool (zs q.num), .slice xa0 (tln q.num.natAbs) xc0, .slice xb0 (tln (fd q)) xd0] 42)).alloc (.cells #[.bool false, .slice none 0 0, .slice none 0 0] 42)).alloc (.cells #[.bool false, .slice none 0 0, .slice none 0 0] 42)).alloc (.cells #[.bool false, .slice none 0 0, .slice none 0 0] 42)) = x1 at hL0 hS
 go_enter Tryz.func38, Tryz.ntmps38
 have hN0 := cells_of _ 0 [] rfl (hL0.get _ _ (List.mem_cons_of_mem _ (List.mem_cons_of_mem _ (List.mem_cons_of_mem _ List.mem_cons_self))))
 simp only [cellsF, and_true, Nat.zero_add, Nat.reduceAdd] at hN0
 go_wp2_with fail
 clear hN0
 with_reducible refine Calls.mono (HM.out (.agg #[.bool (zs q.num), .slice xa0 (tln q.num.natAbs) xc0, .slice xb0 (tln (fd q)) xd0]) _ (rf_of (Sl.below xf0.out hL0.bl) (Sl.below xk0.out hL0.bl))) ?_
 rintro e x2 ⟨rfl, hb⟩
 replace hL0 := hL0.call hb
 replace hS := hS.call hb
 clear hb hweq
 have hN0 := cells_of _ 0 [] rfl (hL0.get _ _ (List.mem_cons_of_mem _ (List.mem_cons_of_mem _ (List.mem_cons_of_mem _ List.mem_cons_self))))
 simp only [cellsF, and_true, Nat.zero_add, Nat.reduceAdd] at hN0
 go_wp2_with fail
 clear hN0
 with_reducible refine Calls.mono (HB.out (.agg #[.bool (zs q.num), .slice xa0 (tln q.num.natAbs) xc0, .slice xb0 (tln (fd q)) xd0]) _ (rf_of (Sl.below xf0.out hL0.bl) (Sl.below xk0.out hL0.bl))) ?_
 rintro e x3 ⟨v0, rfl, q0, hb⟩
 replace hL0 := hL0.call hb
 replace hS := hS.call hb
 clear hb
 obtain ⟨g1, d1, g2, d2, rfl⟩ := rf_form q0
 replace hS := hS.cons (rf_rn1 q0)
 replace hS := hS.cons (rf_rn2 q0)
 clear q0
 replace hS := (hS.new (.cells #[.bool (zs lo1.num), .slice g1 (tln lo1.num.natAbs) d1, .slice g2 (tln (fd lo1)) d2] 42))
 replace hL0 := (hL0.new rfl [.bool (zs lo1.num), .slice g1 (tln lo1.num.natAbs) d1, .slice g2 (tln (fd lo1)) d2] 42)
 generalize hweq : (x3.alloc (.cells #[.bool (zs lo1.num), .slice g1 (tln lo1.num.natAbs) d1, .slice g2 (tln (fd lo1)) d2] 42)) = x4 at hL0 hS
 go_upto_region 6 with fail
 clear hweq
 refine region_tl 4 [EV (.agg #[.bool (zs lo1.num), .slice g1 (tln lo1.num.natAbs) d1, .slice g2 (tln (fd lo1)) d2]), PF s, EV (.agg #[.bool (zs q.num), .slice xa0 (tln q.num.natAbs) xc0, .slice xb0 (tln (fd q)) xd0]), EV (.bool true)] (by kernel_rfl) (by kernel_rfl) ?_ ?_ ?_
 ·exact stays_cons (stays_eq _) (stays_cons (stays_rf _) (stays_cons (stays_eq _) (stays_cons (stays_eq _) (stays_nil))))
 ·simp only [List.take_succ_cons, List.take_zero, hopsR, and_true]
  refine ⟨?_, ?_, ?_, ?_⟩ <;> intro fv w1 hb1 hp
  all_goals (simp only [putsV, Act.put, List.setIfInBounds_toArray, List.set_cons_succ, List.set_cons_zero, Nat.zero_add, Nat.reduceAdd])
  ·refine tyAt_none rfl ?_
   have hc := (hL0.call (below_drew hb1)).fc
   simp only [fcG, cellsF, neK, and_true, ne_eq, Nat.zero_add, Nat.reduceAdd] at hc
   simp [tyUpon, execOp, go_sem, Act.eval, hc, Below.refl]
  ·have h0 : EV _ (fv 0) w1 := hp 0 (LC (by kernel_rfl))
   refine tyAt_none rfl ?_
   refine ty_call (f := 107) (args := #[.agg #[.bool (zs lo1.num), .slice g1 (tln lo1.num.natAbs) d1, .slice g2 (tln (fd lo1)) d2]]) (by simp [execOp, go_sem, Act.eval, h0]) ?_
   exact (HQ.out (.agg #[.bool (zs lo1.num), .slice g1 (tln lo1.num.natAbs) d1, .slice g2 (tln (fd lo1)) d2]) w1 (rf_of (Sl.below (hS.get (List.mem_cons_of_mem _ List.mem_cons_self)) (below_drew hb1)) (Sl.below (hS.get List.mem_cons_self) (below_drew hb1)))).mono fun e w2 ⟨pv, h1, h2, h3⟩ => ⟨pv, h1, h2, h3⟩
  ·refine tyAt_none rfl ?_
   have hc := (hL0.call (below_drew hb1)).fc
   simp only [fcG, cellsF, neK, and_true, ne_eq, Nat.zero_add, Nat.reduceAdd] at hc
   simp [tyUpon, execOp, go_sem, Act.eval, hc, Below.refl]
  ·have h1 : PF _ (fv 1) w1 := hp 1 (LC (by kernel_rfl))
   have h2 : EV _ (fv 2) w1 := hp 2 (LC (by kernel_rfl))
   refine tyAt_none rfl ?_
   refine ty_call (f := 106) (args := #[fv 1, .agg #[.bool (zs q.num), .slice xa0 (tln q.num.natAbs) xc0, .slice xb0 (tln (fd q)) xd0]]) (by simp [execOp, go_sem, Act.eval, h2]) ?_
   exact (HE.out (fv 1) (.agg #[.bool (zs q.num), .slice xa0 (tln q.num.natAbs) xc0, .slice xb0 (tln (fd q)) xd0]) w1 h1 (rf_of (Sl.below (Sl.below xf0.out hL0.bl) (below_drew hb1)) (Sl.below (Sl.below xk0.out hL0.bl) (below_drew hb1)))).mono fun e w2 ⟨h1, h2⟩ => ⟨_, h1, rfl, h2⟩
 ·intro fv x5 hb1 hv
  have e0 : fv 0 = _ := hv 0 (by omega)
  have q1 : RF x5 (fv 1) s := hv 1 (by omega)
  obtain ⟨g3, d3, g4, d4, e1⟩ := rf_form q1
  rw [e1] at q1
  have e2 : fv 2 = _ := hv 2 (by omega)
  have e3 : fv 3 = _ := hv 3 (by omega)
  simp only [List.take_succ_cons, List.take_zero, putsV, Act.put, List.setIfInBounds_toArray, List.set_cons_succ, List.set_cons_zero, List.drop_succ_cons, List.drop_zero, Nat.zero_add, Nat.reduceAdd, e0, e1, e2, e3]
  replace hL0 := hL0.call (below_drew hb1)
  replace hS := hS.call (below_drew hb1)
  replace hS := hS.cons (rf_rn1 q1)
  replace hS := hS.cons (rf_rn2 q1)
  clear e0 e1 e2 e3 hb1 hv q1 fv
  have hA := hL0.fc
  simp only [fcG, cellsF, neK, and_true, ne_eq, Nat.zero_add, Nat.reduceAdd] at hA
  go_upto_region 7 with fail
  obtain ⟨⟨c0, c1, c2⟩, cf0, cn0, ⟨c3, c4, c5⟩, cf1, cn1, ⟨c6, c7, c8⟩, cf2, cn2, ⟨c9, c10, c11⟩, cf3, cn3, ⟨c12, c13, c14⟩, cf4⟩ := id hA
  clear hA
  go_region
  have hS1 : SS ((((((x5.setCell ⟨w.heap.size + 1, 0, none⟩ (.bool (zs lo1.num))).setCell ⟨w.heap.size + 1, 1, none⟩ (.slice g1 (tln lo1.num.natAbs) d1)).setCell ⟨w.heap.size + 1, 2, none⟩ (.slice g2 (tln (fd lo1)) d2)).setCell ⟨w.heap.size + 1 + 1, 0, none⟩ (.bool (zs lo1.num))).setCell ⟨w.heap.size + 1 + 1, 1, none⟩ (.slice g1 (tln lo1.num.natAbs) d1)).setCell ⟨w.heap.size + 1 + 1, 2, none⟩ (.slice g2 (tln (fd lo1)) d2)).drew [(.slice g4 (tln (fd s)) d4, (fd s)), (.slice g3 (tln s.num.natAbs) d3, s.num.natAbs), (.slice g2 (tln (fd lo1)) d2, (fd lo1)), (.slice g1 (tln lo1.num.natAbs) d1, lo1.num.natAbs)] := SS.drew ((hS.put ((((Upd.refl (w.heap.size + 1) _).setCell 0 (.bool (zs lo1.num))).setCell 1 (.slice g1 (tln lo1.num.natAbs) d1)).setCell 2 (.slice g2 (tln (fd lo1)) d2)) (hL0.get _ _ (List.mem_cons_of_mem _ (List.mem_cons_of_mem _ (List.mem_cons_of_mem _ List.mem_cons_self)))) (by intro v hv n; simp only [List.mem_cons, List.not_mem_nil, or_false] at hv; rcases hv with rfl | rfl | rfl <;> simp)).put ((((Upd.refl (w.heap.size + 1 + 1) _).setCell 0 (.bool (zs lo1.num))).setCell 1 (.slice g1 (tln lo1.num.natAbs) d1)).setCell 2 (.slice g2 (tln (fd lo1)) d2)) ((hL0.put 3 (w.heap.size + 1) _ rfl [.bool (zs lo1.num), .slice g1 (tln lo1.num.natAbs) d1, .slice g2 (tln (fd lo1)) d2] rfl).get _ _ (List.mem_cons_of_mem _ (List.mem_cons_of_mem _ List.mem_cons_self))) (by intro v hv n; simp only [List.mem_cons, List.not_mem_nil, or_false] at hv; rcases hv with rfl | rfl | rfl <;> simp))
  have hP := ((hL0.put 3 (w.heap.size + 1) _ rfl [.bool (zs lo1.num), .slice g1 (tln lo1.num.natAbs) d1, .slice g2 (tln (fd lo1)) d2] rfl).put 2 (w.heap.size + 1 + 1) _ rfl [.bool (zs lo1.num), .slice g1 (tln lo1.num.natAbs) d1, .slice g2 (tln (fd lo1)) d2] rfl).drew
  simp only [setAll, List.set_cons_zero, List.set_cons_succ] at hP
  generalize ((((((x5.setCell ⟨w.heap.size + 1, 0, none⟩ (.bool (zs lo1.num))).setCell ⟨w.heap.size + 1, 1, none⟩ (.slice g1 (tln lo1.num.natAbs) d1)).setCell ⟨w.heap.size + 1, 2, none⟩ (.slice g2 (tln (fd lo1)) d2)).setCell ⟨w.heap.size + 1 + 1, 0, none⟩ (.bool (zs lo1.num))).setCell ⟨w.heap.size + 1 + 1, 1, none⟩ (.slice g1 (tln lo1.num.natAbs) d1)).setCell ⟨w.heap.size + 1 + 1, 2, none⟩ (.slice g2 (tln (fd lo1)) d2)).drew = x6 at hP hS1 ⊢
  clear hL0
  have hL0 := hP
  clear hP
  clear c0 c1 c2 cf0 cn0 c3 c4 c5 cf1 cn1 c6 c7 c8 cf2 cn2 c9 c10 c11 cf3 cn3 c12 c13 c14 cf4
  replace hS := hS1
  clear hS1
  have hN0 := cells_of _ 0 [] rfl (hL0.get _ _ (List.mem_cons_of_mem _ (List.mem_cons_of_mem _ List.mem_cons_self)))
  simp only [cellsF, and_true, Nat.zero_add, Nat.reduceAdd] at hN0
  have hN1 := cells_of _ 0 [] rfl (hL0.get _ _ (List.mem_cons_of_mem _ (List.mem_cons_of_mem _ (List.mem_cons_of_mem _ List.mem_cons_self))))
  simp only [cellsF, and_true, Nat.zero_add, Nat.reduceAdd] at hN1
  go_wp2_with fail
  exact bodyPost_ret (v := .tuple #[.agg #[.bool (zs lo1.num), .slice g1 (tln lo1.num.natAbs) d1, .slice g2 (tln (fd lo1)) d2], .agg #[.bool (zs lo1.num), .slice g1 (tln lo1.num.natAbs) d1, .slice g2 (tln (fd lo1)) d2], .int .i64 0]) (by simp [results, Tryz.results38, go_sem, hN0 ,hN1]) rfl ⟨_, _, rfl, (rf_of (hS.get (List.mem_cons_of_mem _ (List.mem_cons_of_mem _ (List.mem_cons_of_mem _ List.mem_cons_self)))) (hS.get (List.mem_cons_of_mem _ (List.mem_cons_of_mem _ List.mem_cons_self)))), (rf_of (hS.get (List.mem_cons_of_mem _ (List.mem_cons_of_mem _ (List.mem_cons_of_mem _ List.mem_cons_self)))) (hS.get (List.mem_cons_of_mem _ (List.mem_cons_of_mem _ List.mem_cons_self)))), hL0.bl⟩
set_option maxHeartbeats 4000000 in
set_option maxRecDepth 100000 in
theorem rboth_not (n : Int) (q lo1 s t hi1 : Rat) (HM : ∀ (p0 : Value) (w : World), RF w p0 q → Calls Tryz.prog 104 #[p0, .int .i64 n] w fun e w' => e = .returned (.int .i64 0) ∧ Below w.heap.size w w') (HB : ∀ (p0 : Value) (w : World), RF w p0 q → Calls Tryz.prog 105 #[p0, .int .i64 n] w fun e w' => ∃ pv, e = .returned pv ∧ RF w' pv lo1 ∧ Below w.heap.size w w') (HQ : ∀ (p0 : Value) (w : World), RF w p0 lo1 → Calls Tryz.prog 107 #[p0] w fun e w' => ∃ pv, e = .returned pv ∧ RF w' pv s ∧ Below w.heap.size w w') (HE : ∀ (p0 p1 : Value) (w : World), RF w p0 s → RF w p1 q → Calls Tryz.prog 106 #[p0, p1] w fun e w' => e = .returned (.bool false) ∧ Below w.heap.size w w') (HT : ∀ (w : World), Calls Tryz.prog 109 #[.int .i64 n] w fun e w' => ∃ pv, e = .returned pv ∧ RF w' pv t ∧ Below w.heap.size w w') (HA : ∀ (p0 p1 : Value) (w : World), RF w p0 lo1 → RF w p1 t → Calls Tryz.prog 108 #[p0, p1] w fun e w' => ∃ pv, e = .returned pv ∧ RF w' pv hi1 ∧ Below w.heap.size w w') (p0 : Value) (w : World) (r0 : RF w p0 q) :
  Calls Tryz.prog 38 #[p0, .int .i64 n] w fun e w' => ∃ v0 v1, e = .returned (.tuple #[v0, v1, .int .i64 0]) ∧ RF w' v0 lo1 ∧ RF w' v1 hi1 ∧ Below w.heap.size w w' := by
 obtain ⟨xa0, xc0, xb0, xd0, rfl⟩ := rf_form r0
 have xf0 := Lib.hid (rf_rn1 r0)
 have xk0 := Lib.hid (rf_rn2 r0)
 clear r0
 replace HM := Lib.hid HM
 replace HB := Lib.hid HB
 replace HQ := Lib.hid HQ
 replace HE := Lib.hid HE
 replace HT := Lib.hid HT
 replace HA := Lib.hid HA
 have hL0 : GL w w [] := GL.start w
 have hS : SS w [] := SS.nil w
 replace hS := ((((hS.new (.cells #[.bool (zs q.num), .slice xa0 (tln q.num.natAbs) xc0, .slice xb0 (tln (fd q)) xd0] 42)).new (.cells #[.bool false, .slice none 0 0, .slice none 0 0] 42)).new (.cells #[.bool false, .slice none 0 0, .slice none 0 0] 42)).new (.cells #[.bool false, .slice none 0 0, .slice none 0 0] 42))
 replace hL0 := ((((hL0.new rfl [.bool (zs q.num), .slice xa0 (tln q.num.natAbs) xc0, .slice xb0 (tln (fd q)) xd0] 42).new (K := w.heap.size + 1) (szA _ _) [.bool false, .slice none 0 0, .slice none 0 0] 42).new (K := w.heap.size + 1 + 1) (by simp only [World.size_alloc]) [.bool false, .slice none 0 0, .slice none 0 0] 42).new (K := w.heap.size + 1 + 1 + 1) (by simp only [World.size_alloc]) [.bool false, .slice none 0 0, .slice none 0 0] 42)
 generalize hweq : ((((w.alloc (.cells #[.bool (zs q.num), .slice xa0 (tln q.num.natAbs) xc0, .slice xb0 (tln (fd q)) xd0] 42)).alloc (.cells #[.bool false, .slice none 0 0, .slice none 0 0] 42)).alloc (.cells #[.bool false, .slice none 0 0, .slice none 0 0] 42)).alloc (.cells #[.bool false, .slice none 0 0, .slice none 0 0] 42)) = x1 at hL0 hS
 go_enter Tryz.func38, Tryz.ntmps38
 have hN0 := cells_of _ 0 [] rfl (hL0.get _ _ (List.mem_cons_of_mem _ (List.mem_cons_of_mem _ (List.mem_cons_of_mem _ List.mem_cons_self))))
 simp only [cellsF, and_true, Nat.zero_add, Nat.reduceAdd] at hN0
 go_wp2_with fail
 clear hN0
 with_reducible refine Calls.mono (HM.out (.agg #[.bool (zs q.num), .slice xa0 (tln q.num.natAbs) xc0, .slice xb0 (tln (fd q)) xd0]) _ (rf_of (Sl.below xf0.out hL0.bl) (Sl.below xk0.out hL0.bl))) ?_
 rintro e x2 ⟨rfl, hb⟩
 replace hL0 := hL0.call hb
 replace hS := hS.call hb
 clear hb hweq
 have hN0 := cells_of _ 0 [] rfl (hL0.get _ _ (List.mem_cons_of_mem _ (List.mem_cons_of_mem _ (List.mem_cons_of_mem _ List.mem_cons_self))))
 simp only [cellsF, and_true, Nat.zero_add, Nat.reduceAdd] at hN0
 go_wp2_with fail
 clear hN0
 with_reducible refine Calls.mono (HB.out (.agg #[.bool (zs q.num), .slice xa0 (tln q.num.natAbs) xc0, .slice xb0 (tln (fd q)) xd0]) _ (rf_of (Sl.below xf0.out hL0.bl) (Sl.below xk0.out hL0.bl))) ?_
 rintro e x3 ⟨v0, rfl, q0, hb⟩
 replace hL0 := hL0.call hb
 replace hS := hS.call hb
 clear hb
 obtain ⟨g1, d1, g2, d2, rfl⟩ := rf_form q0
 replace hS := hS.cons (rf_rn1 q0)
 replace hS := hS.cons (rf_rn2 q0)
 clear q0
 replace hS := (hS.new (.cells #[.bool (zs lo1.num), .slice g1 (tln lo1.num.natAbs) d1, .slice g2 (tln (fd lo1)) d2] 42))
 replace hL0 := (hL0.new rfl [.bool (zs lo1.num), .slice g1 (tln lo1.num.natAbs) d1, .slice g2 (tln (fd lo1)) d2] 42)
 generalize hweq : (x3.alloc (.cells #[.bool (zs lo1.num), .slice g1 (tln lo1.num.natAbs) d1, .slice g2 (tln (fd lo1)) d2] 42)) = x4 at hL0 hS
 go_upto_region 6 with fail
 clear hweq
 refine region_tl 4 [EV (.agg #[.bool (zs lo1.num), .slice g1 (tln lo1.num.natAbs) d1, .slice g2 (tln (fd lo1)) d2]), PF s, EV (.agg #[.bool (zs q.num), .slice xa0 (tln q.num.natAbs) xc0, .slice xb0 (tln (fd q)) xd0]), EV (.bool false)] (by kernel_rfl) (by kernel_rfl) ?_ ?_ ?_
 ·exact stays_cons (stays_eq _) (stays_cons (stays_rf _) (stays_cons (stays_eq _) (stays_cons (stays_eq _) (stays_nil))))
 ·simp only [List.take_succ_cons, List.take_zero, hopsR, and_true]
  refine ⟨?_, ?_, ?_, ?_⟩ <;> intro fv w1 hb1 hp
  all_goals (simp only [putsV, Act.put, List.setIfInBounds_toArray, List.set_cons_succ, List.set_cons_zero, Nat.zero_add, Nat.reduceAdd])
  ·refine tyAt_none rfl ?_
   have hc := (hL0.call (below_drew hb1)).fc
   simp only [fcG, cellsF, neK, and_true, ne_eq, Nat.zero_add, Nat.reduceAdd] at hc
   simp [tyUpon, execOp, go_sem, Act.eval, hc, Below.refl]
  ·have h0 : EV _ (fv 0) w1 := hp 0 (LC (by kernel_rfl))
   refine tyAt_none rfl ?_
   refine ty_call (f := 107) (args := #[.agg #[.bool (zs lo1.num), .slice g1 (tln lo1.num.natAbs) d1, .slice g2 (tln (fd lo1)) d2]]) (by simp [execOp, go_sem, Act.eval, h0]) ?_
   exact (HQ.out (.agg #[.bool (zs lo1.num), .slice g1 (tln lo1.num.natAbs) d1, .slice g2 (tln (fd lo1)) d2]) w1 (rf_of (Sl.below (hS.get (List.mem_cons_of_mem _ List.mem_cons_self)) (below_drew hb1)) (Sl.below (hS.get List.mem_cons_self) (below_drew hb1)))).mono fun e w2 ⟨pv, h1, h2, h3⟩ => ⟨pv, h1, h2, h3⟩
  ·refine tyAt_none rfl ?_
   have hc := (hL0.call (below_drew hb1)).fc
   simp only [fcG, cellsF, neK, and_true, ne_eq, Nat.zero_add, Nat.reduceAdd] at hc
   simp [tyUpon, execOp, go_sem, Act.eval, hc, Below.refl]
  ·have h1 : PF _ (fv 1) w1 := hp 1 (LC (by kernel_rfl))
   have h2 : EV _ (fv 2) w1 := hp 2 (LC (by kernel_rfl))
   refine tyAt_none rfl ?_
   refine ty_call (f := 106) (args := #[fv 1, .agg #[.bool (zs q.num), .slice xa0 (tln q.num.natAbs) xc0, .slice xb0 (tln (fd q)) xd0]]) (by simp [execOp, go_sem, Act.eval, h2]) ?_
   exact (HE.out (fv 1) (.agg #[.bool (zs q.num), .slice xa0 (tln q.num.natAbs) xc0, .slice xb0 (tln (fd q)) xd0]) w1 h1 (rf_of (Sl.below (Sl.below xf0.out hL0.bl) (below_drew hb1)) (Sl.below (Sl.below xk0.out hL0.bl) (below_drew hb1)))).mono fun e w2 ⟨h1, h2⟩ => ⟨_, h1, rfl, h2⟩
 ·intro fv x5 hb1 hv
  have e0 : fv 0 = _ := hv 0 (by omega)
  have q1 : RF x5 (fv 1) s := hv 1 (by omega)
  obtain ⟨g3, d3, g4, d4, e1⟩ := rf_form q1
  rw [e1] at q1
  have e2 : fv 2 = _ := hv 2 (by omega)
  have e3 : fv 3 = _ := hv 3 (by omega)
  simp only [List.take_succ_cons, List.take_zero, putsV, Act.put, List.setIfInBounds_toArray, List.set_cons_succ, List.set_cons_zero, List.drop_succ_cons, List.drop_zero, Nat.zero_add, Nat.reduceAdd, e0, e1, e2, e3]
  replace hL0 := hL0.call (below_drew hb1)
  replace hS := hS.call (below_drew hb1)
  replace hS := hS.cons (rf_rn1 q1)
  replace hS := hS.cons (rf_rn2 q1)
  clear e0 e1 e2 e3 hb1 hv q1 fv
  go_upto_region 8 with fail
  refine region_tl 5 [EV (.agg #[.bool (zs lo1.num), .slice g1 (tln lo1.num.natAbs) d1, .slice g2 (tln (fd lo1)) d2]), EV (.agg #[.bool (zs lo1.num), .slice g1 (tln lo1.num.natAbs) d1, .slice g2 (tln (fd lo1)) d2]), EV (.int .i64 n), PF t, PF hi1] (by kernel_rfl) (by kernel_rfl) ?_ ?_ ?_
  ·exact stays_cons (stays_eq _) (stays_cons (stays_eq _) (stays_cons (stays_eq _) (stays_cons (stays_rf _) (stays_cons (stays_rf _) (stays_nil)))))
  ·simp only [List.take_succ_cons, List.take_zero, hopsR, and_true]
   refine ⟨?_, ?_, ?_, ?_, ?_⟩ <;> intro fv w1 hb1 hp
   all_goals (simp only [putsV, Act.put, List.setIfInBounds_toArray, List.set_cons_succ, List.set_cons_zero, Nat.zero_add, Nat.reduceAdd])
   ·refine tyAt_none rfl ?_
    have hc := (hL0.call (below_drew hb1)).fc
    simp only [fcG, cellsF, neK, and_true, ne_eq, Nat.zero_add, Nat.reduceAdd] at hc
    simp [tyUpon, execOp, go_sem, Act.eval, hc, Below.refl]
   ·refine tyAt_none rfl ?_
    have hc := (hL0.call (below_drew hb1)).fc
    simp only [fcG, cellsF, neK, and_true, ne_eq, Nat.zero_add, Nat.reduceAdd] at hc
    simp [tyUpon, execOp, go_sem, Act.eval, hc, Below.refl]
   ·refine tyAt_none rfl ?_
    simp [tyUpon, execOp, go_sem, Act.eval, Below.refl]
   ·have h2 : EV _ (fv 2) w1 := hp 2 (LC (by kernel_rfl))
    refine tyAt_none rfl ?_
    refine ty_call (f := 109) (args := #[.int .i64 n]) (by simp [execOp, go_sem, Act.eval, h2]) ?_
    exact (HT.out w1).mono fun e w2 ⟨pv, h1, h2, h3⟩ => ⟨pv, h1, h2, h3⟩
   ·have h1 : EV _ (fv 1) w1 := hp 1 (LC (by kernel_rfl))
    have h3 : PF _ (fv 3) w1 := hp 3 (LC (by kernel_rfl))
    refine tyAt_none rfl ?_
    refine ty_call (f := 108) (args := #[.agg #[.bool (zs lo1.num), .slice g1 (tln lo1.num.natAbs) d1, .slice g2 (tln (fd lo1)) d2], fv 3]) (by simp [execOp, go_sem, Act.eval, h1]) ?_
    exact (HA.out (.agg #[.bool (zs lo1.num), .slice g1 (tln lo1.num.natAbs) d1, .slice g2 (tln (fd lo1)) d2]) (fv 3) w1 (rf_of (Sl.below (hS.get (List.mem_cons_of_mem _ (List.mem_cons_of_mem _ (List.mem_cons_of_mem _ List.mem_cons_self)))) (below_drew hb1)) (Sl.below (hS.get (List.mem_cons_of_mem _ (List.mem_cons_of_mem _ List.mem_cons_self))) (below_drew hb1))) h3).mono fun e w2 ⟨pv, h1, h2, h3⟩ => ⟨pv, h1, h2, h3⟩
  ·intro fv x6 hb1 hv
   have e0 : fv 0 = _ := hv 0 (by omega)
   have e1 : fv 1 = _ := hv 1 (by omega)
   have e2 : fv 2 = _ := hv 2 (by omega)
   have q3 : RF x6 (fv 3) t := hv 3 (by omega)
   obtain ⟨g5, d5, g6, d6, e3⟩ := rf_form q3
   rw [e3] at q3
   have q4 : RF x6 (fv 4) hi1 := hv 4 (by omega)
   obtain ⟨g7, d7, g8, d8, e4⟩ := rf_form q4
   rw [e4] at q4
   simp only [List.take_succ_cons, List.take_zero, putsV, Act.put, List.setIfInBounds_toArray, List.set_cons_succ, List.set_cons_zero, List.drop_succ_cons, List.drop_zero, Nat.zero_add, Nat.reduceAdd, e0, e1, e2, e3, e4]
   replace hL0 := hL0.call (below_drew hb1)
   replace hS := hS.call (below_drew hb1)
   replace hS := hS.cons (rf_rn1 q3)
   replace hS := hS.cons (rf_rn2 q3)
   replace hS := hS.cons (rf_rn1 q4)
   replace hS := hS.cons (rf_rn2 q4)
   clear e0 e1 e2 e3 e4 hb1 hv q3 q4 fv
   have hS1 := hS.put ((((Upd.refl (w.heap.size + 1) x6).setCell 0 (.bool (zs lo1.num))).setCell 1 (.slice g1 (tln lo1.num.natAbs) d1)).setCell 2 (.slice g2 (tln (fd lo1)) d2)) (hL0.get _ _ (List.mem_cons_of_mem _ (List.mem_cons_of_mem _ (List.mem_cons_of_mem _ List.mem_cons_self)))) (by intro v hv n; simp only [List.mem_cons, List.not_mem_nil, or_false] at hv; rcases hv with rfl | rfl | rfl <;> simp)
   have hA := hL0.fc
   simp only [fcG, cellsF, neK, and_true, ne_eq, Nat.zero_add, Nat.reduceAdd] at hA
   have hP := hL0.put 3 (w.heap.size + 1) _ rfl [.bool (zs lo1.num), .slice g1 (tln lo1.num.natAbs) d1, .slice g2 (tln (fd lo1)) d2] rfl
   simp only [setAll, List.set_cons_zero, List.set_cons_succ] at hP
   generalize hput1 : (((x6.setCell ⟨w.heap.size + 1, 0, none⟩ (.bool (zs lo1.num))).setCell ⟨w.heap.size + 1, 1, none⟩ (.slice g1 (tln lo1.num.natAbs) d1)).setCell ⟨w.heap.size + 1, 2, none⟩ (.slice g2 (tln (fd lo1)) d2)) = x7 at hP hS1
   have hB1 := hP.fc
   simp only [fcG, cellsF, neK, and_true, ne_eq, Nat.zero_add, Nat.reduceAdd] at hB1
   replace hL0 := hP
   replace hS := hS1
   clear hS1
   have hS1 := hS.put ((((Upd.refl (w.heap.size + 1 + 1) x7).setCell 0 (.bool (zs hi1.num))).setCell 1 (.slice g7 (tln hi1.num.natAbs) d7)).setCell 2 (.slice g8 (tln (fd hi1)) d8)) (hL0.get _ _ (List.mem_cons_of_mem _ (List.mem_cons_of_mem _ List.mem_cons_self))) (by intro v hv n; simp only [List.mem_cons, List.not_mem_nil, or_false] at hv; rcases hv with rfl | rfl | rfl <;> simp)
   have hP := hL0.put 2 (w.heap.size + 1 + 1) _ rfl [.bool (zs hi1.num), .slice g7 (tln hi1.num.natAbs) d7, .slice g8 (tln (fd hi1)) d8] rfl
   simp only [setAll, List.set_cons_zero, List.set_cons_succ] at hP
   generalize hput2 : (((x7.setCell ⟨w.heap.size + 1 + 1, 0, none⟩ (.bool (zs hi1.num))).setCell ⟨w.heap.size + 1 + 1, 1, none⟩ (.slice g7 (tln hi1.num.natAbs) d7)).setCell ⟨w.heap.size + 1 + 1, 2, none⟩ (.slice g8 (tln (fd hi1)) d8)) = x8 at hP hS1
   have hB2 := hP.fc
   simp only [fcG, cellsF, neK, and_true, ne_eq, Nat.zero_add, Nat.reduceAdd] at hB2
   replace hL0 := hP
   replace hS := hS1
   clear hS1
   go_wp2_with fail
   exact bodyPost_ret (v := .tuple #[.agg #[.bool (zs lo1.num), .slice g1 (tln lo1.num.natAbs) d1, .slice g2 (tln (fd lo1)) d2], .agg #[.bool (zs hi1.num), .slice g7 (tln hi1.num.natAbs) d7, .slice g8 (tln (fd hi1)) d8], .int .i64 0]) (by simp [results, Tryz.results38, go_sem, hB2]) rfl ⟨_, _, rfl, (rf_of (hS.get (List.mem_cons_of_mem _ (List.mem_cons_of_mem _ (List.mem_cons_of_mem _ (List.mem_cons_of_mem _ (List.mem_cons_of_mem _ (List.mem_cons_of_mem _ (List.mem_cons_of_mem _ List.mem_cons_self)))))))) (hS.get (List.mem_cons_of_mem _ (List.mem_cons_of_mem _ (List.mem_cons_of_mem _ (List.mem_cons_of_mem _ (List.mem_cons_of_mem _ (List.mem_cons_of_mem _ List.mem_cons_self)))))))), (rf_of (hS.get (List.mem_cons_of_mem _ List.mem_cons_self)) (hS.get List.mem_cons_self)), hL0.bl⟩
set_option maxHeartbeats 4000000 in
set_option maxRecDepth 100000 in
theorem rboth_out (nx dx n : Int) (KT : World → Prop) (hKT : Keeps KT) (HW : ∀ w, KT w → Calls Tryz.prog 35 #[] w fun xe w' => xe = .returned (.bool true) ∧ Below w.heap.size w w') (g1 : decide (40 < n) = true) (g2 : decide (n ≤ 100) = true) (w : World) (kKT : KT w) :
  Calls Tryz.prog 7 #[.agg #[.int .i64 nx, .int .u32 dx], .int .i64 n] w fun e w' => e = .returned (.bool true) ∧ Below w.heap.size w w' := by
 replace hKT := Lib.hid hKT
 replace HW := Lib.hid HW
 have hL0 : GL w w [] := GL.start w
 have hS : SS w [] := SS.nil w
 replace hS := (hS.new (.cells #[.int .i64 nx, .int .u32 dx] 24))
 replace hL0 := (hL0.new rfl [.int .i64 nx, .int .u32 dx] 24)
 generalize hweq : (w.alloc (.cells #[.int .i64 nx, .int .u32 dx] 24)) = x1 at hL0 hS
 go_enter Tryz.func7, Tryz.ntmps7
 go_wp2_with fail
 with_reducible refine Calls.mono (HW.out _ (hKT.out.at hL0.bl kKT)) ?_
 rintro e x2 ⟨rfl, hb⟩
 replace hL0 := hL0.call hb
 replace hS := hS.call hb
 clear hb hweq
 go_wp2_with fail
 exact bodyPost_ret (v := .bool true) (by simp [results, Tryz.results7, go_sem]) rfl ⟨rfl, hL0.bl⟩
set_option maxHeartbeats 4000000 in
set_option maxRecDepth 100000 in
theorem rboth_in (nx dx n k : Int) (a lo1 hi1 : Rat) (G1 : ∀ w, Calls Tryz.prog 16 #[.agg #[.int .i64 nx, .int .u32 dx]] w fun xe w' => xe = .returned (fracV a) ∧ Below w.heap.size w w') (HB : ∀ w, Calls Tryz.prog 36 #[fracV a, .int .i64 n] w fun xe w' => xe = .returned (.tuple #[fracV lo1, .int .i64 k]) ∧ Below w.heap.size w w') (HC : ∀ w, Calls Tryz.prog 37 #[fracV a, .int .i64 n] w fun xe w' => xe = .returned (.tuple #[fracV hi1, .int .i64 k]) ∧ Below w.heap.size w w') (GR : ∀ (w : World), Calls Tryz.prog 18 #[.agg #[.int .i64 nx, .int .u32 dx]] w fun e w' => ∃ pv, e = .returned pv ∧ RF w' pv a ∧ Below w.heap.size w w') (HD : ∀ (p0 : Value) (w : World), RF w p0 a → Calls Tryz.prog 38 #[p0, .int .i64 n] w fun e w' => ∃ v0 v1, e = .returned (.tuple #[v0, v1, .int .i64 k]) ∧ RF w' v0 lo1 ∧ RF w' v1 hi1 ∧ Below w.heap.size w w') (KT : World → Prop) (hKT : Keeps KT) (HS1 : ∀ (p1 : Value) (w : World), KT w → RF w p1 lo1 → Calls Tryz.prog 39 #[fracV lo1, p1] w fun e w' => e = .returned (.bool true) ∧ Below w.heap.size w w') (HS2 : ∀ (p1 : Value) (w : World), KT w → RF w p1 hi1 → Calls Tryz.prog 39 #[fracV hi1, p1] w fun e w' => e = .returned (.bool true) ∧ Below w.heap.size w w') (HW : ∀ w, KT w → Calls Tryz.prog 35 #[] w fun xe w' => xe = .returned (.bool true) ∧ Below w.heap.size w w') (g1 : decide (40 < n) = false) (w : World) (kKT : KT w) :
  Calls Tryz.prog 7 #[.agg #[.int .i64 nx, .int .u32 dx], .int .i64 n] w fun e w' => e = .returned (.bool true) ∧ Below w.heap.size w w' := by
 replace G1 := Lib.hid G1
 replace HB := Lib.hid HB
 replace HC := Lib.hid HC
 replace GR := Lib.hid GR
 replace HD := Lib.hid HD
 replace hKT := Lib.hid hKT
 replace HS1 := Lib.hid HS1
 replace HS2 := Lib.hid HS2
 replace HW := Lib.hid HW
 have hL0 : GL w w [] := GL.start w
 have hS : SS w [] := SS.nil w
 replace hS := (hS.new (.cells #[.int .i64 nx, .int .u32 dx] 24))
 replace hL0 := (hL0.new rfl [.int .i64 nx, .int .u32 dx] 24)
 generalize hweq : (w.alloc (.cells #[.int .i64 nx, .int .u32 dx] 24)) = x1 at hL0 hS
 go_enter Tryz.func7, Tryz.ntmps7
 have hN0 := cells_of _ 0 [] rfl (hL0.get _ _ List.mem_cons_self)
 simp only [cellsF, and_true, Nat.zero_add, Nat.reduceAdd] at hN0
 go_wp2_with fail
 clear hN0
 with_reducible refine Calls.mono (G1.out _) ?_
 rintro e x2 ⟨rfl, hb⟩
 replace hL0 := hL0.call hb
 replace hS := hS.call hb
 clear hb hweq
 go_wp2_with fail
 with_reducible refine Calls.mono (HB.out _) ?_
 rintro e x3 ⟨rfl, hb⟩
 replace hL0 := hL0.call hb
 replace hS := hS.call hb
 clear hb
 replace hS := (hS.new (.cells #[.int .u64 ((zl lo1.num : Nat) : Int), .string (zh lo1.num), .bool (zs lo1.num), .int .u64 ((lo (fe lo1) : Nat) : Int), .string (hs (fe lo1))] 34))
 replace hL0 := (hL0.new rfl [.int .u64 ((zl lo1.num : Nat) : Int), .string (zh lo1.num), .bool (zs lo1.num), .int .u64 ((lo (fe lo1) : Nat) : Int), .string (hs (fe lo1))] 34)
 generalize hweq : (x3.alloc (.cells #[.int .u64 ((zl lo1.num : Nat) : Int), .string (zh lo1.num), .bool (zs lo1.num), .int .u64 ((lo (fe lo1) : Nat) : Int), .string (hs (fe lo1))] 34)) = x4 at hL0 hS
 have hN0 := cells_of _ 0 [] rfl (hL0.get _ _ (List.mem_cons_of_mem _ List.mem_cons_self))
 simp only [cellsF, and_true, Nat.zero_add, Nat.reduceAdd] at hN0
 go_wp2_with fail
 clear hN0
 with_reducible refine Calls.mono (G1.out _) ?_
 rintro e x5 ⟨rfl, hb⟩
 replace hL0 := hL0.call hb
 replace hS := hS.call hb
 clear hb hweq
 go_wp2_with fail
 with_reducible refine Calls.mono (HC.out _) ?_
 rintro e x6 ⟨rfl, hb⟩
 replace hL0 := hL0.call hb
 replace hS := hS.call hb
 clear hb
 replace hS := (hS.new (.cells #[.int .u64 ((zl hi1.num : Nat) : Int), .string (zh hi1.num), .bool (zs hi1.num), .int .u64 ((lo (fe hi1) : Nat) : Int), .string (hs (fe hi1))] 34))
 replace hL0 := (hL0.new rfl [.int .u64 ((zl hi1.num : Nat) : Int), .string (zh hi1.num), .bool (zs hi1.num), .int .u64 ((lo (fe hi1) : Nat) : Int), .string (hs (fe hi1))] 34)
 generalize hweq : (x6.alloc (.cells #[.int .u64 ((zl hi1.num : Nat) : Int), .string (zh hi1.num), .bool (zs hi1.num), .int .u64 ((lo (fe hi1) : Nat) : Int), .string (hs (fe hi1))] 34)) = x7 at hL0 hS
 have hN0 := cells_of _ 0 [] rfl (hL0.get _ _ (List.mem_cons_of_mem _ (List.mem_cons_of_mem _ List.mem_cons_self)))
 simp only [cellsF, and_true, Nat.zero_add, Nat.reduceAdd] at hN0
 go_wp2_with fail
 clear hN0
 with_reducible refine Calls.mono (GR.out _) ?_
 rintro e x8 ⟨v0, rfl, q0, hb⟩
 replace hL0 := hL0.call hb
 replace hS := hS.call hb
 clear hb hweq
 obtain ⟨g1, d1, g2, d2, rfl⟩ := rf_form q0
 replace hS := hS.cons (rf_rn1 q0)
 replace hS := hS.cons (rf_rn2 q0)
 clear q0
 go_wp2_with fail
 with_reducible refine Calls.mono (HD.out (.agg #[.bool (zs a.num), .slice g1 (tln a.num.natAbs) d1, .slice g2 (tln (fd a)) d2]) _ (rf_of (hS.get (List.mem_cons_of_mem _ List.mem_cons_self)) (hS.get List.mem_cons_self))) ?_
 rintro e x9 ⟨v0, v1, rfl, q0, q1, hb⟩
 replace hL0 := hL0.call hb
 replace hS := hS.call hb
 clear hb
 obtain ⟨g3, d3, g4, d4, rfl⟩ := rf_form q0
 replace hS := hS.cons (rf_rn1 q0)
 replace hS := hS.cons (rf_rn2 q0)
 clear q0
 obtain ⟨g5, d5, g6, d6, rfl⟩ := rf_form q1
 replace hS := hS.cons (rf_rn1 q1)
 replace hS := hS.cons (rf_rn2 q1)
 clear q1
 replace hS := ((hS.new (.cells #[.bool (zs lo1.num), .slice g3 (tln lo1.num.natAbs) d3, .slice g4 (tln (fd lo1)) d4] 42)).new (.cells #[.bool (zs hi1.num), .slice g5 (tln hi1.num.natAbs) d5, .slice g6 (tln (fd hi1)) d6] 42))
 replace hL0 := ((hL0.new rfl [.bool (zs lo1.num), .slice g3 (tln lo1.num.natAbs) d3, .slice g4 (tln (fd lo1)) d4] 42).new (K := x9.heap.size + 1) (szA _ _) [.bool (zs hi1.num), .slice g5 (tln hi1.num.natAbs) d5, .slice g6 (tln (fd hi1)) d6] 42)
 generalize hweq : ((x9.alloc (.cells #[.bool (zs lo1.num), .slice g3 (tln lo1.num.natAbs) d3, .slice g4 (tln (fd lo1)) d4] 42)).alloc (.cells #[.bool (zs hi1.num), .slice g5 (tln hi1.num.natAbs) d5, .slice g6 (tln (fd hi1)) d6] 42)) = x10 at hL0 hS
 have hN0 := cells_of _ 0 [] rfl (hL0.get _ _ (List.mem_cons_of_mem _ List.mem_cons_self))
 simp only [cellsF, and_true, Nat.zero_add, Nat.reduceAdd] at hN0
 have hN1 := cells_of _ 0 [] rfl (hL0.get _ _ (List.mem_cons_of_mem _ (List.mem_cons_of_mem _ (List.mem_cons_of_mem _ List.mem_cons_self))))
 simp only [cellsF, and_true, Nat.zero_add, Nat.reduceAdd] at hN1
 go_wp2_with fail
 clear hN0 hN1
 with_reducible refine Calls.mono (HS1.out (.agg #[.bool (zs lo1.num), .slice g3 (tln lo1.num.natAbs) d3, .slice g4 (tln (fd lo1)) d4]) _ (hKT.out.at (hL0.bl) kKT) (rf_of (hS.get (List.mem_cons_of_mem _ (List.mem_cons_of_mem _ (List.mem_cons_of_mem _ List.mem_cons_self)))) (hS.get (List.mem_cons_of_mem _ (List.mem_cons_of_mem _ List.mem_cons_self))))) ?_
 rintro e x11 ⟨rfl, hb⟩
 replace hL0 := hL0.call hb
 replace hS := hS.call hb
 clear hb hweq
 have hN0 := cells_of _ 0 [] rfl (hL0.get _ _ List.mem_cons_self)
 simp only [cellsF, and_true, Nat.zero_add, Nat.reduceAdd] at hN0
 have hN1 := cells_of _ 0 [] rfl (hL0.get _ _ (List.mem_cons_of_mem _ (List.mem_cons_of_mem _ List.mem_cons_self)))
 simp only [cellsF, and_true, Nat.zero_add, Nat.reduceAdd] at hN1
 go_wp2_with fail
 clear hN0 hN1
 with_reducible refine Calls.mono (HS2.out (.agg #[.bool (zs hi1.num), .slice g5 (tln hi1.num.natAbs) d5, .slice g6 (tln (fd hi1)) d6]) _ (hKT.out.at (hL0.bl) kKT) (rf_of (hS.get (List.mem_cons_of_mem _ List.mem_cons_self)) (hS.get List.mem_cons_self))) ?_
 rintro e x12 ⟨rfl, hb⟩
 replace hL0 := hL0.call hb
 replace hS := hS.call hb
 clear hb
 go_wp2_with fail
 with_reducible refine Calls.mono (HW.out _ (hKT.out.at hL0.bl kKT)) ?_
 rintro e x13 ⟨rfl, hb⟩
 replace hL0 := hL0.call hb
 replace hS := hS.call hb
 clear hb
 go_wp2_with fail
 exact bodyPost_ret (v := .bool true) (by simp [results, Tryz.results7, go_sem]) rfl ⟨rfl, hL0.bl⟩
set_option maxHeartbeats 4000000 in
set_option maxRecDepth 100000 in
theorem rboth_great (nx dx n k : Int) (a lo1 hi1 : Rat) (G1 : ∀ w, Calls Tryz.prog 16 #[.agg #[.int .i64 nx, .int .u32 dx]] w fun xe w' => xe = .returned (fracV a) ∧ Below w.heap.size w w') (HB : ∀ w, Calls Tryz.prog 36 #[fracV a, .int .i64 n] w fun xe w' => xe = .returned (.tuple #[fracV lo1, .int .i64 k]) ∧ Below w.heap.size w w') (HC : ∀ w, Calls Tryz.prog 37 #[fracV a, .int .i64 n] w fun xe w' => xe = .returned (.tuple #[fracV hi1, .int .i64 k]) ∧ Below w.heap.size w w') (GR : ∀ (w : World), Calls Tryz.prog 18 #[.agg #[.int .i64 nx, .int .u32 dx]] w fun e w' => ∃ pv, e = .returned pv ∧ RF w' pv a ∧ Below w.heap.size w w') (HD : ∀ (p0 : Value) (w : World), RF w p0 a → Calls Tryz.prog 38 #[p0, .int .i64 n] w fun e w' => ∃ v0 v1, e = .returned (.tuple #[v0, v1, .int .i64 k]) ∧ RF w' v0 lo1 ∧ RF w' v1 hi1 ∧ Below w.heap.size w w') (KT : World → Prop) (hKT : Keeps KT) (HS1 : ∀ (p1 : Value) (w : World), KT w → RF w p1 lo1 → Calls Tryz.prog 39 #[fracV lo1, p1] w fun e w' => e = .returned (.bool true) ∧ Below w.heap.size w w') (HS2 : ∀ (p1 : Value) (w : World), KT w → RF w p1 hi1 → Calls Tryz.prog 39 #[fracV hi1, p1] w fun e w' => e = .returned (.bool true) ∧ Below w.heap.size w w') (HW : ∀ w, KT w → Calls Tryz.prog 35 #[] w fun xe w' => xe = .returned (.bool true) ∧ Below w.heap.size w w') (g1 : decide (40 < n) = true) (g2 : decide (n ≤ 100) = false) (w : World) (kKT : KT w) :
  Calls Tryz.prog 7 #[.agg #[.int .i64 nx, .int .u32 dx], .int .i64 n] w fun e w' => e = .returned (.bool true) ∧ Below w.heap.size w w' := by
 replace G1 := Lib.hid G1
 replace HB := Lib.hid HB
 replace HC := Lib.hid HC
 replace GR := Lib.hid GR
 replace HD := Lib.hid HD
 replace hKT := Lib.hid hKT
 replace HS1 := Lib.hid HS1
 replace HS2 := Lib.hid HS2
 replace HW := Lib.hid HW
 have hL0 : GL w w [] := GL.start w
 have hS : SS w [] := SS.nil w
 replace hS := (hS.new (.cells #[.int .i64 nx, .int .u32 dx] 24))
 replace hL0 := (hL0.new rfl [.int .i64 nx, .int .u32 dx] 24)
 generalize hweq : (w.alloc (.cells #[.int .i64 nx, .int .u32 dx] 24)) = x1 at hL0 hS
 go_enter Tryz.func7, Tryz.ntmps7
 have hN0 := cells_of _ 0 [] rfl (hL0.get _ _ List.mem_cons_self)
 simp only [cellsF, and_true, Nat.zero_add, Nat.reduceAdd] at hN0
 go_wp2_with fail
 clear hN0
 with_reducible refine Calls.mono (G1.out _) ?_
 rintro e x2 ⟨rfl, hb⟩
 replace hL0 := hL0.call hb
 replace hS := hS.call hb
 clear hb hweq
 go_wp2_with fail
 with_reducible refine Calls.mono (HB.out _) ?_
 rintro e x3 ⟨rfl, hb⟩
 replace hL0 := hL0.call hb
 replace hS := hS.call hb
 clear hb
 replace hS := (hS.new (.cells #[.int .u64 ((zl lo1.num : Nat) : Int), .string (zh lo1.num), .bool (zs lo1.num), .int .u64 ((lo (fe lo1) : Nat) : Int), .string (hs (fe lo1))] 34))
 replace hL0 := (hL0.new rfl [.int .u64 ((zl lo1.num : Nat) : Int), .string (zh lo1.num), .bool (zs lo1.num), .int .u64 ((lo (fe lo1) : Nat) : Int), .string (hs (fe lo1))] 34)
 generalize hweq : (x3.alloc (.cells #[.int .u64 ((zl lo1.num : Nat) : Int), .string (zh lo1.num), .bool (zs lo1.num), .int .u64 ((lo (fe lo1) : Nat) : Int), .string (hs (fe lo1))] 34)) = x4 at hL0 hS
 have hN0 := cells_of _ 0 [] rfl (hL0.get _ _ (List.mem_cons_of_mem _ List.mem_cons_self))
 simp only [cellsF, and_true, Nat.zero_add, Nat.reduceAdd] at hN0
 go_wp2_with fail
 clear hN0
 with_reducible refine Calls.mono (G1.out _) ?_
 rintro e x5 ⟨rfl, hb⟩
 replace hL0 := hL0.call hb
 replace hS := hS.call hb
 clear hb hweq
 go_wp2_with fail
 with_reducible refine Calls.mono (HC.out _) ?_
 rintro e x6 ⟨rfl, hb⟩
 replace hL0 := hL0.call hb
 replace hS := hS.call hb
 clear hb
 replace hS := (hS.new (.cells #[.int .u64 ((zl hi1.num : Nat) : Int), .string (zh hi1.num), .bool (zs hi1.num), .int .u64 ((lo (fe hi1) : Nat) : Int), .string (hs (fe hi1))] 34))
 replace hL0 := (hL0.new rfl [.int .u64 ((zl hi1.num : Nat) : Int), .string (zh hi1.num), .bool (zs hi1.num), .int .u64 ((lo (fe hi1) : Nat) : Int), .string (hs (fe hi1))] 34)
 generalize hweq : (x6.alloc (.cells #[.int .u64 ((zl hi1.num : Nat) : Int), .string (zh hi1.num), .bool (zs hi1.num), .int .u64 ((lo (fe hi1) : Nat) : Int), .string (hs (fe hi1))] 34)) = x7 at hL0 hS
 have hN0 := cells_of _ 0 [] rfl (hL0.get _ _ (List.mem_cons_of_mem _ (List.mem_cons_of_mem _ List.mem_cons_self)))
 simp only [cellsF, and_true, Nat.zero_add, Nat.reduceAdd] at hN0
 go_wp2_with fail
 clear hN0
 with_reducible refine Calls.mono (GR.out _) ?_
 rintro e x8 ⟨v0, rfl, q0, hb⟩
 replace hL0 := hL0.call hb
 replace hS := hS.call hb
 clear hb hweq
 obtain ⟨g1, d1, g2, d2, rfl⟩ := rf_form q0
 replace hS := hS.cons (rf_rn1 q0)
 replace hS := hS.cons (rf_rn2 q0)
 clear q0
 go_wp2_with fail
 with_reducible refine Calls.mono (HD.out (.agg #[.bool (zs a.num), .slice g1 (tln a.num.natAbs) d1, .slice g2 (tln (fd a)) d2]) _ (rf_of (hS.get (List.mem_cons_of_mem _ List.mem_cons_self)) (hS.get List.mem_cons_self))) ?_
 rintro e x9 ⟨v0, v1, rfl, q0, q1, hb⟩
 replace hL0 := hL0.call hb
 replace hS := hS.call hb
 clear hb
 obtain ⟨g3, d3, g4, d4, rfl⟩ := rf_form q0
 replace hS := hS.cons (rf_rn1 q0)
 replace hS := hS.cons (rf_rn2 q0)
 clear q0
 obtain ⟨g5, d5, g6, d6, rfl⟩ := rf_form q1
 replace hS := hS.cons (rf_rn1 q1)
 replace hS := hS.cons (rf_rn2 q1)
 clear q1
 replace hS := ((hS.new (.cells #[.bool (zs lo1.num), .slice g3 (tln lo1.num.natAbs) d3, .slice g4 (tln (fd lo1)) d4] 42)).new (.cells #[.bool (zs hi1.num), .slice g5 (tln hi1.num.natAbs) d5, .slice g6 (tln (fd hi1)) d6] 42))
 replace hL0 := ((hL0.new rfl [.bool (zs lo1.num), .slice g3 (tln lo1.num.natAbs) d3, .slice g4 (tln (fd lo1)) d4] 42).new (K := x9.heap.size + 1) (szA _ _) [.bool (zs hi1.num), .slice g5 (tln hi1.num.natAbs) d5, .slice g6 (tln (fd hi1)) d6] 42)
 generalize hweq : ((x9.alloc (.cells #[.bool (zs lo1.num), .slice g3 (tln lo1.num.natAbs) d3, .slice g4 (tln (fd lo1)) d4] 42)).alloc (.cells #[.bool (zs hi1.num), .slice g5 (tln hi1.num.natAbs) d5, .slice g6 (tln (fd hi1)) d6] 42)) = x10 at hL0 hS
 have hN0 := cells_of _ 0 [] rfl (hL0.get _ _ (List.mem_cons_of_mem _ List.mem_cons_self))
 simp only [cellsF, and_true, Nat.zero_add, Nat.reduceAdd] at hN0
 have hN1 := cells_of _ 0 [] rfl (hL0.get _ _ (List.mem_cons_of_mem _ (List.mem_cons_of_mem _ (List.mem_cons_of_mem _ List.mem_cons_self))))
 simp only [cellsF, and_true, Nat.zero_add, Nat.reduceAdd] at hN1
 go_wp2_with fail
 clear hN0 hN1
 with_reducible refine Calls.mono (HS1.out (.agg #[.bool (zs lo1.num), .slice g3 (tln lo1.num.natAbs) d3, .slice g4 (tln (fd lo1)) d4]) _ (hKT.out.at (hL0.bl) kKT) (rf_of (hS.get (List.mem_cons_of_mem _ (List.mem_cons_of_mem _ (List.mem_cons_of_mem _ List.mem_cons_self)))) (hS.get (List.mem_cons_of_mem _ (List.mem_cons_of_mem _ List.mem_cons_self))))) ?_
 rintro e x11 ⟨rfl, hb⟩
 replace hL0 := hL0.call hb
 replace hS := hS.call hb
 clear hb hweq
 have hN0 := cells_of _ 0 [] rfl (hL0.get _ _ List.mem_cons_self)
 simp only [cellsF, and_true, Nat.zero_add, Nat.reduceAdd] at hN0
 have hN1 := cells_of _ 0 [] rfl (hL0.get _ _ (List.mem_cons_of_mem _ (List.mem_cons_of_mem _ List.mem_cons_self)))
 simp only [cellsF, and_true, Nat.zero_add, Nat.reduceAdd] at hN1
 go_wp2_with fail
 clear hN0 hN1
 with_reducible refine Calls.mono (HS2.out (.agg #[.bool (zs hi1.num), .slice g5 (tln hi1.num.natAbs) d5, .slice g6 (tln (fd hi1)) d6]) _ (hKT.out.at (hL0.bl) kKT) (rf_of (hS.get (List.mem_cons_of_mem _ List.mem_cons_self)) (hS.get List.mem_cons_self))) ?_
 rintro e x12 ⟨rfl, hb⟩
 replace hL0 := hL0.call hb
 replace hS := hS.call hb
 clear hb
 go_wp2_with fail
 with_reducible refine Calls.mono (HW.out _ (hKT.out.at hL0.bl kKT)) ?_
 rintro e x13 ⟨rfl, hb⟩
 replace hL0 := hL0.call hb
 replace hS := hS.call hb
 clear hb
 go_wp2_with fail
 exact bodyPost_ret (v := .bool true) (by simp [results, Tryz.results7, go_sem]) rfl ⟨rfl, hL0.bl⟩
end Go.Proofs.YtdkjckiialnpnaaGreatDoor
namespace Go.Proofs.YtdkjckiialnpnaaGreatDoor
open Go.RowKit
def halfQ : Rat := ((1 : Int) : Rat) / ((2 : Int) : Rat)
theorem half_two (x : Rat) : 2 * (x * halfQ) = x := by
 have h : halfQ + halfQ = 1 := by decide +kernel
 grind
theorem cmpQ_le0 {x y : Rat} : cmpQ x y ≤ 0 ↔ x ≤ y := by unfold cmpQ; grind
theorem cmpQ_ge0 {x y : Rat} : 0 ≤ cmpQ x y ↔ y ≤ x := by unfold cmpQ; grind
theorem twoQ_succ (T : Nat) : twoQ (T + 1) = 2 * twoQ T := by
 have h := two_split (p := T) (r := T + 1) (by omega)
 rw [show T + 1 - T = 1 by omega] at h
 have : ((2 ^ 1 : Nat) : Rat) = 2 := rfl
 rw [this] at h; grind
theorem stepR_two (n : Nat) : stepR n = 2 * stepR (n + 1) := by
 have h := step_two (q := n + 1) (by omega)
 rw [Nat.add_sub_cancel] at h
 exact h
/-- The powers that rise: at most k more. -/
def BP (k : Nat) (d : Rat) : Prop := ∃ T, T + k = 34 ∧ d = twoQ T
/-- The powers that fall: at most k more. -/
def BQ (a : Rat) (n : Nat) (k : Nat) (o g : Rat) : Prop := ∃ m j r : Nat, r ≤ k ∧ j + r ≤ 76 ∧ m < 2 ^ j ∧ g = twoQ r * stepR (n + 1) ∧ o = (m : Rat) * (2 * g) ∧ o * o ≤ a ∧ a < (o + 2 * g) * (o + 2 * g)
theorem BP.start : BP 34 ((1 : Int) : Rat) := ⟨0, by omega, rfl⟩
theorem BP.next {a : Rat} (ha : a < ((18446744073709551616 : Nat) : Rat)) {k : Nat} {d : Rat} (h : BP k d) (hd : d * d ≤ a) : ∃ k', k' < k ∧ BP k' (d + d) := by
 obtain ⟨T, h1, rfl⟩ := h
 have h2 : twoQ T * twoQ T = ((2 ^ T * 2 ^ T : Nat) : Rat) := (Rat.natCast_mul _ _).symm
 have h3 : 2 ^ T * 2 ^ T < 18446744073709551616 := Rat.natCast_lt_natCast.1 (by rw [← h2]; exact Std.lt_of_le_of_lt hd ha)
 have h4 : T < 32 := by
  rcases Nat.lt_or_ge T 32 with g | g
  ·exact g
  ·exfalso
   have g1 : 2 ^ 32 ≤ 2 ^ T := Nat.pow_le_pow_right (by decide) g
   have g2 : 2 ^ 32 * 2 ^ 32 ≤ 2 ^ T * 2 ^ T := Nat.mul_le_mul g1 g1
   omega
 refine ⟨k - 1, by omega, T + 1, by omega, ?_⟩
 rw [twoQ_succ]; grind
theorem BP.done {a : Rat} {n : Nat} (hn : n ≤ 40) {k : Nat} {d : Rat} (h : BP k d) (h0 : 0 ≤ a) (hd : a < d * d) : BQ a n 76 0 d := by
 obtain ⟨T, h1, rfl⟩ := h
 have e : twoQ T = twoQ (T + n + 1) * stepR (n + 1) := by
  have g1 := two_split (p := n + 1) (r := T + n + 1) (by omega)
  rw [show T + n + 1 - (n + 1) = T by omega] at g1
  have g2 := stepR_mul (n + 1)
  have g3 : twoQ T = ((2 ^ T : Nat) : Rat) := rfl
  rw [g3, g1]
  generalize ((2 ^ T : Nat) : Rat) = x
  generalize twoQ (n + 1) = y at g2 ⊢
  generalize stepR (n + 1) = z at g2 ⊢
  grind
 have hp := Rat.mul_pos (twoQ_pos T) (twoQ_pos T)
 refine ⟨0, 0, T + n + 1, by omega, by omega, by decide, e, ?_, ?_, ?_⟩
 ·have : ((0 : Nat) : Rat) = 0 := rfl
  rw [this]; grind
 ·grind
 ·generalize twoQ T = d at hd hp ⊢
  grind
theorem BQ.pos {a : Rat} {n k : Nat} {o g : Rat} (h : BQ a n k o g) : 0 < g := by
 obtain ⟨m, j, r, -, -, -, rfl, -⟩ := h
 exact Rat.mul_pos (twoQ_pos _) (stepR_pos _)
theorem BQ.parts {a : Rat} {n k : Nat} {o g : Rat} (h : BQ a n k o g) (hg : stepR n ≤ g) : ∃ m j r : Nat, r + 1 ≤ k ∧ j + (r + 1) ≤ 76 ∧ m < 2 ^ j ∧ g * halfQ = twoQ r * stepR (n + 1) ∧ o = (m : Rat) * (2 * g) ∧ o * o ≤ a ∧ a < (o + 2 * g) * (o + 2 * g) := by
 obtain ⟨m, j, r, h1, h2, h3, h4, h5, h6, h7⟩ := h
 cases r with
 | zero =>
  exfalso
  have g1 : twoQ 0 = 1 := rfl
  have g2 := stepR_pos (n + 1)
  rw [stepR_two, h4, g1] at hg
  grind
 | succ r =>
  refine ⟨m, j, r, h1, h2, h3, ?_, h5, h6, h7⟩
  have g1 := half_two g
  rw [h4, twoQ_succ] at g1 ⊢
  grind
theorem BQ.up {a : Rat} {n k : Nat} {o g : Rat} (h : BQ a n k o g) (hg : stepR n ≤ g) (hx : (o + g) * (o + g) ≤ a) : ∃ k', k' < k ∧ BQ a n k' (o + g) (g * halfQ) := by
 obtain ⟨m, j, r, h1, h2, h3, h4, h5, h6, h7⟩ := h.parts hg
 have g1 := half_two g
 refine ⟨k - 1, by omega, 2 * m + 1, j + 1, r, by omega, by omega, by rw [Nat.pow_succ]; omega, h4, ?_, hx, ?_⟩
 ·rw [g1, h5, Rat.natCast_add, Rat.natCast_mul]
  have e1 : ((1 : Nat) : Rat) = 1 := rfl
  have e2 : ((2 : Nat) : Rat) = 2 := rfl
  rw [e1, e2]; grind
 ·rw [g1]
  rw [show o + g + g = o + 2 * g by grind]
  exact h7
theorem BQ.stay {a : Rat} {n k : Nat} {o g : Rat} (h : BQ a n k o g) (hg : stepR n ≤ g) (hx : a < (o + g) * (o + g)) : ∃ k', k' < k ∧ BQ a n k' o (g * halfQ) := by
 obtain ⟨m, j, r, h1, h2, h3, h4, h5, h6, h7⟩ := h.parts hg
 have g1 := half_two g
 refine ⟨k - 1, by omega, 2 * m, j + 1, r, by omega, by omega, by rw [Nat.pow_succ]; omega, h4, ?_, h6, ?_⟩
 ·rw [g1, h5, Rat.natCast_mul]
  have e2 : ((2 : Nat) : Rat) = 2 := rfl
  rw [e2]; grind
 ·rw [g1]; exact hx
theorem le_of_mul_pos5 {x y c : Rat} (hc : 0 < c) (h : x * c ≤ y * c) : x ≤ y := by
 rcases Std.le_total (a := x) (b := y) with g | g
 ·exact g
 ·rcases Rat.le_iff_lt_or_eq.1 g with g1 | g1
  ·have := mul_lt_pos g1 hc
   grind
  ·rw [g1]; exact Rat.le_refl
theorem below_uniq {a : Rat} {n m : Nat} (h0 : 0 ≤ a) (h1 : (m : Rat) * stepR n * ((m : Rat) * stepR n) ≤ a) (h2 : a < ((m : Rat) * stepR n + stepR n) * ((m : Rat) * stepR n + stepR n)) : (m : Rat) * stepR n = below n a := by
 have e := scale_back n a
 have hs := scale_nn n h0
 have hp := vv_pos n
 unfold below
 generalize hS : scaleR n a = S at e hs ⊢
 rw [e] at h1 h2
 have g1 : (m : Rat) * (m : Rat) ≤ S := le_of_mul_pos5 hp (by rw [← sq_mul]; exact h1)
 have g2 : S < ((m : Rat) + 1) * ((m : Rat) + 1) := by
  rcases Std.le_total (a := ((m : Rat) + 1) * ((m : Rat) + 1)) (b := S) with g | g
  ·exfalso
   have g3 := Rat.mul_le_mul_of_nonneg_right g (Rat.le_of_lt hp)
   grind
  ·rcases Rat.le_iff_lt_or_eq.1 g with g4 | g4
   ·exact g4
   ·exfalso
    rw [g4] at h2
    grind
 have q1 := rtL_max hs g1
 have q2 : rtL S ≤ m := sq_lt_nat (Std.lt_of_le_of_lt (rtL_le hs) g2)
 rw [Nat.le_antisymm q1 q2]
theorem BQ.fin {a : Rat} {n k : Nat} {o g : Rat} (h0 : 0 ≤ a) (h : BQ a n k o g) (hg : g < stepR n) : o = below n a := by
 obtain ⟨m, j, r, h1, h2, h3, h4, h5, h6, h7⟩ := h
 have e : 2 * g = stepR n := by
  cases r with
  | zero =>
   have g1 : twoQ 0 = 1 := rfl
   rw [h4, g1, stepR_two n]; grind
  | succ r =>
   exfalso
   have g1 : (1 : Rat) ≤ twoQ r := by
    have : ((1 : Nat) : Rat) ≤ ((2 ^ r : Nat) : Rat) := Rat.natCast_le_natCast.2 (Nat.one_le_two_pow)
    exact this
   have g2 := Rat.mul_le_mul_of_nonneg_right g1 (Rat.le_of_lt (stepR_pos (n + 1)))
   rw [h4, twoQ_succ, stepR_two n] at hg
   grind
 rw [e] at h5 h7
 rw [h5] at h6 h7 ⊢
 exact below_uniq h0 h6 h7
theorem BP.sz {k : Nat} {d : Rat} (h : BP k d) : Sz d 2 := by
 obtain ⟨T, h1, rfl⟩ := h
 exact two_sz (by omega)
theorem BQ.szg {a : Rat} {n k : Nat} {o g : Rat} (hn : n ≤ 40) (h : BQ a n k o g) : Sz g 5 := by
 obtain ⟨m, j, r, h1, h2, h3, rfl, -⟩ := h
 exact (two_sz (by omega)).mul (stepR_sz (by omega))
theorem BQ.szo {a : Rat} {n k : Nat} {o g : Rat} (hn : n ≤ 40) (h : BQ a n k o g) : Sz o 8 := by
 have hg := h.szg hn
 obtain ⟨m, j, r, h1, h2, h3, h4, rfl, -⟩ := h
 have h5 : m < 2 ^ 100 := Nat.lt_of_lt_of_le h3 (Nat.pow_le_pow_right (by decide) (by omega))
 have h6 : (digs m).length ≤ 2 := digs_length_iff.2 (Nat.lt_of_lt_of_le h5 (by unfold Bs; decide))
 exact (nat_sz h6 (by decide)).mul ((szc 2 (by decide) (by decide)).mul hg)
end Go.Proofs.YtdkjckiialnpnaaGreatDoor
namespace Go.Proofs.YtdkjckiialnpnaaGreatDoor
open Go.RowKit Go.Proofs.YtdkjckiialnpnaaGreatDoor.Rx
theorem dI_i64 {v : Int} (h1 : -9223372036854775808 ≤ v) (h2 : v < 9223372036854775808) : dI v ≤ 1 := digs_length_iff.2 (by unfold Bs; omega)
theorem rzofI (v : Int) (h1 : -9223372036854775808 ≤ v) (h2 : v < 9223372036854775808) (w : World) : Calls Tryz.prog 129 #[.int .i64 v] w fun e w' => ∃ u, e = .returned u ∧ RZ w' u v ∧ Below w.heap.size w w' := by
 by_cases h : v < 0
 ·exact rzof_neg v (v + 1) (-(v + 1)) (-(v + 1)) (-v) v v.natAbs (fun w => rof_val (-v) v.natAbs (by omega) (by omega) w) (rz_from true v.natAbs v (by simp [h]; omega) rfl)
   (decide_eq_true h) (by simp [IntKind.wrap, IntKind.signed, IntKind.bits]; omega) (by simp [IntKind.wrap, IntKind.signed, IntKind.bits]; omega) (by simp [IntKind.wrap, IntKind.signed, IntKind.bits]; omega) (by simp [IntKind.wrap, IntKind.signed, IntKind.bits]; omega) w
 ·exact rzof_pos v v v v.natAbs (fun w => rof_val v v.natAbs (by omega) (by omega) w) (rz_from false v.natAbs v (by simp [h]) rfl) (decide_eq_false h) (by simp [IntKind.wrap, IntKind.signed, IntKind.bits]; omega) w
theorem rintR (v : Int) (h1 : -9223372036854775808 ≤ v) (h2 : v < 9223372036854775808) (w : World) : Calls Tryz.prog 151 #[.int .i64 v] w fun e w' => ∃ u, e = .returned u ∧ RF w' u (v : Rat) ∧ Below w.heap.size w w' :=
 rint_w v (v : Rat) (fun w => by rw [Rat.num_intCast]; exact rzofI v h1 h2 w) (by unfold fd; rw [Rat.den_intCast]) w
theorem rofR (n d : Int) (a1 : -9223372036854775808 ≤ n) (a2 : n < 9223372036854775808) (b1 : -9223372036854775808 ≤ d) (b2 : d < 9223372036854775808) (h0 : d ≠ 0) (w : World) :
  Calls Tryz.prog 70 #[.int .i64 n, .int .i64 d] w fun e w' => ∃ u, e = .returned u ∧ RF w' u ((n : Rat) / (d : Rat)) ∧ Below w.heap.size w w' :=
 r5of_w n d (n : Rat) (d : Rat) _ (rintR n a1 a2) (rintR d b1 b2) (fun v1 v2 w g1 g2 => rdivF (n : Rat) (d : Rat) (k := 1) (Sz.int (dI_i64 a1 a2) (by decide)) (Sz.int (dI_i64 b1 b2) (by decide)) (fun e => h0 (by have := congrArg Rat.num e; rwa [Rat.num_intCast] at this)) (by decide) v1 v2 w g1 g2) w
theorem rhalfR (w : World) : Calls Tryz.prog 70 #[.int .i64 1, .int .i64 2] w fun e w' => ∃ u, e = .returned u ∧ RF w' u halfQ ∧ Below w.heap.size w w' := rofR 1 2 (by decide) (by decide) (by decide) (by decide) (by decide) w
theorem half_sz : Sz halfQ 1 := szc _ (by decide +kernel) (by decide +kernel)
theorem rsquareR (q : Rat) {k : Nat} (hq : Sz q k) (hk : k ≤ 90) (v : Value) (w : World) (h : RF w v q) :
  Calls Tryz.prog 107 #[v] w fun e w' => ∃ u, e = .returned u ∧ RF w' u (q * q) ∧ Below w.heap.size w w' :=
 rsquare_w q (q * q) (fun v1 v2 w g1 g2 => rmul q q hq hq hk v1 v2 w g1 g2) v w h
theorem cmpQ_eq0 (x y : Rat) : (cmpQ x y == 0) = decide (x = y) := by unfold cmpQ; grind
theorem rsameR (p q : Rat) {k : Nat} (hp : Sz p k) (hq : Sz q k) (hk : k ≤ 90) (v1 v2 : Value) (w : World) (h1 : RF w v1 p) (h2 : RF w v2 q) :
  Calls Tryz.prog 106 #[v1, v2] w fun e w' => e = .returned (.bool (decide (p = q))) ∧ Below w.heap.size w w' :=
 rsame_w p q (cmpQ p q) _ (fun v1 v2 w g1 g2 => rcmp p q hp hq hk v1 v2 w g1 g2) (cmpQ_eq0 p q) v1 v2 w h1 h2
theorem qrefR (n d : Int) (a1 : -9223372036854775808 ≤ n) (a2 : n < 9223372036854775808) (b1 : 0 ≤ d) (b2 : d < 4294967296) (w : World) :
  Calls Tryz.prog 18 #[.agg #[.int .i64 n, .int .u32 d]] w fun e w' => ∃ u, e = .returned u ∧ RF w' u (qmade n d.toNat) ∧ Below w.heap.size w w' := by
 by_cases h : d = 0
 ·subst h
  have e : (n : Rat) / ((1 : Int) : Rat) = qmade n 0 := by rw [← of_val_q n 1 (by decide)]; rfl
  have hF := fun w => rofR n 1 a1 a2 (by decide) (by decide) (by decide) w
  rw [e] at hF
  exact qref_zero n _ hF (by decide) w
 ·have e : (n : Rat) / (d : Rat) = qmade n d.toNat := by
   rw [← of_val_q n d h]
   unfold qmade
   rw [if_neg (by omega), if_neg (by omega), show d.natAbs = d.toNat by omega]
  have hF := fun w => rofR n d a1 a2 (by omega) (by omega) h w
  rw [e] at hF
  exact qref_pos n d _ hF (by omega) (IntWalk.i64_in _ (by omega)) w
theorem stepC (n : Nat) (hn : n ≤ 100) (w : World) : Calls Tryz.prog 109 #[.int .i64 (n : Int)] w fun e w' => ∃ u, e = .returned u ∧ RF w' u (stepR n) ∧ Below w.heap.size w w' :=
 rstep_w n stepR ((1 : Int) : Rat) halfQ (stepR n) (rintR 1 (by decide) (by decide)) rhalfR (by decide +kernel) rfl (by omega) (fun i q r hi hq hr => by
  subst hq
  have e : r = stepR i * halfQ := by
   rw [hr]
   have g1 := half_two (stepR i)
   have g2 := stepR_two i
   grind
  subst e
  exact fun v1 v2 w g1 g2 => rmul (stepR i) halfQ (k := 3) (stepR_sz (by omega)) (half_sz.mono (by decide)) (by decide) v1 v2 w g1 g2) w
theorem belowC (a : Rat) (n : Nat) (hn : n ≤ 40) (h0 : 0 ≤ a) (ha : a < ((18446744073709551616 : Nat) : Rat)) (sa : Sz a 1) (v : Value) (w : World) (h : RF w v a) :
  Calls Tryz.prog 105 #[v, .int .i64 (n : Int)] w fun e w' => ∃ u, e = .returned u ∧ RF w' u (below n a) ∧ Below w.heap.size w w' := by
 refine rbelow_w n a ((1 : Int) : Rat) (stepR n) halfQ (below n a) BP (BQ a n) 34 76 (rintR 1 (by decide) (by decide)) (stepC n (by omega)) rhalfR BP.start ?_ ?_ ?_ ?_ ?_ ?_ ?_ ?_ ?_ ?_ ?_ ?_ ?_ v w h
 ·intro k d y hP ey; subst ey
  exact fun v w g => rsquareR d hP.sz (by decide) v w g
 ·intro k d y i hP ey ei; subst ey; subst ei
  exact fun v1 v2 w g1 g2 => rcmp (d * d) a (hP.sz.mul hP.sz) (sa.mono (by decide)) (by decide) v1 v2 w g1 g2
 ·intro k d y i z hP ey ei hi ez; subst ez
  exact fun v1 v2 w g1 g2 => radd d d hP.sz hP.sz (by decide) v1 v2 w g1 g2
 ·intro k d y i z hP ey ei hi ez; subst ey; subst ei; subst ez
  exact hP.next ha (cmpQ_le0.1 hi)
 ·intro k d y i hP ey ei hi; subst ey; subst ei
  exact hP.done hn h0 (by
   have := fun g => hi (cmpQ_le0.2 g)
   grind)
 ·intro k o g i hP ei; subst ei
  exact fun v1 v2 w g1 g2 => rcmp g (stepR n) (hP.szg hn) ((stepR_sz (by omega)).mono (by decide)) (by decide) v1 v2 w g1 g2
 ·intro k o g i x hP ei hi ex; subst ex
  exact fun v1 v2 w g1 g2 => radd o g (hP.szo hn) ((hP.szg hn).mono (by decide)) (by decide) v1 v2 w g1 g2
 ·intro k o g i x y hP ei hi ex ey; subst ey; subst ex
  exact fun v w g1 => rsquareR (o + g) ((hP.szo hn).add (hP.szg hn)) (by decide) v w g1
 ·intro k o g i x y j hP ei hi ex ey ej; subst ej; subst ey; subst ex
  have s := (hP.szo hn).add (hP.szg hn)
  exact fun v1 v2 w g1 g2 => rcmp ((o + g) * (o + g)) a (s.mul s) (sa.mono (by decide)) (by decide) v1 v2 w g1 g2
 ·intro k o g i z hP ei hi ez; subst ez
  exact fun v1 v2 w g1 g2 => rmul g halfQ (hP.szg hn) (half_sz.mono (by decide)) (by decide) v1 v2 w g1 g2
 ·intro k o g x i y j z hP ei hi ex ey ej hj ez; subst ez; subst ej; subst ey; subst ex; subst ei
  exact hP.up (cmpQ_ge0.1 hi) (cmpQ_le0.1 hj)
 ·intro k o g x i y j z hP ei hi ex ey ej hj ez; subst ez; subst ej; subst ey; subst ex; subst ei
  exact hP.stay (cmpQ_ge0.1 hi) (by
   have := fun g => hj (cmpQ_le0.2 g)
   grind)
 ·intro k o g i hP ei hi; subst ei
  exact hP.fin h0 (by
   have := fun g => hi (cmpQ_ge0.2 g)
   grind)
theorem mayC (n : Int) (q : Rat) (v : Value) (w : World) (h : RF w v q) :
  Calls Tryz.prog 104 #[v, .int .i64 n] w fun e w' => e = .returned (.int .i64 (rtC n q)) ∧ Below w.heap.size w w' := by
 rcases rtC_cases n q with ⟨h1, hc⟩ | ⟨h1, h2, hc⟩ | ⟨h1, h2, h3, hc⟩ | ⟨h1, h2, h3, hc⟩
 ·rw [hc]; exact rmay_neg n q (decide_eq_true h1) v w h
 ·rw [hc]; exact rmay_big n q (decide_eq_false (by omega)) (decide_eq_true h2) v w h
 ·rw [hc]; exact rmay_sgn n (sgnQ q) q (rsign q) (decide_eq_false (by omega)) (decide_eq_false (by omega)) (by rw [sgn_neg']; exact decide_eq_true h3) v w h
 ·rw [hc]; exact rmay_ok n (sgnQ q) q (rsign q) (decide_eq_false (by omega)) (decide_eq_false (by omega)) (by rw [sgn_neg']; exact decide_eq_false (by grind)) v w h
theorem bothC (n : Int) (hn : n ≤ 40 ∨ 100 < n) (q : Rat) (hq : q < ((18446744073709551616 : Nat) : Rat)) (sq : Sz q 1) (v : Value) (w : World) (h : RF w v q) :
  Calls Tryz.prog 38 #[v, .int .i64 n] w fun e w' => ∃ v0 v1, e = .returned (.tuple #[v0, v1, .int .i64 (rtC n q)]) ∧ RF w' v0 (rtV below n q) ∧ RF w' v1 (rtV above n q) ∧ Below w.heap.size w w' := by
 by_cases hc : rtC n q = 0
 ·rcases rtC_cases n q with ⟨h1, hd⟩ | ⟨h1, h2, hd⟩ | ⟨h1, h2, h3, hd⟩ | ⟨h1, h2, h3, hd⟩
  ·omega
  ·omega
  ·omega
  ·obtain ⟨p, rfl⟩ := Int.eq_ofNat_of_zero_le h1
   have hp : p ≤ 40 := by omega
   have e1 := rtV_ok below (p := p) (by omega) h3
   have e2 := rtV_ok above (p := p) (by omega) h3
   have HM := mayC (p : Int) q
   have HB := belowC q p hp h3 hq sq
   have sb := below_sz (p := p) sq (by omega)
   have HQ := rsquareR (below p q) sb (by decide)
   have HE := rsameR (below p q * below p q) q (sb.mul sb) (sq.mono (by decide)) (by decide)
   rw [hd] at HM
   rw [e1.1, e2.1, hd]
   by_cases hs : below p q * below p q = q
   ·rw [decide_eq_true hs] at HE
    have := rboth_same (p : Int) q (below p q) _ HM HB HQ HE v w h
    rwa [below_above p |>.2 hs] at this ⊢
   ·rw [decide_eq_false hs] at HE
    have g := below_gap p hs
    have HA := fun v1 v2 w g1 g2 => radd (below p q) (stepR p) sb ((stepR_sz (by omega)).mono (by decide)) (by decide) v1 v2 w g1 g2
    rw [show below p q + stepR p = above p q by grind] at HA
    exact rboth_not (p : Int) q (below p q) _ (stepR p) (above p q) HM HB HQ HE (stepC p (by omega)) HA v w h
 ·have e (r : Nat → Rat → Rat) : rtV r n q = 0 := by unfold rtV; rw [if_neg hc]
  rw [e, e]
  exact rboth_err n (rtC n q) q (mayC n q) (by simpa using hc) v w h
theorem qmade_lt (n : Int) (d : Nat) (h2 : n < 9223372036854775808) : qmade n d < ((18446744073709551616 : Nat) : Rat) := by
 unfold qmade
 generalize hk : (if d < 1 then 1 else d) = k
 have h0 : 0 < k := by rw [← hk]; split <;> omega
 rw [Rat.mkRat_eq_div]
 have hp : (0 : Rat) < (k : Rat) := Rat.natCast_pos.2 h0
 have h1 : ((1 : Nat) : Rat) ≤ (k : Rat) := Rat.natCast_le_natCast.2 h0
 have e1 : ((1 : Nat) : Rat) = 1 := rfl
 rw [e1] at h1
 rw [Rat.div_lt_iff hp]
 have h3 : ((n : Int) : Rat) < ((18446744073709551616 : Int) : Rat) := Rat.intCast_lt_intCast.2 (by omega)
 have h4 : ((18446744073709551616 : Int) : Rat) = ((18446744073709551616 : Nat) : Rat) := rfl
 rw [h4] at h3
 have h5 : (0 : Rat) ≤ ((18446744073709551616 : Nat) : Rat) := Rat.natCast_nonneg
 have h6 := Rat.mul_le_mul_of_nonneg_left h1 h5
 rw [Rat.mul_one] at h6
 exact Std.lt_of_lt_of_le h3 h6
theorem rboth_any (nx dx n : Int) (ax : -9223372036854775808 ≤ nx ∧ nx < 9223372036854775808) (bx : 0 ≤ dx ∧ dx < 4294967296) (hn : -9223372036854775808 ≤ n ∧ n < 9223372036854775808) (w : World) (htab : Tab w) :
  Calls Tryz.prog 7 #[.agg #[.int .i64 nx, .int .u32 dx], .int .i64 n] w fun xe w' => xe = .returned (.bool true) ∧ Below w.heap.size w w' := by
 by_cases hm : 40 < n ∧ n ≤ 100
 ·exact rboth_out nx dx n Tab Keeps.tab rworksR (decide_eq_true hm.1) (decide_eq_true hm.2) w htab
 ·have G1 := fun w => qof_any nx dx ax.1 ax.2 bx.1 bx.2 w
  have GR := fun w => qrefR nx dx ax.1 ax.2 bx.1 bx.2 w
  have sa := qmade_sz nx dx.toNat ax.1 ax.2 (by omega)
  have la := qmade_lt nx dx.toNat ax.2
  generalize qmade nx dx.toNat = a at *
  have HB := fun w => belowR a n 1 sa (by omega) w
  have HC := fun w => aboveR a n 1 sa (by omega) w
  have HD := bothC n (by omega) a la sa
  have s1 : Sz (rtV below n a) 8 := by
   unfold rtV
   split
   ·rename_i hc
    rcases rtC_cases n a with ⟨h1, hd⟩ | ⟨h1, h2, hd⟩ | ⟨h1, h2, h3, hd⟩ | ⟨h1, h2, h3, hd⟩ <;> first | omega | exact (below_sz sa (by omega)).mono (by omega)
   ·exact (szc 0 (by decide) (by decide)).mono (by omega)
  have s2 : Sz (rtV above n a) 8 := by
   unfold rtV
   split
   ·rename_i hc
    rcases rtC_cases n a with ⟨h1, hd⟩ | ⟨h1, h2, hd⟩ | ⟨h1, h2, h3, hd⟩ | ⟨h1, h2, h3, hd⟩ <;> first | omega | exact (above_sz sa (by omega)).mono (by omega)
   ·exact (szc 0 (by decide) (by decide)).mono (by omega)
  have S1 := fun v w ht h => sameF (rtV below n a) s1 (by decide) v w ht h
  have S2 := fun v w ht h => sameF (rtV above n a) s2 (by decide) v w ht h
  by_cases h40 : 40 < n
  ·exact rboth_great nx dx n (rtC n a) a _ _ G1 HB HC GR HD Tab Keeps.tab S1 S2 rworksR (decide_eq_true h40) (decide_eq_false (by omega)) w htab
  ·exact rboth_in nx dx n (rtC n a) a _ _ G1 HB HC GR HD Tab Keeps.tab S1 S2 rworksR (decide_eq_false h40) w htab
end Go.Proofs.YtdkjckiialnpnaaGreatDoor
