/-
  The reference of layer 1, walks M: Div.
-/
import Derived.Test.YtgmmfaclchoigaaDoorRn
import Derived.Laws.AppendOwnNone
set_option linter.unusedVariables false
set_option linter.unusedSimpArgs false
namespace Go.Proofs.YtgmmfaclchoigaaDoor.Rx
open Go.RowKit
attribute [local irreducible] tv dg cmpI txt decB nb isq

theorem add_add (a : Addr) (i j : Nat) : (a.add i).add j = a.add (i + j) := by
  unfold Addr.add
  by_cases h : i = 0
  · subst h; simp
  · by_cases h2 : j = 0
    · subst h2; simp [h]
    · simp [h, h2, Nat.add_assoc]
theorem small_len {k : Nat} (hk : k ≤ 9999) : (td k).length ≤ 1 := td_length.2 (by rw [Nat.pow_one]; omega)
theorem own_one (w : World) (x : Int) : (w.alloc (.cells #[.int .i64 x] 3)).ownsRow w.heap.size 3 1 (.slice (some ⟨w.heap.size, 0, none⟩) 1 1) 1 [.int .i64 x] :=
  ⟨rfl, .inr ⟨w.heap.size, 1, #[.int .i64 x], rfl, Nat.le_refl _, heap_alloc_new w _, Nat.le_refl _, by unfold maxLen; omega, rfl, rfl⟩⟩

theorem slice_from (w : World) (aA : Addr) (L ca i1 : Nat) (h : i1 ≤ L) (hc : L ≤ ca) :
    (Instr.slice 29 (.slice (some aA) L ca) (some (.int .i64 (i1 : Int))) none none).run Tryd.prog w = .ok (.slice (some (if ca = i1 then aA else aA.add i1)) (L - i1) (ca - i1)) w := by
  obtain ⟨i0, hi, hz0, hz1, hz2⟩ := info_parts Tryd.infoI
  have h1 : (0 : Int) ≤ (i1 : Int) := by omega
  have h2 : (i1 : Int) ≤ (L : Int) := by omega
  by_cases hh : ca = i1
  · simp [Instr.slice, Instr.sliceBounds, run_underlying Tryd.underlying29, run_sliceBound, h1, h2, hh, go_sem] <;> rfl
  · simp [Instr.slice, Instr.sliceBounds, run_underlying Tryd.underlying29, run_sliceBound, h1, h2, hh, go_sem] <;> rfl
theorem made2 (w : World) (o : Obj) : ((w.alloc o).alloc (.cells #[] 3)).ownsRow (w.heap.size + 1) 3 1 (.slice (some ⟨w.heap.size + 1, 0, none⟩) 0 0) 0 [] := by
  have h := World.ownsRow_made (base := w.heap.size + 1) (e := 3) (size := 1) (w.alloc o) #[] 0 (by rw [World.size_alloc]; exact Nat.le_refl _) (Nat.zero_le _) rfl
  rwa [World.size_alloc] at h
/-- trim leaves the block that its argument looks into. -/
theorem trim_blk (v : Value) (l : List Nat) (hd : ∀ d ∈ l, d < 10000) (hB : l.length < 9223372036854775807) (w : World) (h : Sl w v l) :
    Calls Tryd.prog 48 #[v] w fun e w' => ∃ v', e = .returned v' ∧ Sl w v' (td (tv l)) ∧ v'.ownBlock = v.ownBlock ∧ w = w' := by
  obtain ⟨z, hz⟩ := td_tv hd
  rcases h with ⟨ao, c, rfl, rfl, hc0⟩ | ⟨a, c, rfl, h2, h3⟩
  · refine (trim_nil ao c w).mono ?_
    rintro e w' ⟨rfl, rfl⟩
    exact ⟨_, rfl, .inl ⟨ao, c, rfl, by rw [tv_nil, td_zero], hc0⟩, rfl, rfl⟩
  · have hlen : l.length = (td (tv l)).length + z := by
      have := congrArg List.length hz
      rwa [List.length_append, List.length_replicate] at this
    rw [hz] at h3
    rw [hlen] at h2 hB ⊢
    refine (trim_row a c _ z (td (tv l)) rfl h2 hB (fun h => td_last h) w h3).mono ?_
    rintro e w' ⟨rfl, rfl⟩
    exact ⟨_, rfl, .inr ⟨a, c, rfl, by omega, h3.left⟩, rfl, rfl⟩
theorem Sl.set_off {w : World} {v : Value} {l : List Nat} {g k : Nat} {u : Value} (h : Sl w v l) (ho : v.ownBlock ≠ some g) : Sl (w.setCell ⟨g, k, none⟩ u) v l := by
  rcases h with h | ⟨a, c, rfl, h2, h3⟩
  · exact .inl h
  · have hne : a.block ≠ g := fun e => ho (by rw [← e]; rfl)
    refine .inr ⟨a, c, rfl, h2, fun i hi => ?_, ?_⟩
    · rw [← h3.cell i hi]
      exact World.cell?_of_block (by rw [addB]; exact Below.heap_setCell _ _ _ _ hne)
    · have := h3.blk
      simpa [World.setCell] using this
theorem wpList_append_sl {w : World} {ops : Array Oper} {rest : List Oper} {o : Oper} {a : Act} {Q : Exit → Act → World → Prop} (hgd : o.guard = none) (s x : Operand)
    (ho : o.op = .call { callee := .builtin .append, args := #[s, x], argTypes := #[29, 29] })
    (base : Nat) (v : Value) (n : Nat) (xs : List Value) (hs : a.eval s = v) (hown : w.ownsRow base 3 1 v n xs)
    (v2 : Value) (l : List Nat) (hx : a.eval x = v2) (hsl : Sl w v2 l) (hn : n + l.length ≤ 1000000) (hbase : base ≤ w.heap.size)
    (h : ∀ v' w', w'.ownsRow base 3 1 v' (n + l.length) (xs ++ l.map iv) → w.grownBy w' v.ownBlock → wpList Tryd.prog ops Q rest (a.put o.dst v') w') : wpList Tryd.prog ops Q (o :: rest) a w := by
  obtain ⟨i0, hi, hz0, hz1, hz2⟩ := info_parts Tryd.infoI
  rcases hsl.src with ⟨e, rfl⟩ | ⟨ad, c, e, hnews⟩
  · rw [e] at hx
    refine wpList_append_own_none hgd s x _ ho base 3 i0 1 Tryd.underlying29 hi v n xs hs hown hx (h v w ?_ ⟨rfl, rfl, rfl, Nat.le_refl _, fun _ _ _ => rfl⟩)
    simpa using hown
  · rw [e] at hx
    exact wpList_append_own w hgd s x _ ho base 3 i0 (.int .i64 0) 1 8 Tryd.underlying29 hi hz0 hz1 hz2 rfl (by decide) v n xs hs hown ad l.length c (l.map iv) hx (by rw [List.length_map, Nat.mul_one]) hnews
      (fun u hu => by obtain ⟨y, -, rfl⟩ := List.mem_map.1 hu; rfl) (by unfold maxLen; omega) (by omega) hbase fun v' w' h1 h2 _ => h v' w' h1 h2
set_option maxHeartbeats 4000000 in
set_option maxRecDepth 100000 in
theorem rdiv_small (va vb : Value) (a b : Nat) (hab : a < b) (la : (td a).length ≤ 1000) (lb : (td b).length ≤ 1000) (w : World) (ha : Rn w va a) (hb : Rn w vb b) :
    Calls Tryd.prog 26 #[va, vb] w fun e w' => e = .returned (.tuple #[.slice none 0 0, va]) ∧ Below w.heap.size w w' := by
  have C := rcmp_any va vb a b (by omega) (by omega) w ha hb
  rw [cmpI_lt hab] at C
  replace C := Lib.hid C
  clear ha hb hab
  go_enter Tryd.func26, Tryd.ntmps26
  go_wp2_with fail
  with_reducible refine Calls.mono C.out ?_
  rintro e w1 ⟨rfl, hb1⟩
  go_wp2_with fail
  exact bodyPost_ret (v := .tuple #[.slice none 0 0, va]) (by simp [results, Tryd.results26, go_sem]) rfl ⟨rfl, hb1⟩

set_option maxHeartbeats 8000000 in
set_option maxRecDepth 100000 in
theorem rdiv_big (va vb : Value) (a b : Nat) (hab : b ≤ a) (hb0 : 0 < b) (la : (td a).length ≤ 1000) (w : World) (ha : Rn w va a) (hb : Rn w vb b) :
    Calls Tryd.prog 26 #[va, vb] w fun e w' => ∃ v1 v2, e = .returned (.tuple #[v1, v2]) ∧ Rn w' v1 (a / b) ∧ Rn w' v2 (a % b) ∧ Below w.heap.size w w' := by
  obtain ⟨i0, hi, hz0, hz1, hz2⟩ := info_parts Tryd.infoI
  obtain ⟨ao, ca, ea, hva⟩ := ha.view
  obtain ⟨bo, cb, eb⟩ := hb.form
  subst ea eb
  have lb := Nat.le_trans (td_mono hab) la
  have hML := td_mono hab
  obtain ⟨i1, hi1, hst⟩ := DivS.start hab hb0
  have hM0 : 0 < (td b).length := by
    rcases Nat.eq_zero_or_pos (td b).length with h | h
    · have := td_nil.1 (List.eq_nil_of_length_eq_zero h); omega
    · exact h
  have hAlt := td_lt a
  obtain ⟨F, hF⟩ : ∃ F, F = (td b).length - 3 := ⟨_, rfl⟩
  have hdrop := td_drop b F
  have ht0 : 0 < b / 10000 ^ F := by
    refine Nat.pos_of_ne_zero fun h => ?_
    rw [h, td_zero] at hdrop
    have := congrArg List.length hdrop
    rw [List.length_drop, List.length_nil] at this
    omega
  have Le := Lib.hid (fun (wx : World) (hh : Rn wx (.slice bo (td b).length cb) b) => rleading_any (.slice bo (td b).length cb) (td b) F (td_lt b) (by omega) (by omega) wx hh)
  rw [hdrop, tv_td] at Le
  have htb : b / 10000 ^ F < 1000000000000 := by
    have h1 : (td (b / 10000 ^ F)).length ≤ 3 := by rw [← hdrop, List.length_drop]; omega
    exact Nat.lt_of_lt_of_le (td_length.1 h1) (by decide)
  have C := Lib.hid (fun (wx : World) (h1 : Rn wx (.slice ao (td a).length ca) a) (h2 : Rn wx (.slice bo (td b).length cb) b) => rcmp_any _ _ a b (by omega) (by omega) wx h1 h2)
  have hcw : decide (cmpI a b < 0) = false := decide_eq_false (by unfold cmpI; split <;> (try split) <;> omega)
  generalize cmpI a b = z at *
  obtain ⟨t, ht⟩ : ∃ t, t = b / 10000 ^ F := ⟨_, rfl⟩
  rw [← ht] at Le ht0 htb
  -- the search for a digit
  have low := fun y => lead_low (y := y) ht
  have high := fun y => lead_high (y := y) ht ht0
  have lead := Lib.hid (fun (v : Value) (y : Nat) (hy : y < 10000 * b) (wx : World) (hv : Rn wx v y) => rleading_any v (td y) F (td_lt y) (by omega) (by
    have h1 : (td y).length ≤ (td b).length + 1 := td_length.2 (by
      have := td_length.1 (Nat.le_refl (td b).length)
      rw [Nat.pow_succ]; omega)
    omega) wx hv)
  have fb : ∀ y, y < 10000 * b → y / 10000 ^ F < 20000000000000000 := fun y hy => by
    have hp : 0 < 10000 ^ F := Nat.pow_pos (by omega)
    have h1 : b < 10000 ^ F * (t + 1) := by
      have := Nat.lt_mul_div_succ b hp
      rwa [← ht] at this
    refine (Nat.div_lt_iff_lt_mul hp).2 ?_
    have h2 : 10000 * b < 10000 * (10000 ^ F * (t + 1)) := Nat.mul_lt_mul_of_pos_left h1 (by omega)
    have h3 : 10000 ^ F * (t + 1) ≤ 10000 ^ F * 1000000000000 := Nat.mul_le_mul_left _ (by omega)
    generalize 10000 ^ F * (t + 1) = p at *
    generalize 10000 ^ F = q at *
    omega
  have MB := Lib.hid (fun (k : Nat) (hk : k ≤ 9999) (vx : Value) (wx : World) (h1 : Rn wx (.slice bo (td b).length cb) b) (h2 : Rn wx vx k) => rmul_any (.slice bo (td b).length cb) vx b k (by omega) (Nat.le_trans (small_len hk) (by omega)) wx h1 h2)
  have hbk : ∀ k, k ≤ 9999 → (td (b * k)).length ≤ 1001 := fun k hk => Nat.le_trans (td_mul_le lb (small_len hk)) (by omega)
  have hyl : ∀ y, y < 10000 * b → (td y).length ≤ 1001 := fun y hy => by
    have h1 : (td y).length ≤ (td b).length + 1 := td_length.2 (by
      have := td_length.1 (Nat.le_refl (td b).length)
      rw [Nat.pow_succ]; omega)
    omega
  have CM := Lib.hid (fun (k : Nat) (hk : k ≤ 9999) (y : Nat) (hy : y < 10000 * b) (vx vy : Value) (wx : World) (h1 : Rn wx vx (b * k)) (h2 : Rn wx vy y) => rcmp_any vx vy (b * k) y (Nat.le_trans (hbk k hk) (by omega)) (Nat.le_trans (hyl y hy) (by omega)) wx h1 h2)
  have SB := Lib.hid (fun (k y : Nat) (hy : y < 10000 * b) (hle : b * k ≤ y) (vx vy : Value) (wx : World) (h1 : Rn wx vy y) (h2 : Rn wx vx (b * k)) => rsub_any vy vx y (b * k) (Nat.le_trans (hyl y hy) (by omega)) hle wx h1 h2)
  have hTR : ∀ (x y r : Nat) (hy : y = x + 10000 * r) (hx : x < 10000) (hyb : y < 10000 * b) (v : Value) (wx : World), Sl wx v (x :: td r) → Calls Tryd.prog 48 #[v] wx fun e w' => ∃ v', e = .returned v' ∧ Rn w' v' y ∧ v'.ownBlock = v.ownBlock ∧ wx = w' := fun x y r hy hx hyb v wx hv => by
    have h1 : tv (x :: td r) = y := by rw [tv_cons, tv_td, hy]
    have h2 : (td r).length ≤ 1001 := Nat.le_trans (td_mono (show r ≤ y by omega)) (hyl y hyb)
    have := trim_blk v (x :: td r) (fun d hd => by
      rcases List.mem_cons.1 hd with rfl | hd
      · exact hx
      · exact td_lt r d hd) (by rw [List.length_cons]; omega) wx hv
    rw [h1] at this
    refine Calls.mono this ?_
    rintro e w' ⟨v', rfl, h, h', rfl⟩
    exact ⟨v', rfl, h, h', rfl⟩
  replace hTR := Lib.hid hTR
  clear hbk hyl hdrop ht
  obtain ⟨L, hL⟩ : ∃ L, L = (td a).length := ⟨_, rfl⟩
  obtain ⟨M, hM⟩ : ∃ M, M = (td b).length := ⟨_, rfl⟩
  rw [← hL] at la ha hva C hi1 hML ⊢
  rw [← hM] at lb hb C Le MB hi1 hM0 hF hML ⊢
  obtain ⟨aA, rfl, hca, hsd⟩ := hva (by omega)
  have hsd := Lib.hid hsd
  obtain ⟨ad, had⟩ : ∃ ad, ad = (if ca = i1 then aA else aA.add i1) := ⟨_, rfl⟩
  obtain ⟨r0, hr0⟩ : ∃ r0, r0 = a / 10000 ^ i1 := ⟨_, rfl⟩
  have htr : (td a).drop i1 = td r0 := by rw [hr0, td_drop]
  have hmk : ∀ w, (Instr.makeSlice 29 (.int .i64 (i1 : Int)) (.int .i64 (i1 : Int))).run Tryd.prog w = .ok (.slice (some ⟨w.heap.size, 0, none⟩) i1 i1) (w.alloc (zobjI i1)) :=
    fun w => makeN w _ i1 rfl (by omega)
  have hsf : ∀ w, (Instr.slice 29 (.slice (some aA) L ca) (some (.int .i64 (i1 : Int))) none none).run Tryd.prog w = .ok (.slice (some ad) (L - i1) (ca - i1)) w :=
    fun w => by rw [had]; exact slice_from w aA L ca i1 (by omega) hca
  have hsr : ∀ wx, Below w.heap.size w wx → Sl wx (.slice (some ad) (L - i1) (ca - i1)) (td r0) := by
    intro wx hbx
    have hlr : (td r0).length = L - i1 := by rw [← htr, List.length_drop, ← hL]
    by_cases hz : L = i1
    · exact .inl ⟨some ad, ca - i1, by rw [hz, Nat.sub_self], List.eq_nil_of_length_eq_zero (by rw [hlr, hz, Nat.sub_self]), fun h => by simp at h⟩
    · have hne : ca ≠ i1 := by omega
      rw [if_neg hne] at had
      refine .inr ⟨ad, ca - i1, by rw [hlr], by omega, fun j hj => ?_, ?_⟩
      · have hjl : i1 + j < (td a).length := by omega
        have := (hsd.out.below hbx).cell (i1 + j) hjl
        rw [had, add_add, this]
        congr 3
        simp only [← htr, List.getElem_drop]
      · rw [had, addB]; exact (hsd.out.below hbx).blk
  have hLM : (L : Int) - (M : Int) + 1 = (i1 : Int) := by omega
  obtain ⟨m1, hm1⟩ : ∃ m1, m1 = L - i1 := ⟨_, rfl⟩
  have hLi : L - i1 = m1 := hm1.symm
  have hm1b : m1 ≤ 1000 := by omega
  have hiL : (i1 : Int) ≤ (L : Int) := by omega
  have hi0 : (1 : Int) ≤ (i1 : Int) := by omega
  have hm1' := Lib.hid (show m1 = L - i1 ∧ i1 + M = L + 1 ∧ M ≤ L from ⟨hm1, hi1, by omega⟩)
  clear hm1
  have hmax : max (0 : Int) ((M : Int) - 3) = (F : Int) := by omega
  replace ha := Lib.hid ha
  replace hb := Lib.hid hb
  have hm1r : (td r0).length = m1 := by rw [← htr, List.length_drop, ← hL, hLi]
  rw [htr, tv_td] at hst
  rw [hLi] at hsr
  replace hst := Lib.hid hst
  replace hsr := Lib.hid hsr
  replace htr := Lib.hid htr
  replace hr0 := Lib.hid hr0
  replace hca := Lib.hid hca
  replace had := Lib.hid had
  clear hva
  replace hL := Lib.hid hL
  replace hM := Lib.hid hM
  replace hAlt := Lib.hid hAlt
  replace low := Lib.hid low
  replace high := Lib.hid high
  replace fb := Lib.hid fb
  have hi1' := Lib.hid hi1
  have hF' := Lib.hid hF
  have k1 : (M : Int) ≤ (L : Int) := by omega
  clear hi1 hF
  go_enter Tryd.func26, Tryd.ntmps26
  go_wp2_with fail
  with_reducible refine Calls.mono (C.out _ ha.out hb.out) ?_
  rintro e w1 ⟨rfl, hb1⟩
  go_wp2_with fail
  with_reducible refine Calls.mono (Le.out _ (hb.out.below hb1)) ?_
  rintro e w2 ⟨rfl, rfl⟩
  have hD0 := ((hb1.alloc hb1.size (zobjI i1)).alloc (by rw [World.size_alloc]; have := hb1.size; omega) (.cells #[] 3))
  have hr0S := Lib.hid (hsr.out _ hD0)
  have hm1r' : 0 + (td r0).length ≤ 1000000 := by omega
  replace hD0 := Lib.hid hD0
  replace hm1r' := Lib.hid hm1r'
  go_wp2_with (at_builtin; refine wpList_append_sl rfl _ _ rfl (w1.heap.size + 1) _ 0 [] rfl (made2 _ _) _ (td r0) rfl hr0S.out hm1r'.out (by simp) ?_)
  intro v2 w2 hown hgrow
  have hB2 : Below (w1.heap.size + 1) (w1.alloc (zobjI i1)) w2 := ((Below.refl _ _).alloc (by rw [World.size_alloc]; exact Nat.le_refl _) _).grown hgrow (by simp [World.size_alloc]) (fun j hj => by simp [Value.ownBlock] at hj; omega)
  have hX0 := (IB.zeros w1 i1).below hB2 (Nat.lt_succ_self _)
  have hgB : w.heap.size ≤ w1.heap.size := hb1.size
  have hD2 := (hb1.alloc hb1.size (zobjI i1)).trans (hB2.mono (Nat.le_trans hgB (Nat.le_succ _)))
  have hR2 : Rn w2 v2 r0 := Sl.owned hown hm1r.symm
  clear hown hgrow hB2 hD0 hr0S hsf hsr hmk hm1r'
  replace hX0 := Lib.hid hX0
  replace hR2 := Lib.hid hR2
  obtain ⟨g, hg⟩ : ∃ g, g = w1.heap.size := ⟨_, rfl⟩
  rw [← hg] at hX0 hgB ⊢
  clear hg
  go_wp2_with fail
  go_loopw [8, 10] (fun zv rv wr => ∃ (j : Nat) (X : List Nat) (r : Nat), zv = .int .i64 ((j : Int) - 1) ∧ j ≤ i1 ∧ X.length = i1 ∧ DivS a b (td a) X j r ∧ IB wr g X ∧ Rn wr rv r ∧ Below w.heap.size w wr) (fun zv _ _ => (intOf zv + 1).toNat)
  case atStart => exact ⟨i1, _, r0, (by rw [show (L : Int) - (M : Int) = (i1 : Int) - 1 by omega]), Nat.le_refl _, List.length_replicate, hst.out, hX0.out, hR2.out, hD2⟩
  case round =>
    obtain ⟨j, X, r, rfl, hj, hXl, hS, hX, hr, hbl⟩ := hrel
    clear hX0 hR2 hst hD2 C Le
    cases j with
    | zero =>
      have HT := trim_any _ X hS.lt (by rw [hXl]; omega) wr (hX.sl i1 (by omega))
      obtain ⟨hq, hrm⟩ := hS.done
      rw [hq, hXl] at HT
      replace HT := Lib.hid HT
      rw [hrm] at hr
      obtain ⟨ro, rc, erv⟩ := hr.form
      subst erv
      replace hr := Lib.hid hr
      clear hS hX hXl hq hrm
      go_wp2_with fail
      with_reducible refine Calls.mono HT.out ?_
      rintro e w3 ⟨v', rfl, hv, rfl⟩
      replace hv := Lib.hid hv
      go_wp2_with fail
      exact bodyPost_ret (v := .tuple #[v', .slice ro (td (a % b)).length rc]) (by simp [results, Tryd.results26, go_sem]) rfl ⟨_, _, rfl, hv.out, hr.out, hbl⟩
    | succ k =>
      have hki : k < i1 := by omega
      have hkL : k < L := by omega
      have e1 : (((k + 1 : Nat) : Int) - 1) = (k : Int) := by omega
      have hxb : dg (td a) k < 10000 := dg_lt hAlt.out k
      have hcell : wr.cell? (aA.add k) = some (.int .i64 ((dg (td a) k : Nat) : Int)) := by
        rw [dg_in (by rw [← hL.out]; exact hkL)]
        exact (hsd.out.below hbl).cell k (by rw [← hL.out]; exact hkL)
      have hkX : k < X.length := by rw [hXl]; exact hki
      obtain ⟨y, hy⟩ : ∃ y, y = dg (td a) k + 10000 * r := ⟨_, rfl⟩
      obtain ⟨hq9, hN⟩ := hS.step hAlt.out hkX hy
      generalize dg (td a) k = x at *
      have hrb := hS.rem
      have hyb : y < 10000 * b := by omega
      have hlr : (td r).length ≤ 1000 := Nat.le_trans (td_mono (Nat.le_of_lt hrb)) (by rw [← hM.out]; exact lb)
      obtain ⟨f, hf⟩ : ∃ f, f = y / 10000 ^ F := ⟨_, rfl⟩
      have hfb : f < 20000000000000000 := by rw [hf]; exact fb.out y hyb
      have LD := Lib.hid (fun (v : Value) (wx : World) (h : Rn wx v y) => lead.out v y hyb wx h)
      rw [td_drop, tv_td, ← hf] at LD
      obtain ⟨l0, hl0⟩ : ∃ l0, l0 = f / (t + 1) := ⟨_, rfl⟩
      obtain ⟨h0, hh0⟩ : ∃ h0, h0 = f / t := ⟨_, rfl⟩
      obtain ⟨h9, hh9⟩ : ∃ h9, h9 = min h0 9999 := ⟨_, rfl⟩
      have m1q : l0 * b ≤ y := by rw [hl0, hf]; exact low.out y
      have m2q : y / b ≤ h0 := by rw [hh0, hf]; exact high.out y
      have m3q : y / b ≤ h9 := by omega
      have m4q : l0 ≤ y / b := (Nat.le_div_iff_mul_le hb0).2 m1q
      have m5q : l0 ≤ h9 := Nat.le_trans m4q m3q
      have m6q : y < b * (h9 + 1) := by
        have := (Nat.div_lt_iff_lt_mul hb0).1 (Nat.lt_succ_of_le m3q)
        rwa [Nat.mul_comm] at this
      have m7q : h9 ≤ 9999 := by omega
      have i1q : (f : Int) / ((t : Int) + 1) = (l0 : Int) := by rw [hl0]; exact (Int.natCast_ediv f (t + 1)).symm
      have i2q : (f : Int) / (t : Int) = (h0 : Int) := by rw [hh0]; exact (Int.natCast_ediv f t).symm
      have i3q : min (h0 : Int) 9999 = (h9 : Int) := by omega
      have h0b : h0 ≤ f := by rw [hh0]; exact Nat.div_le_self _ _
      have hTR1 := Lib.hid (fun v wx h => hTR.out x y r hy hxb hyb v wx h)
      rw [Nat.mul_comm] at m1q
      replace m1q := Lib.hid m1q
      replace m6q := Lib.hid m6q
      replace hN := Lib.hid hN
      replace hy := Lib.hid hy
      replace hq9 := Lib.hid hq9
      replace hr := Lib.hid hr
      replace hkX := Lib.hid hkX
      replace hXl := Lib.hid hXl
      have hcX := hX.cell k hkX.out
      have hfX := hX.frozen k
      replace hX := Lib.hid hX
      replace hyb := Lib.hid hyb
      clear hS m2q m3q m4q hf hl0 hh0 hh9 lead hTR low high fb hrb
      rw [e1]
      have hrA := Lib.hid (hr.out.below ((Below.refl wr.heap.size wr).alloc (Nat.le_refl _) (.cells #[.int .i64 (x : Int)] 3)))
      have hlr1 := Lib.hid (show 1 + (td r).length ≤ 1000000 by omega)
      clear hlr
      go_wp2_with (at_builtin; refine wpList_append_sl rfl _ _ rfl wr.heap.size _ 1 [.int .i64 (x : Int)] rfl (own_one wr x) _ (td r) rfl hrA.out hlr1.out (by simp) ?_)
      intro v3 w3 hown hgrow
      have hs3 := Lib.hid (show Sl w3 v3 (x :: td r) from Sl.owned hown (by rw [List.length_cons, Nat.add_comm]))
      have hB3 : Below wr.heap.size wr w3 := ((Below.refl _ _).alloc (Nat.le_refl _) _).grown hgrow (by simp) (fun j hj => by simp [Value.ownBlock] at hj; omega)
      have hD3 := hbl.trans (hB3.mono hbl.size)
      have hX3 := Lib.hid (hX.out.below hB3 hX.out.lt)
      have ho3 : v3.ownBlock ≠ some g := fun e => by
        have := (hown.lt g e).1
        have := hX.out.lt
        omega
      clear hown hgrow hB3 hX hbl hcX hfX hcell hrA hr hlr1
      go_wp2_with fail
      with_reducible refine Calls.mono (hTR1.out _ _ hs3.out) ?_
      rintro e w4 ⟨v4, rfl, hv4, ho4, rfl⟩
      rw [← ho4] at ho3
      replace ho3 := Lib.hid ho3
      clear ho4
      replace hv4 := Lib.hid hv4
      clear hs3
      go_wp2_with fail
      with_reducible refine Calls.mono (LD.out _ _ hv4.out) ?_
      rintro e w4 ⟨rfl, rfl⟩
      have t1 : ¬ (t : Int) + 1 = 0 := by omega
      have t2 : ¬ (t : Int) = 0 := by omega
      go_wp2_with fail
      go_quiet (fail)
      go_wp2_with fail
      have hX3' := Lib.hid (hX3.out.drewN nq)
      have hD3' := ibdrew hD3 nq
      have hv4' := Lib.hid (show Rn (w3.drewN nq) v4 y from hv4.out.below (ibdrew (Below.refl _ _) nq))
      generalize hW4 : w3.drewN nq = w4 at *
      clear hW4 hX3 hD3 hv4
      go_loopw [12, 13] (fun lv hv wx => ∃ (l h : Nat), lv = .int .i64 (l : Int) ∧ hv = .int .i64 (h : Int) ∧ l ≤ h ∧ h ≤ 9999 ∧ b * l ≤ y ∧ y < b * (h + 1) ∧ IB wx g X ∧ Rn wx v4 y ∧ Below w.heap.size w wx) (fun lv hv _ => (intOf hv - intOf lv).toNat)
      case atStart => exact ⟨l0, h9, rfl, rfl, m5q, m7q, m1q.out, m6q.out, hX3'.out, hv4'.out, hD3'⟩
      case round =>
        obtain ⟨l, h, rfl, rfl, hlh, hh9, hq1, hq2, hXb, hvb, hbl⟩ := hrel
        replace hq1 := Lib.hid hq1
        replace hq2 := Lib.hid hq2
        have hXlt := hXb.lt
        clear hX3' hD3' hv4' m1q m6q m5q m7q i1q i2q i3q h0b hfb t1 t2 LD hTR1
        rcases Nat.lt_or_ge l h with hlt | hge
        · have k2 : (l : Int) < (h : Int) := by omega
          obtain ⟨mid, hmid⟩ : ∃ mid, mid = (l + h + 1) / 2 := ⟨_, rfl⟩
          have hmv : ((l : Int) + (h : Int) + 1) / 2 = (mid : Int) := by omega
          have hm1 : l < mid := by omega
          have hm2 : mid ≤ h := by omega
          have hm9 : mid ≤ 9999 := by omega
          have hmidy : mid = (mid - 1) + 1 := by omega
          have OF := Lib.hid (fun wx => rof_any mid (by omega) wx)
          have hmB := Lib.hid (fun vx wx h1 h2 => MB.out mid hm9 vx wx h1 h2)
          have hcM := Lib.hid (fun vx wx h1 h2 => CM.out mid hm9 y hyb.out vx v4 wx h1 h2)
          replace hmid := Lib.hid hmid
          replace hmidy := Lib.hid hmidy
          replace hXb := Lib.hid hXb
          replace hvb := Lib.hid hvb
          go_wp2_with fail
          with_reducible refine Calls.mono (OF.out _) ?_
          rintro e w5 ⟨v5, rfl, hv5, hb5⟩
          replace hv5 := Lib.hid hv5
          have B5 := hbl.trans (hb5.mono hbl.size)
          have hvb5 := Lib.hid (hvb.out.below hb5)
          have hX5 := Lib.hid (hXb.out.below hb5 hXb.out.lt)
          clear hb5
          go_wp2_with fail
          with_reducible refine Calls.mono (hmB.out _ _ (hb.out.below B5) hv5.out) ?_
          rintro e w6 ⟨v6, rfl, hv6, hb6⟩
          replace hv6 := Lib.hid hv6
          have B6 := B5.trans (hb6.mono B5.size)
          have hvb6 := Lib.hid (hvb5.out.below hb6)
          have hX6 := Lib.hid (hX5.out.below hb6 hX5.out.lt)
          clear hb6 B5
          by_cases hle : b * mid ≤ y
          · have k3 : decide (cmpI (b * mid) y ≤ 0) = true := decide_eq_true (by unfold cmpI; split <;> (try split) <;> omega)
            replace hle := Lib.hid hle
            generalize cmpI (b * mid) y = zz at *
            go_wp2_with fail
            with_reducible refine Calls.mono (hcM.out _ _ hv6.out hvb6.out) ?_
            rintro e w7 ⟨rfl, hb7⟩
            have B7 := B6.trans (hb7.mono B6.size)
            have hvb7 := Lib.hid (hvb6.out.below hb7)
            have hX7 := Lib.hid (hX6.out.below hb7 hX6.out.lt)
            clear hb7 B6
            go_wp2_with fail
            go_roundw
            case rel => exact ⟨mid, h, rfl, rfl, hm2, hh9, hle.out, hq2.out, hX7.out, hvb7.out, B7⟩
            case measure => simp [intOf]; omega
          · have k3 : decide (cmpI (b * mid) y ≤ 0) = false := decide_eq_false (by rw [cmpI_gt (by omega)]; omega)
            replace hle := Lib.hid hle
            generalize cmpI (b * mid) y = zz at *
            go_wp2_with fail
            with_reducible refine Calls.mono (hcM.out _ _ hv6.out hvb6.out) ?_
            rintro e w7 ⟨rfl, hb7⟩
            have B7 := B6.trans (hb7.mono B6.size)
            have hvb7 := Lib.hid (hvb6.out.below hb7)
            have hX7 := Lib.hid (hX6.out.below hb7 hX6.out.lt)
            clear hb7 B6
            go_wp2_with fail
            go_roundw
            case rel => exact ⟨l, mid - 1, rfl, by first | rfl | go_num, by omega, by omega, hq1.out, (by rw [← hmidy.out]; exact Nat.lt_of_not_le hle.out), hX7.out, hvb7.out, B7⟩
            case measure => simp [intOf]; omega
        · obtain rfl : l = h := by omega
          have k2 : ¬ (l : Int) < (l : Int) := by omega
          have hyd : y / b = l := Nat.div_eq_of_lt_le (by rw [Nat.mul_comm]; exact hq1.out) (by rw [Nat.mul_comm]; exact hq2.out)
          rw [hyd] at hN hq9
          have OF := Lib.hid (fun wx => rof_any l (by omega) wx)
          have hmB := Lib.hid (fun vx wx h1 h2 => MB.out l hh9 vx wx h1 h2)
          have hsB := Lib.hid (fun vx wx h1 h2 => SB.out l y hyb.out hq1.out vx v4 wx h1 h2)
          have hcX := hXb.cell k hkX.out
          have hfX := hXb.frozen k
          have hb1 := hbl.setCell (p := ⟨g, k, none⟩) hgB (.int .i64 (l : Int))
          have hXs := Lib.hid (hXb.set k l)
          have hvs := Lib.hid (Sl.set_off (k := k) (u := .int .i64 (l : Int)) hvb ho3.out)
          replace hXb := Lib.hid hXb
          go_wp2_with fail
          with_reducible refine Calls.mono (OF.out _) ?_
          rintro e w5 ⟨v5, rfl, hv5, hb5⟩
          replace hv5 := Lib.hid hv5
          have B5 := hb1.trans (hb5.mono hb1.size)
          have hvb5 := Lib.hid (hvs.out.below hb5)
          have hX5 := Lib.hid (hXs.out.below hb5 hXs.out.lt)
          clear hb5 hXs hvs hcX hfX hb1
          go_wp2_with fail
          with_reducible refine Calls.mono (hmB.out _ _ (hb.out.below B5) hv5.out) ?_
          rintro e w6 ⟨v6, rfl, hv6, hb6⟩
          replace hv6 := Lib.hid hv6
          have B6 := B5.trans (hb6.mono B5.size)
          have hvb6 := Lib.hid (hvb5.out.below hb6)
          have hX6 := Lib.hid (hX5.out.below hb6 hX5.out.lt)
          clear hb6 B5
          go_wp2_with fail
          with_reducible refine Calls.mono (hsB.out _ _ hvb6.out hv6.out) ?_
          rintro e w7 ⟨v7, rfl, hv7, hb7⟩
          replace hv7 := Lib.hid hv7
          have B7 := B6.trans (hb7.mono B6.size)
          have hX7 := Lib.hid (hX6.out.below hb7 hX6.out.lt)
          clear hb7 B6
          go_wp2_with fail
          go_roundw
          case rel => exact ⟨k, X.set k l, y - b * l, by first | rfl | go_num, by omega, by rw [List.length_set]; exact hXl.out, hN.out, hX7.out, hv7.out, B7⟩
          case measure => simp [intOf]

set_option maxHeartbeats 4000000 in
/-- Div, for b above 0. -/
theorem rdiv_any (va vb : Value) (a b : Nat) (hb0 : 0 < b) (la : (td a).length ≤ 1000) (lb : (td b).length ≤ 1000) (w : World) (ha : Rn w va a) (hb : Rn w vb b) :
    Calls Tryd.prog 26 #[va, vb] w fun e w' => ∃ v1 v2, e = .returned (.tuple #[v1, v2]) ∧ Rn w' v1 (a / b) ∧ Rn w' v2 (a % b) ∧ Below w.heap.size w w' := by
  rcases Nat.lt_or_ge a b with h | h
  · refine (rdiv_small va vb a b h la lb w ha hb).mono ?_
    rintro e w' ⟨rfl, hbl⟩
    refine ⟨_, _, rfl, ?_, ?_, hbl⟩
    · rw [Nat.div_eq_of_lt h]
      show Sl w' _ (td 0)
      rw [td_zero]; exact Sl.nil w'
    · rw [Nat.mod_eq_of_lt h]; exact ha.below hbl
  · exact rdiv_big va vb a b h hb0 la w ha hb
end Go.Proofs.YtgmmfaclchoigaaDoor.Rx
