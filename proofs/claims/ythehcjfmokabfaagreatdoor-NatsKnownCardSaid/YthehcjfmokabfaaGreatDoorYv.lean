/-
  The reference of layer 1, walks M: Div.
-/
import Derived.Test.YthehcjfmokabfaaGreatDoorYu
import Derived.Laws.AppendOwnNone
import Derived.Test.YthehcjfmokabfaaGreatDoorYo
import Derived.Test.YthehcjfmokabfaaGreatDoorYp
import Derived.Test.YthehcjfmokabfaaGreatDoorYq
import Derived.Test.YthehcjfmokabfaaGreatDoorYs
import Derived.Test.YthehcjfmokabfaaGreatDoorYt
import Derived.Test.YthehcjfmokabfaaGreatDoorYk
import Derived.Test.YthehcjfmokabfaaGreatDoorCards
import Derived.Test.YthehcjfmokabfaaGreatDoorTie
import Derived.ProofKit
import Derived.OpenShut
import Derived.ChangeSlices
import Derived.Carry
import Derived.Lay
import Derived.MakeChecks
import Derived.LaidSub
import Derived.Lib.LaidTab
import Derived.Deep.DeepHandedRow
set_option linter.unusedVariables false
set_option linter.unusedSimpArgs false
namespace Go.Proofs.YthehcjfmokabfaaGreatDoor.Rx
open Go.RowKit
attribute [local irreducible] tv dg cmpI txt decB nb isq

theorem add_add (a : Addr) (i j : Nat) : (a.add i).add j = a.add (i + j) := by
  unfold Addr.add
  by_cases h : i = 0
  · subst h; simp
  · by_cases h2 : j = 0
    · subst h2; simp [h]
    · simp [h, h2, Nat.add_assoc]
theorem small_len {k : Nat} (hk : k ≤ 9999) : (td k).length ≤ 1 := td_length.2 (by rw [Nat.pow_one]; omega)
theorem own_one (w : World) (x : Int) : (w.alloc (.cells #[.int .i64 x] 3)).ownsRow w.heap.size 3 1 (.slice (some ⟨w.heap.size, 0, none⟩) 1 1) 1 [.int .i64 x] :=
  ⟨rfl, .inr ⟨w.heap.size, 1, #[.int .i64 x], rfl, Nat.le_refl _, heap_alloc_new w _, Nat.le_refl _, by unfold maxLen; omega, rfl, rfl⟩⟩

theorem slice_from (w : World) (aA : Addr) (L ca i1 : Nat) (h : i1 ≤ L) (hc : L ≤ ca) :
    (Instr.slice 42 (.slice (some aA) L ca) (some (.int .i64 (i1 : Int))) none none).run Tryz.prog w = .ok (.slice (some (if ca = i1 then aA else aA.add i1)) (L - i1) (ca - i1)) w := by
  obtain ⟨i0, hi, hz0, hz1, hz2⟩ := info_parts Tryz.infoI
  have h1 : (0 : Int) ≤ (i1 : Int) := by omega
  have h2 : (i1 : Int) ≤ (L : Int) := by omega
  by_cases hh : ca = i1
  · simp [Instr.slice, Instr.sliceBounds, run_underlying Tryz.underlying42, run_sliceBound, h1, h2, hh, go_sem] <;> rfl
  · simp [Instr.slice, Instr.sliceBounds, run_underlying Tryz.underlying42, run_sliceBound, h1, h2, hh, go_sem] <;> rfl
theorem made2 (w : World) (o : Obj) : ((w.alloc o).alloc (.cells #[] 3)).ownsRow (w.heap.size + 1) 3 1 (.slice (some ⟨w.heap.size + 1, 0, none⟩) 0 0) 0 [] := by
  have h := World.ownsRow_made (base := w.heap.size + 1) (e := 3) (size := 1) (w.alloc o) #[] 0 (by rw [World.size_alloc]; exact Nat.le_refl _) (Nat.zero_le _) rfl
  rwa [World.size_alloc] at h
/-- trim leaves the block that its argument looks into. -/
theorem trim_blk (v : Value) (l : List Nat) (hd : ∀ d ∈ l, d < 10000) (hB : l.length < 9223372036854775807) (w : World) (h : Sl w v l) :
    Calls Tryz.prog 99 #[v] w fun e w' => ∃ v', e = .returned v' ∧ Sl w v' (td (tv l)) ∧ v'.ownBlock = v.ownBlock ∧ w = w' := by
  obtain ⟨z, hz⟩ := td_tv hd
  rcases h with ⟨ao, c, rfl, rfl, hc0⟩ | ⟨a, c, rfl, h2, h3⟩
  · refine (trim_nil ao c w).mono ?_
    rintro e w' ⟨rfl, rfl⟩
    exact ⟨_, rfl, .inl ⟨ao, c, rfl, by rw [tv_nil, td_zero], hc0⟩, rfl, rfl⟩
  · have hlen : l.length = (td (tv l)).length + z := by
      have := congrArg List.length hz
      rwa [List.length_append, List.length_replicate] at this
    rw [hz] at h3
    rw [hlen] at h2 hB ⊢
    refine (trim_row a c _ z (td (tv l)) rfl h2 hB (fun h => td_last h) w h3).mono ?_
    rintro e w' ⟨rfl, rfl⟩
    exact ⟨_, rfl, .inr ⟨a, c, rfl, by omega, h3.left⟩, rfl, rfl⟩
theorem Sl.set_off {w : World} {v : Value} {l : List Nat} {g k : Nat} {u : Value} (h : Sl w v l) (ho : v.ownBlock ≠ some g) : Sl (w.setCell ⟨g, k, none⟩ u) v l := by
  rcases h with h | ⟨a, c, rfl, h2, h3⟩
  · exact .inl h
  · have hne : a.block ≠ g := fun e => ho (by rw [← e]; rfl)
    refine .inr ⟨a, c, rfl, h2, fun i hi => ?_, ?_⟩
    · rw [← h3.cell i hi]
      exact World.cell?_of_block (by rw [addB]; exact Below.heap_setCell _ _ _ _ hne)
    · have := h3.blk
      simpa [World.setCell] using this
theorem wpList_append_sl {w : World} {ops : Array Oper} {rest : List Oper} {o : Oper} {a : Act} {Q : Exit → Act → World → Prop} (hgd : o.guard = none) (s x : Operand)
    (ho : o.op = .call { callee := .builtin .append, args := #[s, x], argTypes := #[42, 42] })
    (base : Nat) (v : Value) (n : Nat) (xs : List Value) (hs : a.eval s = v) (hown : w.ownsRow base 3 1 v n xs)
    (v2 : Value) (l : List Nat) (hx : a.eval x = v2) (hsl : Sl w v2 l) (hn : n + l.length ≤ 1000000) (hbase : base ≤ w.heap.size)
    (h : ∀ v' w', w'.ownsRow base 3 1 v' (n + l.length) (xs ++ l.map iv) → w.grownBy w' v.ownBlock → wpList Tryz.prog ops Q rest (a.put o.dst v') w') : wpList Tryz.prog ops Q (o :: rest) a w := by
  obtain ⟨i0, hi, hz0, hz1, hz2⟩ := info_parts Tryz.infoI
  rcases hsl.src with ⟨e, rfl⟩ | ⟨ad, c, e, hnews⟩
  · rw [e] at hx
    refine wpList_append_own_none hgd s x _ ho base 3 i0 1 Tryz.underlying42 hi v n xs hs hown hx (h v w ?_ ⟨rfl, rfl, rfl, Nat.le_refl _, fun _ _ _ => rfl⟩)
    simpa using hown
  · rw [e] at hx
    exact wpList_append_own w hgd s x _ ho base 3 i0 (.int .i64 0) 1 8 Tryz.underlying42 hi hz0 hz1 hz2 rfl (by decide) v n xs hs hown ad l.length c (l.map iv) hx (by rw [List.length_map, Nat.mul_one]) hnews
      (fun u hu => by obtain ⟨y, -, rfl⟩ := List.mem_map.1 hu; rfl) (by unfold maxLen; omega) (by omega) hbase fun v' w' h1 h2 _ => h v' w' h1 h2
set_option maxHeartbeats 4000000 in
set_option maxRecDepth 100000 in
theorem rdiv_small (va vb : Value) (a b : Nat) (hab : a < b) (la : (td a).length ≤ 1000) (lb : (td b).length ≤ 1000) (w : World) (ha : Rn w va a) (hb : Rn w vb b) :
    Calls Tryz.prog 62 #[va, vb] w fun e w' => e = .returned (.tuple #[.slice none 0 0, va]) ∧ Below w.heap.size w w' := by
  have C := rcmp_any va vb a b (by omega) (by omega) w ha hb
  rw [cmpI_lt hab] at C
  replace C := Lib.hid C
  clear ha hb hab
  go_enter Tryz.func62, Tryz.ntmps62
  go_wp2_with fail
  with_reducible refine Calls.mono C.out ?_
  rintro e w1 ⟨rfl, hb1⟩
  go_wp2_with fail
  exact bodyPost_ret (v := .tuple #[.slice none 0 0, va]) (by simp [results, Tryz.results62, go_sem]) rfl ⟨rfl, hb1⟩

set_option maxHeartbeats 8000000 in
set_option maxRecDepth 100000 in
theorem rdiv_big (va vb : Value) (a b : Nat) (hab : b ≤ a) (hb0 : 0 < b) (la : (td a).length ≤ 1000) (w : World) (ha : Rn w va a) (hb : Rn w vb b) :
    Calls Tryz.prog 62 #[va, vb] w fun e w' => ∃ v1 v2, e = .returned (.tuple #[v1, v2]) ∧ Rn w' v1 (a / b) ∧ Rn w' v2 (a % b) ∧ Below w.heap.size w w' := by
  obtain ⟨i0, hi, hz0, hz1, hz2⟩ := info_parts Tryz.infoI
  obtain ⟨ao, ca, ea, hva⟩ := ha.view
  obtain ⟨bo, cb, eb⟩ := hb.form
  subst ea eb
  have lb := Nat.le_trans (td_mono hab) la
  have hML := td_mono hab
  obtain ⟨i1, hi1, hst⟩ := DivS.start hab hb0
  have hM0 : 0 < (td b).length := by
    rcases Nat.eq_zero_or_pos (td b).length with h | h
    · have := td_nil.1 (List.eq_nil_of_length_eq_zero h); omega
    · exact h
  have hAlt := td_lt a
  obtain ⟨F, hF⟩ : ∃ F, F = (td b).length - 3 := ⟨_, rfl⟩
  have hdrop := td_drop b F
  have ht0 : 0 < b / 10000 ^ F := by
    refine Nat.pos_of_ne_zero fun h => ?_
    rw [h, td_zero] at hdrop
    have := congrArg List.length hdrop
    rw [List.length_drop, List.length_nil] at this
    omega
  have Le := Lib.hid (fun (wx : World) (hh : Rn wx (.slice bo (td b).length cb) b) => rleading_any (.slice bo (td b).length cb) (td b) F (td_lt b) (by omega) (by omega) wx hh)
  rw [hdrop, tv_td] at Le
  have htb : b / 10000 ^ F < 1000000000000 := by
    have h1 : (td (b / 10000 ^ F)).length ≤ 3 := by rw [← hdrop, List.length_drop]; omega
    exact Nat.lt_of_lt_of_le (td_length.1 h1) (by decide)
  have C := Lib.hid (fun (wx : World) (h1 : Rn wx (.slice ao (td a).length ca) a) (h2 : Rn wx (.slice bo (td b).length cb) b) => rcmp_any _ _ a b (by omega) (by omega) wx h1 h2)
  have hcw : decide (cmpI a b < 0) = false := decide_eq_false (by unfold cmpI; split <;> (try split) <;> omega)
  generalize cmpI a b = z at *
  obtain ⟨t, ht⟩ : ∃ t, t = b / 10000 ^ F := ⟨_, rfl⟩
  rw [← ht] at Le ht0 htb
  -- the search for a digit
  have low := fun y => lead_low (y := y) ht
  have high := fun y => lead_high (y := y) ht ht0
  have lead := Lib.hid (fun (v : Value) (y : Nat) (hy : y < 10000 * b) (wx : World) (hv : Rn wx v y) => rleading_any v (td y) F (td_lt y) (by omega) (by
    have h1 : (td y).length ≤ (td b).length + 1 := td_length.2 (by
      have := td_length.1 (Nat.le_refl (td b).length)
      rw [Nat.pow_succ]; omega)
    omega) wx hv)
  have fb : ∀ y, y < 10000 * b → y / 10000 ^ F < 20000000000000000 := fun y hy => by
    have hp : 0 < 10000 ^ F := Nat.pow_pos (by omega)
    have h1 : b < 10000 ^ F * (t + 1) := by
      have := Nat.lt_mul_div_succ b hp
      rwa [← ht] at this
    refine (Nat.div_lt_iff_lt_mul hp).2 ?_
    have h2 : 10000 * b < 10000 * (10000 ^ F * (t + 1)) := Nat.mul_lt_mul_of_pos_left h1 (by omega)
    have h3 : 10000 ^ F * (t + 1) ≤ 10000 ^ F * 1000000000000 := Nat.mul_le_mul_left _ (by omega)
    generalize 10000 ^ F * (t + 1) = p at *
    generalize 10000 ^ F = q at *
    omega
  have MB := Lib.hid (fun (k : Nat) (hk : k ≤ 9999) (vx : Value) (wx : World) (h1 : Rn wx (.slice bo (td b).length cb) b) (h2 : Rn wx vx k) => rmul_any (.slice bo (td b).length cb) vx b k (by omega) (Nat.le_trans (small_len hk) (by omega)) wx h1 h2)
  have hbk : ∀ k, k ≤ 9999 → (td (b * k)).length ≤ 1001 := fun k hk => Nat.le_trans (td_mul_le lb (small_len hk)) (by omega)
  have hyl : ∀ y, y < 10000 * b → (td y).length ≤ 1001 := fun y hy => by
    have h1 : (td y).length ≤ (td b).length + 1 := td_length.2 (by
      have := td_length.1 (Nat.le_refl (td b).length)
      rw [Nat.pow_succ]; omega)
    omega
  have CM := Lib.hid (fun (k : Nat) (hk : k ≤ 9999) (y : Nat) (hy : y < 10000 * b) (vx vy : Value) (wx : World) (h1 : Rn wx vx (b * k)) (h2 : Rn wx vy y) => rcmp_any vx vy (b * k) y (Nat.le_trans (hbk k hk) (by omega)) (Nat.le_trans (hyl y hy) (by omega)) wx h1 h2)
  have SB := Lib.hid (fun (k y : Nat) (hy : y < 10000 * b) (hle : b * k ≤ y) (vx vy : Value) (wx : World) (h1 : Rn wx vy y) (h2 : Rn wx vx (b * k)) => rsub_any vy vx y (b * k) (Nat.le_trans (hyl y hy) (by omega)) hle wx h1 h2)
  have hTR : ∀ (x y r : Nat) (hy : y = x + 10000 * r) (hx : x < 10000) (hyb : y < 10000 * b) (v : Value) (wx : World), Sl wx v (x :: td r) → Calls Tryz.prog 99 #[v] wx fun e w' => ∃ v', e = .returned v' ∧ Rn w' v' y ∧ v'.ownBlock = v.ownBlock ∧ wx = w' := fun x y r hy hx hyb v wx hv => by
    have h1 : tv (x :: td r) = y := by rw [tv_cons, tv_td, hy]
    have h2 : (td r).length ≤ 1001 := Nat.le_trans (td_mono (show r ≤ y by omega)) (hyl y hyb)
    have := trim_blk v (x :: td r) (fun d hd => by
      rcases List.mem_cons.1 hd with rfl | hd
      · exact hx
      · exact td_lt r d hd) (by rw [List.length_cons]; omega) wx hv
    rw [h1] at this
    refine Calls.mono this ?_
    rintro e w' ⟨v', rfl, h, h', rfl⟩
    exact ⟨v', rfl, h, h', rfl⟩
  replace hTR := Lib.hid hTR
  clear hbk hyl hdrop ht
  obtain ⟨L, hL⟩ : ∃ L, L = (td a).length := ⟨_, rfl⟩
  obtain ⟨M, hM⟩ : ∃ M, M = (td b).length := ⟨_, rfl⟩
  rw [← hL] at la ha hva C hi1 hML ⊢
  rw [← hM] at lb hb C Le MB hi1 hM0 hF hML ⊢
  obtain ⟨aA, rfl, hca, hsd⟩ := hva (by omega)
  have hsd := Lib.hid hsd
  obtain ⟨ad, had⟩ : ∃ ad, ad = (if ca = i1 then aA else aA.add i1) := ⟨_, rfl⟩
  obtain ⟨r0, hr0⟩ : ∃ r0, r0 = a / 10000 ^ i1 := ⟨_, rfl⟩
  have htr : (td a).drop i1 = td r0 := by rw [hr0, td_drop]
  have hmk : ∀ w, (Instr.makeSlice 42 (.int .i64 (i1 : Int)) (.int .i64 (i1 : Int))).run Tryz.prog w = .ok (.slice (some ⟨w.heap.size, 0, none⟩) i1 i1) (w.alloc (zobjI i1)) :=
    fun w => makeN w _ i1 rfl (by omega)
  have hsf : ∀ w, (Instr.slice 42 (.slice (some aA) L ca) (some (.int .i64 (i1 : Int))) none none).run Tryz.prog w = .ok (.slice (some ad) (L - i1) (ca - i1)) w :=
    fun w => by rw [had]; exact slice_from w aA L ca i1 (by omega) hca
  have hsr : ∀ wx, Below w.heap.size w wx → Sl wx (.slice (some ad) (L - i1) (ca - i1)) (td r0) := by
    intro wx hbx
    have hlr : (td r0).length = L - i1 := by rw [← htr, List.length_drop, ← hL]
    by_cases hz : L = i1
    · exact .inl ⟨some ad, ca - i1, by rw [hz, Nat.sub_self], List.eq_nil_of_length_eq_zero (by rw [hlr, hz, Nat.sub_self]), fun h => by simp at h⟩
    · have hne : ca ≠ i1 := by omega
      rw [if_neg hne] at had
      refine .inr ⟨ad, ca - i1, by rw [hlr], by omega, fun j hj => ?_, ?_⟩
      · have hjl : i1 + j < (td a).length := by omega
        have := (hsd.out.below hbx).cell (i1 + j) hjl
        rw [had, add_add, this]
        congr 3
        simp only [← htr, List.getElem_drop]
      · rw [had, addB]; exact (hsd.out.below hbx).blk
  have hLM : (L : Int) - (M : Int) + 1 = (i1 : Int) := by omega
  obtain ⟨m1, hm1⟩ : ∃ m1, m1 = L - i1 := ⟨_, rfl⟩
  have hLi : L - i1 = m1 := hm1.symm
  have hm1b : m1 ≤ 1000 := by omega
  have hiL : (i1 : Int) ≤ (L : Int) := by omega
  have hi0 : (1 : Int) ≤ (i1 : Int) := by omega
  have hm1' := Lib.hid (show m1 = L - i1 ∧ i1 + M = L + 1 ∧ M ≤ L from ⟨hm1, hi1, by omega⟩)
  clear hm1
  have hmax : max (0 : Int) ((M : Int) - 3) = (F : Int) := by omega
  replace ha := Lib.hid ha
  replace hb := Lib.hid hb
  have hm1r : (td r0).length = m1 := by rw [← htr, List.length_drop, ← hL, hLi]
  rw [htr, tv_td] at hst
  rw [hLi] at hsr
  replace hst := Lib.hid hst
  replace hsr := Lib.hid hsr
  replace htr := Lib.hid htr
  replace hr0 := Lib.hid hr0
  replace hca := Lib.hid hca
  replace had := Lib.hid had
  clear hva
  replace hL := Lib.hid hL
  replace hM := Lib.hid hM
  replace hAlt := Lib.hid hAlt
  replace low := Lib.hid low
  replace high := Lib.hid high
  replace fb := Lib.hid fb
  have hi1' := Lib.hid hi1
  have hF' := Lib.hid hF
  have k1 : (M : Int) ≤ (L : Int) := by omega
  clear hi1 hF
  go_enter Tryz.func62, Tryz.ntmps62
  go_wp2_with fail
  with_reducible refine Calls.mono (C.out _ ha.out hb.out) ?_
  rintro e w1 ⟨rfl, hb1⟩
  go_wp2_with fail
  with_reducible refine Calls.mono (Le.out _ (hb.out.below hb1)) ?_
  rintro e w2 ⟨rfl, rfl⟩
  have hD0 := ((hb1.alloc hb1.size (zobjI i1)).alloc (by rw [World.size_alloc]; have := hb1.size; omega) (.cells #[] 3))
  have hr0S := Lib.hid (hsr.out _ hD0)
  have hm1r' : 0 + (td r0).length ≤ 1000000 := by omega
  replace hD0 := Lib.hid hD0
  replace hm1r' := Lib.hid hm1r'
  go_wp2_with (at_builtin; refine wpList_append_sl rfl _ _ rfl (w1.heap.size + 1) _ 0 [] rfl (made2 _ _) _ (td r0) rfl hr0S.out hm1r'.out (by simp) ?_)
  intro v2 w2 hown hgrow
  have hB2 : Below (w1.heap.size + 1) (w1.alloc (zobjI i1)) w2 := ((Below.refl _ _).alloc (by rw [World.size_alloc]; exact Nat.le_refl _) _).grown hgrow (by simp [World.size_alloc]) (fun j hj => by simp [Value.ownBlock] at hj; omega)
  have hX0 := (IB.zeros w1 i1).below hB2 (Nat.lt_succ_self _)
  have hgB : w.heap.size ≤ w1.heap.size := hb1.size
  have hD2 := (hb1.alloc hb1.size (zobjI i1)).trans (hB2.mono (Nat.le_trans hgB (Nat.le_succ _)))
  have hR2 : Rn w2 v2 r0 := Sl.owned hown hm1r.symm
  clear hown hgrow hB2 hD0 hr0S hsf hsr hmk hm1r'
  replace hX0 := Lib.hid hX0
  replace hR2 := Lib.hid hR2
  obtain ⟨g, hg⟩ : ∃ g, g = w1.heap.size := ⟨_, rfl⟩
  rw [← hg] at hX0 hgB ⊢
  clear hg
  go_wp2_with fail
  go_loopw [8, 10] (fun zv rv wr => ∃ (j : Nat) (X : List Nat) (r : Nat), zv = .int .i64 ((j : Int) - 1) ∧ j ≤ i1 ∧ X.length = i1 ∧ DivS a b (td a) X j r ∧ IB wr g X ∧ Rn wr rv r ∧ Below w.heap.size w wr) (fun zv _ _ => (intOf zv + 1).toNat)
  case atStart => exact ⟨i1, _, r0, (by rw [show (L : Int) - (M : Int) = (i1 : Int) - 1 by omega]), Nat.le_refl _, List.length_replicate, hst.out, hX0.out, hR2.out, hD2⟩
  case round =>
    obtain ⟨j, X, r, rfl, hj, hXl, hS, hX, hr, hbl⟩ := hrel
    clear hX0 hR2 hst hD2 C Le
    cases j with
    | zero =>
      have HT := trim_any _ X hS.lt (by rw [hXl]; omega) wr (hX.sl i1 (by omega))
      obtain ⟨hq, hrm⟩ := hS.done
      rw [hq, hXl] at HT
      replace HT := Lib.hid HT
      rw [hrm] at hr
      obtain ⟨ro, rc, erv⟩ := hr.form
      subst erv
      replace hr := Lib.hid hr
      clear hS hX hXl hq hrm
      go_wp2_with fail
      with_reducible refine Calls.mono HT.out ?_
      rintro e w3 ⟨v', rfl, hv, rfl⟩
      replace hv := Lib.hid hv
      go_wp2_with fail
      exact bodyPost_ret (v := .tuple #[v', .slice ro (td (a % b)).length rc]) (by simp [results, Tryz.results62, go_sem]) rfl ⟨_, _, rfl, hv.out, hr.out, hbl⟩
    | succ k =>
      have hki : k < i1 := by omega
      have hkL : k < L := by omega
      have e1 : (((k + 1 : Nat) : Int) - 1) = (k : Int) := by omega
      have hxb : dg (td a) k < 10000 := dg_lt hAlt.out k
      have hcell : wr.cell? (aA.add k) = some (.int .i64 ((dg (td a) k : Nat) : Int)) := by
        rw [dg_in (by rw [← hL.out]; exact hkL)]
        exact (hsd.out.below hbl).cell k (by rw [← hL.out]; exact hkL)
      have hkX : k < X.length := by rw [hXl]; exact hki
      obtain ⟨y, hy⟩ : ∃ y, y = dg (td a) k + 10000 * r := ⟨_, rfl⟩
      obtain ⟨hq9, hN⟩ := hS.step hAlt.out hkX hy
      generalize dg (td a) k = x at *
      have hrb := hS.rem
      have hyb : y < 10000 * b := by omega
      have hlr : (td r).length ≤ 1000 := Nat.le_trans (td_mono (Nat.le_of_lt hrb)) (by rw [← hM.out]; exact lb)
      obtain ⟨f, hf⟩ : ∃ f, f = y / 10000 ^ F := ⟨_, rfl⟩
      have hfb : f < 20000000000000000 := by rw [hf]; exact fb.out y hyb
      have LD := Lib.hid (fun (v : Value) (wx : World) (h : Rn wx v y) => lead.out v y hyb wx h)
      rw [td_drop, tv_td, ← hf] at LD
      obtain ⟨l0, hl0⟩ : ∃ l0, l0 = f / (t + 1) := ⟨_, rfl⟩
      obtain ⟨h0, hh0⟩ : ∃ h0, h0 = f / t := ⟨_, rfl⟩
      obtain ⟨h9, hh9⟩ : ∃ h9, h9 = min h0 9999 := ⟨_, rfl⟩
      have m1q : l0 * b ≤ y := by rw [hl0, hf]; exact low.out y
      have m2q : y / b ≤ h0 := by rw [hh0, hf]; exact high.out y
      have m3q : y / b ≤ h9 := by omega
      have m4q : l0 ≤ y / b := (Nat.le_div_iff_mul_le hb0).2 m1q
      have m5q : l0 ≤ h9 := Nat.le_trans m4q m3q
      have m6q : y < b * (h9 + 1) := by
        have := (Nat.div_lt_iff_lt_mul hb0).1 (Nat.lt_succ_of_le m3q)
        rwa [Nat.mul_comm] at this
      have m7q : h9 ≤ 9999 := by omega
      have i1q : (f : Int) / ((t : Int) + 1) = (l0 : Int) := by rw [hl0]; exact (Int.natCast_ediv f (t + 1)).symm
      have i2q : (f : Int) / (t : Int) = (h0 : Int) := by rw [hh0]; exact (Int.natCast_ediv f t).symm
      have i3q : min (h0 : Int) 9999 = (h9 : Int) := by omega
      have h0b : h0 ≤ f := by rw [hh0]; exact Nat.div_le_self _ _
      have hTR1 := Lib.hid (fun v wx h => hTR.out x y r hy hxb hyb v wx h)
      rw [Nat.mul_comm] at m1q
      replace m1q := Lib.hid m1q
      replace m6q := Lib.hid m6q
      replace hN := Lib.hid hN
      replace hy := Lib.hid hy
      replace hq9 := Lib.hid hq9
      replace hr := Lib.hid hr
      replace hkX := Lib.hid hkX
      replace hXl := Lib.hid hXl
      have hcX := hX.cell k hkX.out
      have hfX := hX.frozen k
      replace hX := Lib.hid hX
      replace hyb := Lib.hid hyb
      clear hS m2q m3q m4q hf hl0 hh0 hh9 lead hTR low high fb hrb
      rw [e1]
      have hrA := Lib.hid (hr.out.below ((Below.refl wr.heap.size wr).alloc (Nat.le_refl _) (.cells #[.int .i64 (x : Int)] 3)))
      have hlr1 := Lib.hid (show 1 + (td r).length ≤ 1000000 by omega)
      clear hlr
      go_wp2_with (at_builtin; refine wpList_append_sl rfl _ _ rfl wr.heap.size _ 1 [.int .i64 (x : Int)] rfl (own_one wr x) _ (td r) rfl hrA.out hlr1.out (by simp) ?_)
      intro v3 w3 hown hgrow
      have hs3 := Lib.hid (show Sl w3 v3 (x :: td r) from Sl.owned hown (by rw [List.length_cons, Nat.add_comm]))
      have hB3 : Below wr.heap.size wr w3 := ((Below.refl _ _).alloc (Nat.le_refl _) _).grown hgrow (by simp) (fun j hj => by simp [Value.ownBlock] at hj; omega)
      have hD3 := hbl.trans (hB3.mono hbl.size)
      have hX3 := Lib.hid (hX.out.below hB3 hX.out.lt)
      have ho3 : v3.ownBlock ≠ some g := fun e => by
        have := (hown.lt g e).1
        have := hX.out.lt
        omega
      clear hown hgrow hB3 hX hbl hcX hfX hcell hrA hr hlr1
      go_wp2_with fail
      with_reducible refine Calls.mono (hTR1.out _ _ hs3.out) ?_
      rintro e w4 ⟨v4, rfl, hv4, ho4, rfl⟩
      rw [← ho4] at ho3
      replace ho3 := Lib.hid ho3
      clear ho4
      replace hv4 := Lib.hid hv4
      clear hs3
      go_wp2_with fail
      with_reducible refine Calls.mono (LD.out _ _ hv4.out) ?_
      rintro e w4 ⟨rfl, rfl⟩
      have t1 : ¬ (t : Int) + 1 = 0 := by omega
      have t2 : ¬ (t : Int) = 0 := by omega
      go_wp2_with fail
      go_quiet (fail)
      go_wp2_with fail
      have hX3' := Lib.hid (hX3.out.drewN nq)
      have hD3' := ibdrew hD3 nq
      have hv4' := Lib.hid (show Rn (w3.drewN nq) v4 y from hv4.out.below (ibdrew (Below.refl _ _) nq))
      generalize hW4 : w3.drewN nq = w4 at *
      clear hW4 hX3 hD3 hv4
      go_loopw [12, 13] (fun lv hv wx => ∃ (l h : Nat), lv = .int .i64 (l : Int) ∧ hv = .int .i64 (h : Int) ∧ l ≤ h ∧ h ≤ 9999 ∧ b * l ≤ y ∧ y < b * (h + 1) ∧ IB wx g X ∧ Rn wx v4 y ∧ Below w.heap.size w wx) (fun lv hv _ => (intOf hv - intOf lv).toNat)
      case atStart => exact ⟨l0, h9, rfl, rfl, m5q, m7q, m1q.out, m6q.out, hX3'.out, hv4'.out, hD3'⟩
      case round =>
        obtain ⟨l, h, rfl, rfl, hlh, hh9, hq1, hq2, hXb, hvb, hbl⟩ := hrel
        replace hq1 := Lib.hid hq1
        replace hq2 := Lib.hid hq2
        have hXlt := hXb.lt
        clear hX3' hD3' hv4' m1q m6q m5q m7q i1q i2q i3q h0b hfb t1 t2 LD hTR1
        rcases Nat.lt_or_ge l h with hlt | hge
        · have k2 : (l : Int) < (h : Int) := by omega
          obtain ⟨mid, hmid⟩ : ∃ mid, mid = (l + h + 1) / 2 := ⟨_, rfl⟩
          have hmv : ((l : Int) + (h : Int) + 1) / 2 = (mid : Int) := by omega
          have hm1 : l < mid := by omega
          have hm2 : mid ≤ h := by omega
          have hm9 : mid ≤ 9999 := by omega
          have hmidy : mid = (mid - 1) + 1 := by omega
          have OF := Lib.hid (fun wx => rof_any mid (by omega) wx)
          have hmB := Lib.hid (fun vx wx h1 h2 => MB.out mid hm9 vx wx h1 h2)
          have hcM := Lib.hid (fun vx wx h1 h2 => CM.out mid hm9 y hyb.out vx v4 wx h1 h2)
          replace hmid := Lib.hid hmid
          replace hmidy := Lib.hid hmidy
          replace hXb := Lib.hid hXb
          replace hvb := Lib.hid hvb
          go_wp2_with fail
          with_reducible refine Calls.mono (OF.out _) ?_
          rintro e w5 ⟨v5, rfl, hv5, hb5⟩
          replace hv5 := Lib.hid hv5
          have B5 := hbl.trans (hb5.mono hbl.size)
          have hvb5 := Lib.hid (hvb.out.below hb5)
          have hX5 := Lib.hid (hXb.out.below hb5 hXb.out.lt)
          clear hb5
          go_wp2_with fail
          with_reducible refine Calls.mono (hmB.out _ _ (hb.out.below B5) hv5.out) ?_
          rintro e w6 ⟨v6, rfl, hv6, hb6⟩
          replace hv6 := Lib.hid hv6
          have B6 := B5.trans (hb6.mono B5.size)
          have hvb6 := Lib.hid (hvb5.out.below hb6)
          have hX6 := Lib.hid (hX5.out.below hb6 hX5.out.lt)
          clear hb6 B5
          by_cases hle : b * mid ≤ y
          · have k3 : decide (cmpI (b * mid) y ≤ 0) = true := decide_eq_true (by unfold cmpI; split <;> (try split) <;> omega)
            replace hle := Lib.hid hle
            generalize cmpI (b * mid) y = zz at *
            go_wp2_with fail
            with_reducible refine Calls.mono (hcM.out _ _ hv6.out hvb6.out) ?_
            rintro e w7 ⟨rfl, hb7⟩
            have B7 := B6.trans (hb7.mono B6.size)
            have hvb7 := Lib.hid (hvb6.out.below hb7)
            have hX7 := Lib.hid (hX6.out.below hb7 hX6.out.lt)
            clear hb7 B6
            go_wp2_with fail
            go_roundw
            case rel => exact ⟨mid, h, rfl, rfl, hm2, hh9, hle.out, hq2.out, hX7.out, hvb7.out, B7⟩
            case measure => simp [intOf]; omega
          · have k3 : decide (cmpI (b * mid) y ≤ 0) = false := decide_eq_false (by rw [cmpI_gt (by omega)]; omega)
            replace hle := Lib.hid hle
            generalize cmpI (b * mid) y = zz at *
            go_wp2_with fail
            with_reducible refine Calls.mono (hcM.out _ _ hv6.out hvb6.out) ?_
            rintro e w7 ⟨rfl, hb7⟩
            have B7 := B6.trans (hb7.mono B6.size)
            have hvb7 := Lib.hid (hvb6.out.below hb7)
            have hX7 := Lib.hid (hX6.out.below hb7 hX6.out.lt)
            clear hb7 B6
            go_wp2_with fail
            go_roundw
            case rel => exact ⟨l, mid - 1, rfl, by first | rfl | go_num, by omega, by omega, hq1.out, (by rw [← hmidy.out]; exact Nat.lt_of_not_le hle.out), hX7.out, hvb7.out, B7⟩
            case measure => simp [intOf]; omega
        · obtain rfl : l = h := by omega
          have k2 : ¬ (l : Int) < (l : Int) := by omega
          have hyd : y / b = l := Nat.div_eq_of_lt_le (by rw [Nat.mul_comm]; exact hq1.out) (by rw [Nat.mul_comm]; exact hq2.out)
          rw [hyd] at hN hq9
          have OF := Lib.hid (fun wx => rof_any l (by omega) wx)
          have hmB := Lib.hid (fun vx wx h1 h2 => MB.out l hh9 vx wx h1 h2)
          have hsB := Lib.hid (fun vx wx h1 h2 => SB.out l y hyb.out hq1.out vx v4 wx h1 h2)
          have hcX := hXb.cell k hkX.out
          have hfX := hXb.frozen k
          have hb1 := hbl.setCell (p := ⟨g, k, none⟩) hgB (.int .i64 (l : Int))
          have hXs := Lib.hid (hXb.set k l)
          have hvs := Lib.hid (Sl.set_off (k := k) (u := .int .i64 (l : Int)) hvb ho3.out)
          replace hXb := Lib.hid hXb
          go_wp2_with fail
          with_reducible refine Calls.mono (OF.out _) ?_
          rintro e w5 ⟨v5, rfl, hv5, hb5⟩
          replace hv5 := Lib.hid hv5
          have B5 := hb1.trans (hb5.mono hb1.size)
          have hvb5 := Lib.hid (hvs.out.below hb5)
          have hX5 := Lib.hid (hXs.out.below hb5 hXs.out.lt)
          clear hb5 hXs hvs hcX hfX hb1
          go_wp2_with fail
          with_reducible refine Calls.mono (hmB.out _ _ (hb.out.below B5) hv5.out) ?_
          rintro e w6 ⟨v6, rfl, hv6, hb6⟩
          replace hv6 := Lib.hid hv6
          have B6 := B5.trans (hb6.mono B5.size)
          have hvb6 := Lib.hid (hvb5.out.below hb6)
          have hX6 := Lib.hid (hX5.out.below hb6 hX5.out.lt)
          clear hb6 B5
          go_wp2_with fail
          with_reducible refine Calls.mono (hsB.out _ _ hvb6.out hv6.out) ?_
          rintro e w7 ⟨v7, rfl, hv7, hb7⟩
          replace hv7 := Lib.hid hv7
          have B7 := B6.trans (hb7.mono B6.size)
          have hX7 := Lib.hid (hX6.out.below hb7 hX6.out.lt)
          clear hb7 B6
          go_wp2_with fail
          go_roundw
          case rel => exact ⟨k, X.set k l, y - b * l, by first | rfl | go_num, by omega, by rw [List.length_set]; exact hXl.out, hN.out, hX7.out, hv7.out, B7⟩
          case measure => simp [intOf]

set_option maxHeartbeats 4000000 in
/-- Div, for b above 0. -/
theorem rdiv_any (va vb : Value) (a b : Nat) (hb0 : 0 < b) (la : (td a).length ≤ 1000) (lb : (td b).length ≤ 1000) (w : World) (ha : Rn w va a) (hb : Rn w vb b) :
    Calls Tryz.prog 62 #[va, vb] w fun e w' => ∃ v1 v2, e = .returned (.tuple #[v1, v2]) ∧ Rn w' v1 (a / b) ∧ Rn w' v2 (a % b) ∧ Below w.heap.size w w' := by
  rcases Nat.lt_or_ge a b with h | h
  · refine (rdiv_small va vb a b h la lb w ha hb).mono ?_
    rintro e w' ⟨rfl, hbl⟩
    refine ⟨_, _, rfl, ?_, ?_, hbl⟩
    · rw [Nat.div_eq_of_lt h]
      show Sl w' _ (td 0)
      rw [td_zero]; exact Sl.nil w'
    · rw [Nat.mod_eq_of_lt h]; exact ha.below hbl
  · exact rdiv_big va vb a b h hb0 la w ha hb
end Go.Proofs.YthehcjfmokabfaaGreatDoor.Rx

/-
  The reference of layer 1, walks N: Gcd.
-/
namespace Go.Proofs.YthehcjfmokabfaaGreatDoor.Rx
open Go.RowKit
attribute [local irreducible] tv dg cmpI txt decB nb isq

theorem Sl.inj {w : World} {v : Value} {l m : List Nat} (h : Sl w v l) (k : Sl w v m) : l = m := by
  rcases h with ⟨ao, c, e1, rfl, -⟩ | ⟨a, c, e1, -, h3⟩
  · rcases k with ⟨_, _, _, rfl, -⟩ | ⟨a', c', e2, -, -⟩
    · rfl
    · rw [e1] at e2
      injection e2 with _ e3 _
      exact (List.eq_nil_of_length_eq_zero e3.symm).symm
  · rcases k with ⟨_, _, e2, rfl, -⟩ | ⟨a', c', e2, -, k3⟩
    · rw [e1] at e2
      injection e2 with _ e3 _
      exact List.eq_nil_of_length_eq_zero e3
    · rw [e1] at e2
      injection e2 with e4 e3 _
      injection e4 with e4
      subst e4
      refine List.ext_getElem e3 fun i h1 h2 => ?_
      have := (h3.cell i h1).symm.trans (k3.cell i h2)
      injection this with this
      injection this with _ this
      exact Int.ofNat.inj this
theorem Rn.inj {w : World} {v : Value} {x y : Nat} (h : Rn w v x) (k : Rn w v y) : x = y := by
  have := congrArg tv (Sl.inj h k)
  rwa [tv_td, tv_td] at this
open Classical in
noncomputable def dec (w : World) (v : Value) : Nat := if h : ∃ y, Rn w v y then h.choose else 0
theorem dec_eq {w : World} {v : Value} {y : Nat} (h : Rn w v y) : dec w v = y := by
  unfold dec
  rw [dif_pos ⟨y, h⟩]
  exact Rn.inj (Exists.choose_spec (⟨y, h⟩ : ∃ y, Rn w v y)) h

set_option maxHeartbeats 4000000 in
set_option maxRecDepth 100000 in
theorem rgcd_any (va vb : Value) (a b : Nat) (la : (td a).length ≤ 1000) (lb : (td b).length ≤ 1000) (w : World) (ha : Rn w va a) (hb : Rn w vb b) :
    Calls Tryz.prog 61 #[va, vb] w fun e w' => ∃ v, e = .returned v ∧ Rn w' v (Nat.gcd a b) ∧ Below w.heap.size w w' := by
  replace ha := Lib.hid ha
  replace hb := Lib.hid hb
  go_enter Tryz.func61, Tryz.ntmps61
  go_wp2_with fail
  go_loopw [0, 1] (fun av bv wr => ∃ (x y : Nat), Rn wr av x ∧ Rn wr bv y ∧ Nat.gcd x y = Nat.gcd a b ∧ (td x).length ≤ 1000 ∧ (td y).length ≤ 1000 ∧ Below w.heap.size w wr) (fun _ bv wr => dec wr bv)
  case atStart => exact ⟨a, b, ha.out, hb.out, rfl, la, lb, Below.refl _ _⟩
  case round =>
    obtain ⟨x, y, hx, hy, hg, lx, ly, hbl⟩ := hrel
    clear ha hb
    have hm := Lib.hid (dec_eq hy)
    obtain ⟨yo, yc, ey⟩ := hy.form
    obtain ⟨xo, xc, ex⟩ := hx.form
    subst ey ex
    obtain ⟨M, hM⟩ : ∃ M, M = (td y).length := ⟨_, rfl⟩
    rcases Nat.eq_zero_or_pos y with h0 | h0
    · have hM0 : M = 0 := by rw [hM, h0, td_zero]; rfl
      have hgx : x = Nat.gcd a b := by rw [← hg, h0, Nat.gcd_zero_right]
      rw [← hM, hM0]
      rw [hgx] at hx
      rw [hgx]
      replace hx := Lib.hid hx
      clear hy hm hM hM0 hg hgx
      go_wp2_with fail
      go_ret
      exact ⟨_, rfl, hx.out, hbl⟩
    · have D := Lib.hid (rdiv_any _ _ x y h0 lx ly wr hx hy)
      rw [← hM] at hy ly D hm ⊢
      have hMp : (0 : Int) < (M : Int) := by
        have : M ≠ 0 := fun h => by
          have := td_nil.1 (List.eq_nil_of_length_eq_zero (hM.symm.trans h))
          omega
        omega
      replace hy := Lib.hid hy
      replace hM := Lib.hid hM
      clear hx
      generalize (td x).length = N at *
      go_wp2_with fail
      with_reducible refine Calls.mono D.out ?_
      rintro e w1 ⟨v1, v2, rfl, h1, h2, hb1⟩
      replace h2 := Lib.hid h2
      clear h1
      have hyb := Lib.hid (hy.out.below hb1)
      have hD := hbl.trans (hb1.mono hbl.size)
      go_wp2_with fail
      go_roundw
      case rel => exact ⟨y, x % y, hyb.out, h2.out, (by rw [← hg, Nat.gcd_comm x y, Nat.gcd_rec y x, Nat.gcd_comm]), (by rw [← hM.out]; exact ly), Nat.le_trans (td_mono (Nat.le_of_lt (Nat.mod_lt x h0))) (by rw [← hM.out]; exact ly), hD⟩
      case measure => rw [dec_eq h2.out, hm.out]; exact Nat.mod_lt x h0
end Go.Proofs.YthehcjfmokabfaaGreatDoor.Rx

/-
  Layer 1, law J: NatsProducts.
-/
namespace Go.Proofs.YthehcjfmokabfaaGreatDoor
open Go.RowKit
attribute [local irreducible] lo hs sm s64 c64 d64 b64 mh ml pd pc qd qc val hiB str cmpI srD lz nb isq decB txt

set_option maxHeartbeats 4000000 in
set_option maxRecDepth 100000 in
theorem products_big (ax ay : Option Addr) (cx cy nx ny : Nat) (h : 16 < nx ∨ 16 < ny) (w : World) (htab : Tab w) :
    Calls Tryz.prog 8 #[.slice ax nx cx, .slice ay ny cy] w fun e w' => e = .returned (.bool true) ∧ Below w.heap.size w w' := by
  have HW := Lib.hid (works_any w htab)
  have key : (decide ((16 : Int) < (nx : Int)) = true) ∨ (decide ((16 : Int) < (nx : Int)) = false ∧ decide ((16 : Int) < (ny : Int)) = true) := by
    by_cases h0 : 16 < nx
    · exact .inl (decide_eq_true (by omega))
    · exact .inr (⟨decide_eq_false (by omega), decide_eq_true (by omega)⟩)
  clear h
  rcases key with k0 | ⟨k0, k1⟩
  all_goals (
    go_enter Tryz.func8, Tryz.ntmps8
    go_wp2_with fail
    with_reducible refine Calls.mono HW.out ?_
    rintro e w1 ⟨rfl, hb⟩
    go_wp2_with fail
    exact bodyPost_ret (v := .bool true) (by simp [results, Tryz.results8, go_sem]) rfl ⟨rfl, hb⟩)

set_option maxHeartbeats 16000000 in
set_option maxRecDepth 100000 in
theorem products_small (vx vy : Value) (lx ly : List Nat) (w : World) (htab : Tab w) (hx : Ws w vx lx) (hy : Ws w vy ly) (nx : lx.length ≤ 16) (ny : ly.length ≤ 16) :
    Calls Tryz.prog 8 #[vx, vy] w fun e w' => e = .returned (.bool true) ∧ Below w.heap.size w w' := by
  have MX := fun w h => made_any vx lx (by omega) w h
  have MY := fun w h => made_any vy ly (by omega) w h
  obtain ⟨ax, cx, ex⟩ := hx.form
  obtain ⟨ay, cy, ey⟩ := hy.form
  have dx := Nat.le_trans (made_digs hx.lt) nx
  have dy := Nat.le_trans (made_digs hy.lt) ny
  have tx := Nat.le_trans (Rx.td_made hx.lt) (Nat.mul_le_mul_left 3 nx)
  have RX := fun w h => Rx.rofw_any vx lx (by omega) w h
  have ty := Nat.le_trans (Rx.td_made hy.lt) (Nat.mul_le_mul_left 3 ny)
  have RY := fun w h => Rx.rofw_any vy ly (by omega) w h
  subst ex ey
  have kx : decide ((16 : Int) < (lx.length : Int)) = false := decide_eq_false (by omega)
  have ky : decide ((16 : Int) < (ly.length : Int)) = false := decide_eq_false (by omega)
  generalize made lx = a at *
  generalize made ly = b at *
  replace hx := Lib.hid hx
  replace MX := Lib.hid MX
  replace hy := Lib.hid hy
  replace MY := Lib.hid MY
  replace RX := Lib.hid RX
  replace RY := Lib.hid RY
  generalize lx.length = Nx at *
  generalize ly.length = Ny at *
  have dp : (digs (a * b)).length ≤ 32 := digs_mul_le dx dy
  have tp : (Rx.td (a * b)).length ≤ 96 := Rx.td_mul_le tx ty
  have hgl : Nat.gcd a b ≤ a ∨ Nat.gcd a b ≤ b := by
    rcases Nat.eq_zero_or_pos a with h | h
    · exact .inr (by rw [h, Nat.gcd_zero_left]; exact Nat.le_refl _)
    · exact .inl (Nat.gcd_le_left _ h)
  have dg : (digs (Nat.gcd a b)).length ≤ 16 := by
    rcases hgl with h | h
    · exact Nat.le_trans (digs_mono h) dx
    · exact Nat.le_trans (digs_mono h) dy
  have tg : (Rx.td (Nat.gcd a b)).length ≤ 48 := by
    rcases hgl with h | h
    · exact Nat.le_trans (Rx.td_mono h) tx
    · exact Nat.le_trans (Rx.td_mono h) ty
  have dq : (digs (a / b)).length ≤ 16 := Nat.le_trans (digs_mono (Nat.div_le_self _ _)) dx
  have tq : (Rx.td (a / b)).length ≤ 48 := Nat.le_trans (Rx.td_mono (Nat.div_le_self _ _)) tx
  have dm : (digs (a % b)).length ≤ 16 := Nat.le_trans (digs_mono (Nat.mod_le _ _)) dx
  have tm : (Rx.td (a % b)).length ≤ 48 := Nat.le_trans (Rx.td_mono (Nat.mod_le _ _)) tx
  have P := fun w => mul_any a b (by omega) (by omega) w
  have RP := fun va vb w ha hb => Rx.rmul_any va vb a b (by omega) (by omega) w ha hb
  have SP := fun v w ht hv => Rx.same_any (a * b) v (by omega) (by omega) w ht hv
  have G := fun w => gcd_any a b (by omega) (by omega) w
  have RG := fun va vb w ha hb => Rx.rgcd_any va vb a b (by omega) (by omega) w ha hb
  have SG := fun v w ht hv => Rx.same_any (Nat.gcd a b) v (by omega) (by omega) w ht hv
  have DP := fun hb w => div_pos a b hb (by omega) w
  have RD := fun hb va vb w ha h => Rx.rdiv_any va vb a b hb (by omega) (by omega) w ha h
  have SQ := fun v w ht hv => Rx.same_any (a / b) v (by omega) (by omega) w ht hv
  have SR := fun v w ht hv => Rx.same_any (a % b) v (by omega) (by omega) w ht hv
  generalize a * b = p at *
  generalize Nat.gcd a b = g at *
  generalize a / b = q at *
  generalize a % b = m at *
  have HW := Lib.hid (fun w h => works_any w h)
  replace P := Lib.hid P
  replace RP := Lib.hid RP
  replace SP := Lib.hid SP
  replace G := Lib.hid G
  replace RG := Lib.hid RG
  replace SG := Lib.hid SG
  replace DP := Lib.hid DP
  replace RD := Lib.hid RD
  replace SQ := Lib.hid SQ
  replace SR := Lib.hid SR
  clear dp tp hgl dg tg dq tq dm tm
  have hL0 : NL w w [] := NL.start w
  rcases Nat.eq_zero_or_pos b with hb0 | hb0
  · have D : ∀ w, Calls Tryz.prog 57 #[natV a, natV b] w fun e w' => e = .returned (.tuple #[natV 0, natV 0, .bool false]) ∧ Below w.heap.size w w' := fun w => by rw [hb0]; exact div_zero a w
    have hM : (Rx.td b).length = 0 := by rw [hb0, Rx.td_zero]; rfl
    obtain ⟨M, hMe⟩ : ∃ M, M = (Rx.td b).length := ⟨_, rfl⟩
    rw [← hMe] at hM
    subst hM
    replace D := Lib.hid D
    replace hMe := Lib.hid hMe
    clear hb0 DP RD
    go_enter Tryz.func8, Tryz.ntmps8
    go_wp2_with fail
    with_reducible refine Calls.mono (MX.out _ hx.out) ?_
    rintro e x1 ⟨rfl, hb⟩
    replace hL0 := hL0.call hb
    clear hb MX
    go_wp2_with fail
    with_reducible refine Calls.mono (MY.out _ (hy.out.below hL0.bl)) ?_
    rintro e x2 ⟨rfl, hb⟩
    replace hL0 := hL0.call hb
    clear hb MY
    replace hL0 := ((hL0.new rfl a 32).new (szA _ _) b 32)
    generalize hweq : ((x2.alloc (.cells #[.int .u64 ((lo a : Nat) : Int), .string (hs a)] 32)).alloc (.cells #[.int .u64 ((lo b : Nat) : Int), .string (hs b)] 32)) = x3 at hL0
    go_wp2_with fail
    with_reducible refine Calls.mono (RX.out _ (hx.out.below hL0.bl)) ?_
    rintro e x4 ⟨v7, rfl, h7, hb⟩
    replace hL0 := hL0.call hb
    clear hb RX hweq
    replace h7 := Lib.hid h7
    go_wp2_with fail
    with_reducible refine Calls.mono (RY.out _ (hy.out.below hL0.bl)) ?_
    rintro e x5 ⟨v8, rfl, h8, hb⟩
    replace hL0 := hL0.call hb
    replace h7 := Lib.hid (h7.out.below hb)
    clear hb RY
    obtain ⟨bo, cb, rfl⟩ := h8.form
    rw [← hMe.out] at h8 ⊢
    replace h8 := Lib.hid h8
    obtain ⟨p1, r1⟩ := hL0.get (x2.heap.size) a (by (repeat (first | with_reducible exact List.mem_cons_self | with_reducible refine List.mem_cons_of_mem _ ?_)))
    obtain ⟨p2, r2⟩ := hL0.get (x2.heap.size + 1) b (by (repeat (first | with_reducible exact List.mem_cons_self | with_reducible refine List.mem_cons_of_mem _ ?_)))
    go_wp2_with fail
    with_reducible refine Calls.mono (D.out _) ?_
    rintro e x6 ⟨rfl, hb⟩
    replace hL0 := hL0.call hb
    replace h7 := Lib.hid (h7.out.below hb)
    replace h8 := Lib.hid (h8.out.below hb)
    clear hb D
    replace h7 := Lib.hid (h7.out.below (below2 _ (.cells #[.int .u64 ((lo 0 : Nat) : Int), .string (hs 0)] 32) (.cells #[.int .u64 ((lo 0 : Nat) : Int), .string (hs 0)] 32)))
    replace h8 := Lib.hid (h8.out.below (below2 _ (.cells #[.int .u64 ((lo 0 : Nat) : Int), .string (hs 0)] 32) (.cells #[.int .u64 ((lo 0 : Nat) : Int), .string (hs 0)] 32)))
    replace hL0 := ((hL0.new rfl 0 32).new (szA _ _) 0 32)
    generalize hweq : ((x6.alloc (.cells #[.int .u64 ((lo 0 : Nat) : Int), .string (hs 0)] 32)).alloc (.cells #[.int .u64 ((lo 0 : Nat) : Int), .string (hs 0)] 32)) = x7 at hL0 h7 h8
    obtain ⟨p3, r3⟩ := hL0.get (x2.heap.size) a (by (repeat (first | with_reducible exact List.mem_cons_self | with_reducible refine List.mem_cons_of_mem _ ?_)))
    obtain ⟨p4, r4⟩ := hL0.get (x2.heap.size + 1) b (by (repeat (first | with_reducible exact List.mem_cons_self | with_reducible refine List.mem_cons_of_mem _ ?_)))
    go_wp2_with fail
    with_reducible refine Calls.mono (P.out _) ?_
    rintro e x8 ⟨rfl, hb⟩
    replace hL0 := hL0.call hb
    replace h7 := Lib.hid (h7.out.below hb)
    replace h8 := Lib.hid (h8.out.below hb)
    clear hb P hweq
    go_wp2_with fail
    with_reducible refine Calls.mono (RP.out _ _ _ h7.out h8.out) ?_
    rintro e x9 ⟨v43, rfl, h43, hb⟩
    replace hL0 := hL0.call hb
    replace h7 := Lib.hid (h7.out.below hb)
    replace h8 := Lib.hid (h8.out.below hb)
    clear hb RP
    replace h43 := Lib.hid h43
    go_wp2_with fail
    with_reducible refine Calls.mono (SP.out _ _ (htab.below hL0.bl) h43.out) ?_
    rintro e x10 ⟨rfl, hb⟩
    replace hL0 := hL0.call hb
    replace h7 := Lib.hid (h7.out.below hb)
    replace h8 := Lib.hid (h8.out.below hb)
    clear hb SP
    clear h43
    obtain ⟨p5, r5⟩ := hL0.get (x2.heap.size) a (by (repeat (first | with_reducible exact List.mem_cons_self | with_reducible refine List.mem_cons_of_mem _ ?_)))
    obtain ⟨p6, r6⟩ := hL0.get (x2.heap.size + 1) b (by (repeat (first | with_reducible exact List.mem_cons_self | with_reducible refine List.mem_cons_of_mem _ ?_)))
    go_wp2_with fail
    with_reducible refine Calls.mono (G.out _) ?_
    rintro e x11 ⟨rfl, hb⟩
    replace hL0 := hL0.call hb
    replace h7 := Lib.hid (h7.out.below hb)
    replace h8 := Lib.hid (h8.out.below hb)
    clear hb G
    go_wp2_with fail
    with_reducible refine Calls.mono (RG.out _ _ _ h7.out h8.out) ?_
    rintro e x12 ⟨v52, rfl, h52, hb⟩
    replace hL0 := hL0.call hb
    replace h7 := Lib.hid (h7.out.below hb)
    replace h8 := Lib.hid (h8.out.below hb)
    clear hb RG
    replace h52 := Lib.hid h52
    go_wp2_with fail
    with_reducible refine Calls.mono (SG.out _ _ (htab.below hL0.bl) h52.out) ?_
    rintro e x13 ⟨rfl, hb⟩
    replace hL0 := hL0.call hb
    replace h7 := Lib.hid (h7.out.below hb)
    replace h8 := Lib.hid (h8.out.below hb)
    clear hb SG
    clear h52
    have z1 : (((lo 0 : Nat) : Int) == 0) = true := by rw [lo_zero]; rfl
    have z2 : ((hs 0).toList == []) = true := by rw [hs_zero, ByteArray.toList_eq]; rfl
    obtain ⟨p7, r7⟩ := hL0.get (x6.heap.size) 0 (by (repeat (first | with_reducible exact List.mem_cons_self | with_reducible refine List.mem_cons_of_mem _ ?_)))
    obtain ⟨p8, r8⟩ := hL0.get (x6.heap.size + 1) 0 (by (repeat (first | with_reducible exact List.mem_cons_self | with_reducible refine List.mem_cons_of_mem _ ?_)))
    go_wp2_with fail
    with_reducible refine Calls.mono (HW.out _ (htab.below hL0.bl)) ?_
    rintro e x14 ⟨rfl, hb⟩
    replace hL0 := hL0.call hb
    replace h7 := Lib.hid (h7.out.below hb)
    replace h8 := Lib.hid (h8.out.below hb)
    clear hb HW
    go_wp2_with fail
    exact bodyPost_ret (v := .bool true) (by simp [results, Tryz.results8, go_sem]) rfl ⟨rfl, hL0.bl⟩
  · have D := fun w => DP.out hb0 w
    have RDb := Lib.hid (fun va vb w ha h => RD.out hb0 va vb w ha h)
    obtain ⟨M, hMe⟩ : ∃ M, M = (Rx.td b).length := ⟨_, rfl⟩
    have hM : (0 : Int) < (M : Int) := by
      have : M ≠ 0 := fun h => by
        have := Rx.td_nil.1 (List.eq_nil_of_length_eq_zero (hMe.symm.trans h))
        omega
      omega
    have hMn : 0 < M := by omega
    have hMd : (!decide (0 < M)) = false := by simp [hMn]
    replace D := Lib.hid D
    replace hMe := Lib.hid hMe
    clear hb0 DP RD
    go_enter Tryz.func8, Tryz.ntmps8
    go_wp2_with fail
    with_reducible refine Calls.mono (MX.out _ hx.out) ?_
    rintro e x1 ⟨rfl, hb⟩
    replace hL0 := hL0.call hb
    clear hb MX
    go_wp2_with fail
    with_reducible refine Calls.mono (MY.out _ (hy.out.below hL0.bl)) ?_
    rintro e x2 ⟨rfl, hb⟩
    replace hL0 := hL0.call hb
    clear hb MY
    replace hL0 := ((hL0.new rfl a 32).new (szA _ _) b 32)
    generalize hweq : ((x2.alloc (.cells #[.int .u64 ((lo a : Nat) : Int), .string (hs a)] 32)).alloc (.cells #[.int .u64 ((lo b : Nat) : Int), .string (hs b)] 32)) = x3 at hL0
    go_wp2_with fail
    with_reducible refine Calls.mono (RX.out _ (hx.out.below hL0.bl)) ?_
    rintro e x4 ⟨v7, rfl, h7, hb⟩
    replace hL0 := hL0.call hb
    clear hb RX hweq
    replace h7 := Lib.hid h7
    go_wp2_with fail
    with_reducible refine Calls.mono (RY.out _ (hy.out.below hL0.bl)) ?_
    rintro e x5 ⟨v8, rfl, h8, hb⟩
    replace hL0 := hL0.call hb
    replace h7 := Lib.hid (h7.out.below hb)
    clear hb RY
    obtain ⟨bo, cb, rfl⟩ := h8.form
    rw [← hMe.out] at h8 ⊢
    replace h8 := Lib.hid h8
    obtain ⟨p9, r9⟩ := hL0.get (x2.heap.size) a (by (repeat (first | with_reducible exact List.mem_cons_self | with_reducible refine List.mem_cons_of_mem _ ?_)))
    obtain ⟨p10, r10⟩ := hL0.get (x2.heap.size + 1) b (by (repeat (first | with_reducible exact List.mem_cons_self | with_reducible refine List.mem_cons_of_mem _ ?_)))
    go_wp2_with fail
    with_reducible refine Calls.mono (D.out _) ?_
    rintro e x6 ⟨rfl, hb⟩
    replace hL0 := hL0.call hb
    replace h7 := Lib.hid (h7.out.below hb)
    replace h8 := Lib.hid (h8.out.below hb)
    clear hb D
    replace h7 := Lib.hid (h7.out.below (below2 _ (.cells #[.int .u64 ((lo q : Nat) : Int), .string (hs q)] 32) (.cells #[.int .u64 ((lo m : Nat) : Int), .string (hs m)] 32)))
    replace h8 := Lib.hid (h8.out.below (below2 _ (.cells #[.int .u64 ((lo q : Nat) : Int), .string (hs q)] 32) (.cells #[.int .u64 ((lo m : Nat) : Int), .string (hs m)] 32)))
    replace hL0 := ((hL0.new rfl q 32).new (szA _ _) m 32)
    generalize hweq : ((x6.alloc (.cells #[.int .u64 ((lo q : Nat) : Int), .string (hs q)] 32)).alloc (.cells #[.int .u64 ((lo m : Nat) : Int), .string (hs m)] 32)) = x7 at hL0 h7 h8
    obtain ⟨p11, r11⟩ := hL0.get (x2.heap.size) a (by (repeat (first | with_reducible exact List.mem_cons_self | with_reducible refine List.mem_cons_of_mem _ ?_)))
    obtain ⟨p12, r12⟩ := hL0.get (x2.heap.size + 1) b (by (repeat (first | with_reducible exact List.mem_cons_self | with_reducible refine List.mem_cons_of_mem _ ?_)))
    go_wp2_with fail
    with_reducible refine Calls.mono (P.out _) ?_
    rintro e x8 ⟨rfl, hb⟩
    replace hL0 := hL0.call hb
    replace h7 := Lib.hid (h7.out.below hb)
    replace h8 := Lib.hid (h8.out.below hb)
    clear hb P hweq
    go_wp2_with fail
    with_reducible refine Calls.mono (RP.out _ _ _ h7.out h8.out) ?_
    rintro e x9 ⟨v43, rfl, h43, hb⟩
    replace hL0 := hL0.call hb
    replace h7 := Lib.hid (h7.out.below hb)
    replace h8 := Lib.hid (h8.out.below hb)
    clear hb RP
    replace h43 := Lib.hid h43
    go_wp2_with fail
    with_reducible refine Calls.mono (SP.out _ _ (htab.below hL0.bl) h43.out) ?_
    rintro e x10 ⟨rfl, hb⟩
    replace hL0 := hL0.call hb
    replace h7 := Lib.hid (h7.out.below hb)
    replace h8 := Lib.hid (h8.out.below hb)
    clear hb SP
    clear h43
    obtain ⟨p13, r13⟩ := hL0.get (x2.heap.size) a (by (repeat (first | with_reducible exact List.mem_cons_self | with_reducible refine List.mem_cons_of_mem _ ?_)))
    obtain ⟨p14, r14⟩ := hL0.get (x2.heap.size + 1) b (by (repeat (first | with_reducible exact List.mem_cons_self | with_reducible refine List.mem_cons_of_mem _ ?_)))
    go_wp2_with fail
    with_reducible refine Calls.mono (G.out _) ?_
    rintro e x11 ⟨rfl, hb⟩
    replace hL0 := hL0.call hb
    replace h7 := Lib.hid (h7.out.below hb)
    replace h8 := Lib.hid (h8.out.below hb)
    clear hb G
    go_wp2_with fail
    with_reducible refine Calls.mono (RG.out _ _ _ h7.out h8.out) ?_
    rintro e x12 ⟨v52, rfl, h52, hb⟩
    replace hL0 := hL0.call hb
    replace h7 := Lib.hid (h7.out.below hb)
    replace h8 := Lib.hid (h8.out.below hb)
    clear hb RG
    replace h52 := Lib.hid h52
    go_wp2_with fail
    with_reducible refine Calls.mono (SG.out _ _ (htab.below hL0.bl) h52.out) ?_
    rintro e x13 ⟨rfl, hb⟩
    replace hL0 := hL0.call hb
    replace h7 := Lib.hid (h7.out.below hb)
    replace h8 := Lib.hid (h8.out.below hb)
    clear hb SG
    clear h52
    go_wp2_with fail
    with_reducible refine Calls.mono (RDb.out _ _ _ h7.out h8.out) ?_
    rintro e x14 ⟨v12, v13, rfl, h12, h13, hb⟩
    replace hL0 := hL0.call hb
    replace h7 := Lib.hid (h7.out.below hb)
    replace h8 := Lib.hid (h8.out.below hb)
    clear hb RDb
    replace h12 := Lib.hid h12
    replace h13 := Lib.hid h13
    obtain ⟨p15, r15⟩ := hL0.get (x6.heap.size) q (by (repeat (first | with_reducible exact List.mem_cons_self | with_reducible refine List.mem_cons_of_mem _ ?_)))
    obtain ⟨p16, r16⟩ := hL0.get (x6.heap.size + 1) m (by (repeat (first | with_reducible exact List.mem_cons_self | with_reducible refine List.mem_cons_of_mem _ ?_)))
    go_wp2_with fail
    with_reducible refine Calls.mono (SQ.out _ _ (htab.below hL0.bl) h12.out) ?_
    rintro e x15 ⟨rfl, hb⟩
    replace hL0 := hL0.call hb
    replace h7 := Lib.hid (h7.out.below hb)
    replace h8 := Lib.hid (h8.out.below hb)
    replace h12 := Lib.hid (h12.out.below hb)
    replace h13 := Lib.hid (h13.out.below hb)
    clear hb SQ
    obtain ⟨p17, r17⟩ := hL0.get (x6.heap.size) q (by (repeat (first | with_reducible exact List.mem_cons_self | with_reducible refine List.mem_cons_of_mem _ ?_)))
    obtain ⟨p18, r18⟩ := hL0.get (x6.heap.size + 1) m (by (repeat (first | with_reducible exact List.mem_cons_self | with_reducible refine List.mem_cons_of_mem _ ?_)))
    go_wp2_with fail
    with_reducible refine Calls.mono (SR.out _ _ (htab.below hL0.bl) h13.out) ?_
    rintro e x16 ⟨rfl, hb⟩
    replace hL0 := hL0.call hb
    replace h7 := Lib.hid (h7.out.below hb)
    replace h8 := Lib.hid (h8.out.below hb)
    replace h12 := Lib.hid (h12.out.below hb)
    replace h13 := Lib.hid (h13.out.below hb)
    clear hb SR
    go_wp2_with fail
    with_reducible refine Calls.mono (HW.out _ (htab.below hL0.bl)) ?_
    rintro e x17 ⟨rfl, hb⟩
    replace hL0 := hL0.call hb
    replace h7 := Lib.hid (h7.out.below hb)
    replace h8 := Lib.hid (h8.out.below hb)
    replace h12 := Lib.hid (h12.out.below hb)
    replace h13 := Lib.hid (h13.out.below hb)
    clear hb HW
    go_wp2_with fail
    exact bodyPost_ret (v := .bool true) (by simp [results, Tryz.results8, go_sem]) rfl ⟨rfl, hL0.bl⟩

theorem products_any (vx vy : Value) (lx ly : List Nat) (w : World) (htab : Tab w) (hx : Ws w vx lx) (hy : Ws w vy ly) :
    Calls Tryz.prog 8 #[vx, vy] w fun e w' => e = .returned (.bool true) ∧ Below w.heap.size w w' := by
  by_cases h : 16 < lx.length ∨ 16 < ly.length
  · obtain ⟨ax, cx, rfl⟩ := hx.form
    obtain ⟨ay, cy, rfl⟩ := hy.form
    exact products_big ax ay cx cy _ _ h w htab
  · exact products_small vx vy lx ly w htab hx hy (by omega) (by omega)
end Go.Proofs.YthehcjfmokabfaaGreatDoor

/-
  Layer 1, law: NatsKnown.
-/
namespace Go.Proofs.YthehcjfmokabfaaGreatDoor
open Go.RowKit
attribute [local irreducible] lo hs

theorem divides_any (vx vy vz : Value) (lx ly lz : List Nat) (w : World) (htab : Tab w) (hx : Ws w vx lx) (hy : Ws w vy ly) (hz : Ws w vz lz) :
    Calls Tryz.prog 9 #[vx, vy, vz] w fun e w' => e = .returned (.bool true) ∧ Below w.heap.size w w' := by
  by_cases h : 24 < lx.length ∨ 24 < ly.length ∨ 24 < lz.length
  · obtain ⟨ax, cx, rfl⟩ := hx.form
    obtain ⟨ay, cy, rfl⟩ := hy.form
    obtain ⟨az, cz, rfl⟩ := hz.form
    exact divides_big ax ay az cx cy cz _ _ _ h w htab
  · exact divides_small vx vy vz lx ly lz w htab hx hy hz (by omega) (by omega) (by omega)


theorem known_any (w : World) (htab : Tab w) : Calls Tryz.prog 3 #[] w fun e w' => e = .returned (.bool true) ∧ Below w.heap.size w w' :=
  known_of (fun vx vy lx ly w h hx hy => sums_any vx vy lx ly w h hx hy) (fun vx vy lx ly w h hx hy => products_any vx vy lx ly w h hx hy) (fun vx vy vz lx ly lz w h hx hy hz => divides_any vx vy vz lx ly lz w h hx hy hz)
    (fun vx vy lx ly w h hx hy => texts_any vx vy lx ly w h hx hy) (fun vx vy vz lx ly lz w h hx hy hz => rings_any vx vy vz lx ly lz w h hx hy hz) (fun vx vy vz lx ly lz w h hx hy hz => divisors_any vx vy vz lx ly lz w h hx hy hz)
    (fun vx lx n hn w h hx => roots_any vx lx n hn w h hx) (fun s w h => reads_any s w h) (fun l hl hd w => number_ok l hl hd w) (fun w h => works_any w h) w htab
end Go.Proofs.YthehcjfmokabfaaGreatDoor

/-
  Layer 1, cards: what the cards of all laws share.
-/
namespace Go.Proofs.YthehcjfmokabfaaGreatDoor
open Go.ChangeShapes Go.WideShapes Go.ChangeAt Go.RowKit

theorem own : ownKnob Tryz.prog.godebug = none := by kernel_rfl
theorem laidOut : laidOutB Tryz.prog = true := by kernel_rfl
theorem cells62 : Tryz.prog.cellsOf 22 = 1 := by kernel_rfl
theorem cells24 : Tryz.prog.cellsOf 30 = 1 := by kernel_rfl

/-- The variables that every row of this layer lists. -/
def laidAll : List (String × DataW Unit) := [("math/bits.deBruijn32tab", Rows.laid_math_bits_deBruijn32tab), ("math/bits.deBruijn64tab", Rows.laid_math_bits_deBruijn64tab), ("internal/strconv.uint64pow10", Rows.laid_internal_strconv_uint64pow10)]
theorem gPow : Tryz.prog.globalNamed "internal/strconv.uint64pow10" = some 2 := by kernel_rfl

theorem gPowType : (Tryz.prog.globals[2]?).map (·.type) = some 187 := by kernel_rfl
theorem cells20 : Tryz.prog.cellsOf 187 = 20 := by kernel_rfl
theorem tab_of {W : World} (h : laidMetH Tryz.prog laidAll W) : Tab W := by
  have h1 := laidMetH.filter (fun x => x.1 == "internal/strconv.uint64pow10") h
  have e : laidAll.filter (fun x => x.1 == "internal/strconv.uint64pow10") = [("internal/strconv.uint64pow10", Rows.laid_internal_strconv_uint64pow10)] := by kernel_rfl
  rw [e, MakeChecks.laidMetH_plain _ _ _ (by kernel_rfl)] at h1
  exact Lib.tabIs_of_head (rest := []) gPow gPowType Tryz.underlying187 Tryz.underlying30 cells24 cells20 (show laidMet Tryz.prog (("internal/strconv.uint64pow10", Lib.tabData .u64 Lib.pow10Tab) :: []) W from h1)

theorem wide_u32 {n : Int} (h : (Lit.int .u32 n).wf = true) : 0 ≤ n ∧ n ≤ 4294967295 := bounds_u32 h

theorem ws_of {H : Type} {enc : TypeId × Value → H} {W : World} {v : Value} {d : DataW H} {p : List MemPlace} (h : DataW.Trod enc Tryz.prog W 0 (fun _ => true) true 23 v d p) (hv : ∃ a n c, v = .slice a n c) : ∃ l, Ws W v l := by
  obtain ⟨a0, len, cap, rfl⟩ := hv
  obtain ⟨fuel, hf⟩ := h
  rcases open_ints Tryz.underlying23 Tryz.underlying22 cells62 hf with ⟨hcs, hx⟩ | ⟨a, len', cap', zs, hcs, _, hl, hm, hz, hx, hcell, hwz⟩
  · simp [Value.cells] at hcs
    obtain ⟨rfl, rfl, rfl⟩ := hcs
    exact ⟨[], .inl ⟨_, _, rfl, rfl⟩⟩
  · simp [Value.cells] at hcs
    obtain ⟨rfl, rfl, rfl⟩ := hcs
    simp only [if_true] at hz
    by_cases h0 : len = 0
    · subst h0
      exact ⟨[], .inl ⟨_, _, rfl, rfl⟩⟩
    · have hll : ((zs.take len).map Int.toNat).length = len := by simp; omega
      refine ⟨(zs.take len).map Int.toNat, .inr ⟨a, cap, by rw [hll], ?_, ?_, ?_⟩⟩
      · intro x hx
        obtain ⟨z, hz1, rfl⟩ := List.mem_map.1 hx
        have := wide_u32 (hwz z (List.mem_of_mem_take hz1))
        omega
      · intro i hi
        rw [hll] at hi
        have hi2 : i < zs.length := by omega
        have e := hcell i hi2
        rw [show zs.getD i 0 = zs[i] by simp [List.getD, hi2]] at e
        have hw := wide_u32 (hwz zs[i] (List.getElem_mem hi2))
        rw [e]
        simp only [List.getElem_map, List.getElem_take]
        rw [Int.toNat_of_nonneg hw.1]
      · have e := hcell 0 (by omega)
        have := World.block_lt_of_cell? W _ e
        rw [show (a.add 0).block = a.block from by unfold Addr.add; split <;> rfl] at this
        exact this
end Go.Proofs.YthehcjfmokabfaaGreatDoor

/-
  The law NatsKnown answers true at every input, and leaves its arguments as they were. CONDITIONS: the package-level tables start as the program's text lays them (the card ties them).
-/
namespace Go.Proofs.YthehcjfmokabfaaGreatDoor.natsKnown
open Go.ChangeShapes Go.WideShapes Go.ChangeAt Go.RowKit

set_option maxRecDepth 100000 in
theorem contract (H : Type) (enc : TypeId × Value → H) (W : World) (base : Nat) (args : Array Value) (ds gs : List (DataW H)) (before : List MemPlace)
    (hval : ∀ (j : Nat) t v, Tryz.f3.params[j]? = some t → args[j]? = some v → Value.okWide Tryz.prog W .any base t v)
    (hW : DataW.Whole enc Tryz.prog Tryz.f3.params.toList Rows.natsKnownSpec.vars false W args.toList ds gs before) (hL : laidMetH Tryz.prog Rows.natsKnownRow.laid W) :
    Calls Tryz.prog 3 args W fun e W' => ∃ v, e = .returned v ∧ Rows.natsKnownSpec.post enc Tryz.prog Tryz.f3 false true false false W args v W' := by
  have hW' := hW
  obtain ⟨p, q, hA0, hV, rfl, _, _⟩ := hW
  have hA : DataW.TrodAll enc Tryz.prog W 0 (fun _ => true) true Tryz.f3.params.toList args.toList ds p := hA0
  rw [Tryz.params3] at hA hval
  obtain ⟨rfl, rfl, rfl⟩ := trodAll_none hA
  obtain ⟨rfl, rfl⟩ := trodVars_none hV
  clear hA0
  simp only [List.append_nil] at hW'
  refine (known_any W (tab_of hL)).mono fun e W' ⟨he, hb⟩ => ?_
  subst he
  refine ⟨_, rfl, _, _, _, [], [], [], hW', ?_, ?_, rfl, hb.frame _, fun h => by cases h⟩
  · exact trodAll_mk1 (shut_bool Tryz.underlying4 _)
  · exact trodAll_mk0 

/-- A world for the witness: the settled one, the tables as their initialisers lay them. -/
noncomputable def laidWorld (os : Os) : World := World.laidAll Tryz.prog os Rows.natsKnownRow.laid
theorem laid_met (os : Os) : laidMet Tryz.prog Rows.natsKnownRow.laid ((laidWorld os).forCall (fun _ _ => 0) ⟨#[], #[], []⟩).memory :=
  laidMet_laidAll _ (by kernel_rfl) (by kernel_rfl)
theorem reads (os : Os) {H : Type} (enc : TypeId × Value → H) : ∃ places, DataW.whole enc Tryz.prog ((laidWorld os).forCall (fun _ _ => 0) ⟨#[], #[], []⟩).memory Tryz.f3.params.toList Rows.natsKnownSpec.vars false (#[] : Array Value).toList 8 = some ([], [], places) :=
  ⟨[], by kernel_rfl⟩

set_option maxRecDepth 100000 in
theorem lifted (os : Os) (started : os.Started) (H : Type) (enc : TypeId × Value → H) (F : Stop.Interp) :
    ReturnsInHanded {} Tryz.checked os 3 .any ((OpenSpec.ofChange Rows.natsKnownSpec).preRow enc Tryz.prog Tryz.f3 Rows.natsKnownRow.domain false Rows.natsKnownRow.laid) (((OpenSpec.ofChange Rows.natsKnownSpec).at F).post enc Tryz.prog Tryz.f3 false true false false) := by
  obtain ⟨places, hx⟩ := reads os enc
  refine returnsInHanded_of_row (C := Tryz.checked) (s := OpenSpec.ofChange Rows.natsKnownSpec) own started (by kernel_rfl) Tryz.func3
    (witness_row_at (enc := enc) (C := Tryz.checked) false (laidWorld os) #[] (World.laidAll_os _ _ _) (by kernel_rfl) (by kernel_rfl) (by kernel_rfl)
      (OpenSpec.preRow_of_cond 8 hx (by kernel_rfl) (fun k hk => by cases hk) (by kernel_rfl) (laid_met os))) ?_
  intro W base args ds gs before hval hW _ _ _ hL _ _
  exact contract H enc W base args ds gs before hval hW hL

theorem said : Rows.NatsKnownSaid :=
  OpenClaim.holds_of_cond 3 Tryz.f3 rfl rfl rfl rfl rfl rfl rfl ⟨rfl, rfl, rfl, rfl, rfl⟩ rfl rfl rfl rfl rfl (by kernel_rfl) Tryz.func3 (by kernel_rfl)
    (of_decide_eq_true (by kernel_rfl)) (by unfold Func.isWrapper; first | (rw [if_pos (by decide +kernel)]; kernel_rfl) | (rw [if_neg (by decide +kernel)]; exact ⟨rfl, rfl⟩))
    (fun os started H enc _ F => by rw [OpenClaim.pre_eq_preRow]; exact lifted os started H enc F)

theorem plain (f : FuncId) (fn : Func) (hf : Tryz.pinned.checked.prog.funcNamed "gusset/gussetlaw01.NatsKnown" = some f) (hfn : Tryz.pinned.checked.prog.funcs[f]? = some fn) :
    false = Tryz.pinned.checked.prog.looks [] ∧ ∀ (j : Nat) t, fn.params[j]? = some t → Tryz.pinned.checked.prog.wantsStandIn t = false := by
  obtain rfl : f = 3 := Option.some.inj ((show Tryz.prog.funcNamed "gusset/gussetlaw01.NatsKnown" = some 3 by kernel_rfl).symm.trans hf) |>.symm
  obtain rfl : fn = Tryz.f3 := (Option.some.inj (Tryz.func3.symm.trans hfn)).symm
  refine ⟨by kernel_rfl, fun j t ht => ?_⟩
  rw [Tryz.params3] at ht
  have hm := Array.mem_of_getElem? ht
  exact absurd hm (by simp)
end Go.Proofs.YthehcjfmokabfaaGreatDoor.natsKnown

namespace Go.Proofs.YthehcjfmokabfaaGreatDoor
open Go.ChangeShapes Go.WideShapes Go.ChangeAt Go.RowKit
/-- THE CARD -/
theorem natsKnownProved : Rows.NatsKnownCardSaid :=
  Claim7.holds_tied_plain_at .later [] _ _ _ _ natsKnown.said (fun _ h => by cases h) (by kernel_rfl) (fun _ h => by cases h) natsKnown_row_tie rfl ⟨rfl, rfl⟩ (by kernel_rfl) rfl natsKnown.plain (by kernel_rfl)
end Go.Proofs.YthehcjfmokabfaaGreatDoor
