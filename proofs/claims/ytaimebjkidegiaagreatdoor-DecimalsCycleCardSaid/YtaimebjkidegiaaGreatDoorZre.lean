/-
  The law answers true at every input, and leaves its arguments as they were: a part of the proof. CONDITIONS: the package-level tables start as the program's text lays them (the card ties them).
-/
import Derived.Test.YtaimebjkidegiaaGreatDoorZrd
import Derived.Test.YtaimebjkidegiaaGreatDoorTie
import Derived.Test.YtaimebjkidegiaaGreatDoorCards
set_option linter.unusedVariables false
set_option linter.unusedSimpArgs false
set_option maxHeartbeats 16000000
set_option maxRecDepth 100000
namespace Go.Proofs.YtaimebjkidegiaaGreatDoor.Rx
open Go.RowKit
attribute [local irreducible] tv dg cmpI txt decB nb isq
theorem td_drop (n k : Nat) : (td n).drop k = td (n / 10000 ^ k) := by
 induction k generalizing n with
 | zero => simp
 | succ k ih =>
  by_cases h : n = 0
  ·rw [h, Nat.zero_div, td_zero]; simp
  ·rw [td_pos h, List.drop_succ_cons, ih, Nat.div_div_eq_div_mul, Nat.pow_succ, Nat.mul_comm 10000]
theorem rleading_any (v : Value) (l : List Nat) (F : Nat) (hd : ∀ d ∈ l, d < 10000) (hF : F ≤ 1000000) (hl : l.length ≤ F + 4) (w : World) (h : Sl w v l) :
  Calls Tryz.prog 127 #[v, .int .i64 (F : Int)] w fun e w' => e = .returned (.int .i64 ((tv (l.drop F) : Nat) : Int)) ∧ w = w' := by
 obtain ⟨ao, c, rfl, hv⟩ := h.view
 obtain ⟨n, hn⟩ : ∃ n, n = l.length := ⟨_, rfl⟩
 rw [← hn] at hl hv ⊢
 have h0 := Lib.hid (show tv (l.drop n) = 0 by rw [List.drop_eq_nil_of_le (by omega), tv_nil])
 replace hn := Lib.hid hn
 replace hv := Lib.hid hv
 replace hd := Lib.hid hd
 clear h
 go_enter Tryz.func127, Tryz.ntmps127
 go_wp2_with fail
 go_loopw [5, 6] (fun s z wr => ∃ j : Nat, j ≤ n ∧ (F ≤ j ∨ j = n) ∧ z = .int .i64 ((j : Int) - 1) ∧ s = .int .i64 ((tv (l.drop j) : Nat) : Int) ∧ w = wr) (fun _ z _ => (intOf z + 1).toNat)
 case atStart => exact ⟨n, Nat.le_refl _, .inr rfl, by first | rfl | go_num, by rw [h0.out]; rfl, rfl⟩
 case round =>
  obtain ⟨j, hj, hFj, rfl, rfl, rfl⟩ := hrel
  rcases Nat.lt_or_ge F j with hlt | hge
  ·obtain ⟨i, rfl⟩ : ∃ i, j = i + 1 := ⟨j - 1, by omega⟩
   obtain ⟨a, rfl, -, hs⟩ := hv.out (by omega)
   have hil : i < l.length := by have := hn.out; omega
   have hcell := hs.cell i hil
   have hx := hd.out _ (List.getElem_mem hil)
   have hnext : tv (l.drop i) = l[i] + 10000 * tv (l.drop (i + 1)) := by rw [List.drop_eq_getElem_cons hil, tv_cons]
   have hT : tv (l.drop (i + 1)) < 1000000000000 := by
    have h1 := tv_lt (l := l.drop (i + 1)) fun d hdd => hd.out d (List.mem_of_mem_drop hdd)
    exact Nat.lt_of_lt_of_le h1 (Nat.le_trans (Nat.pow_le_pow_right (by omega) (show _ ≤ 3 by rw [List.length_drop]; have := hn.out; omega)) (by decide))
   have e1 : (((i + 1 : Nat) : Int) - 1) = (i : Int) := by omega
   have k1 : (F : Int) ≤ (i : Int) := by omega
   have k2 : (i : Int) < (n : Int) := by omega
   have hTi : ((tv (l.drop (i + 1)) : Nat) : Int) ≤ 1000000000000 := by omega
   clear hT hs
   generalize l[i] = x at *
   generalize tv (l.drop (i + 1)) = T at *
   replace hnext := Lib.hid hnext
   replace hFj := Lib.hid hFj
   rw [e1]
   go_wp2_with fail
   go_roundw
   case rel => exact ⟨i, by omega, .inl (by omega), by first | rfl | go_num, (by rw [hnext.out]; go_num), by trivial⟩
   case measure => simp [intOf]
  ·have hfin : tv (l.drop j) = tv (l.drop F) := by
    rcases hFj with h | h
    ·rw [show j = F by omega]
    ·rw [List.drop_eq_nil_of_le (by have := hn.out; omega), List.drop_eq_nil_of_le (by have := hn.out; omega)]
   have k1 : ¬ (F : Int) ≤ (j : Int) - 1 := by omega
   replace hfin := Lib.hid hfin
   replace hFj := Lib.hid hFj
   go_wp2_with fail
   go_ret
   exact ⟨by rw [← hfin.out]; rfl, rfl⟩
/-- What Div's rounds keep: the digits from i on are the quotient's, r is what is left. -/
structure DivS (a b : Nat) (A X : List Nat) (i r : Nat) : Prop where
 lt : ∀ d ∈ X, d < 10000
 zero : ∀ (k : Nat) (h : k < X.length), k < i → X[k] = 0
 eq : tv X * b + 10000 ^ i * r + tv (A.take i) = a
 rem : r < b
theorem DivS.step {a b i r : Nat} {A X : List Nat} (h : DivS a b A X (i + 1) r) (hA : ∀ d ∈ A, d < 10000) (hi : i < X.length) {y : Nat} (hy : y = dg A i + 10000 * r) :
  y / b ≤ 9999 ∧ DivS a b A (X.set i (y / b)) i (y - b * (y / b)) := by
 have hb : 0 < b := Nat.lt_of_le_of_lt (Nat.zero_le _) h.rem
 have hx := dg_lt hA i
 have hr := h.rem
 have hq : y / b ≤ 9999 := by
  have h1 : y < 10000 * b := by
   have : 10000 * (r + 1) ≤ 10000 * b := Nat.mul_le_mul_left _ hr
   omega
  have := (Nat.div_lt_iff_lt_mul hb).2 h1
  omega
 have e := tv_set0 hi (h.zero i hi (by omega)) (y / b)
 have hm := Nat.div_add_mod y b
 have hml := Nat.mod_lt y hb
 refine ⟨hq, fun x hx => ?_, fun k hk hki => ?_, ?_, by omega⟩
 ·rcases List.mem_or_eq_of_mem_set hx with hx | hx
  ·exact h.lt x hx
  ·omega
 ·rw [List.getElem_set_ne (by omega)]
  exact h.zero k (by rw [List.length_set] at hk; exact hk) (by omega)
 ·have e0 := h.eq
  rw [tv_take, Nat.pow_succ] at e0
  rw [e, Nat.add_mul]
  have e1 : 10000 ^ i * (y / b) * b + 10000 ^ i * (y - b * (y / b)) = 10000 ^ i * dg A i + 10000 ^ i * 10000 * r := by
   rw [Nat.mul_assoc, Nat.mul_assoc, ← Nat.mul_add, ← Nat.mul_add, Nat.mul_comm (y / b) b, show b * (y / b) + (y - b * (y / b)) = y by omega, hy]
  generalize tv X * b = p1 at *
  generalize 10000 ^ i * (y / b) * b = p2 at *
  generalize 10000 ^ i * (y - b * (y / b)) = p3 at *
  generalize 10000 ^ i * dg A i = p4 at *
  generalize 10000 ^ i * 10000 * r = p5 at *
  omega
theorem DivS.done {a b r : Nat} {A X : List Nat} (h : DivS a b A X 0 r) : tv X = a / b ∧ r = a % b := by
 have e := h.eq
 rw [Nat.pow_zero, Nat.one_mul, List.take_zero, tv_nil, Nat.add_zero, Nat.mul_comm] at e
 have hb : 0 < b := Nat.lt_of_le_of_lt (Nat.zero_le _) h.rem
 rw [← e]
 exact ⟨by rw [Nat.mul_add_div hb, Nat.div_eq_of_lt h.rem, Nat.add_zero], by rw [Nat.mul_add_mod, Nat.mod_eq_of_lt h.rem]⟩
theorem DivS.start {a b : Nat} (hab : b ≤ a) (hb : 0 < b) : ∃ i, i + (td b).length = (td a).length + 1 ∧ DivS a b (td a) (List.replicate i 0) i (tv ((td a).drop i)) := by
 have hlen := td_mono hab
 have hbl : 0 < (td b).length := by
  rcases Nat.eq_zero_or_pos (td b).length with h | h
  ·have := td_nil.1 (List.eq_nil_of_length_eq_zero h); omega
  ·exact h
 refine ⟨(td a).length + 1 - (td b).length, by omega, fun d hd => by rw [(List.mem_replicate.1 hd).2]; omega, fun k h _ => by simp, ?_, ?_⟩
 ·rw [tv_zeros, Nat.zero_mul, Nat.zero_add]
  have := tv_append ((td a).take ((td a).length + 1 - (td b).length)) ((td a).drop ((td a).length + 1 - (td b).length))
  rw [List.take_append_drop, tv_td, List.length_take, Nat.min_eq_left (by omega)] at this
  omega
 ·rw [td_drop, tv_td]
  refine Nat.lt_of_not_le fun h => ?_
  have h1 : (td (a / 10000 ^ ((td a).length + 1 - (td b).length))).length = (td b).length - 1 := by
   rw [← td_drop, List.length_drop]; omega
  have := td_mono h
  omega
/-- The bounds that the leading digits give. -/
theorem lead_low {b y F t : Nat} (ht : t = b / 10000 ^ F) : y / 10000 ^ F / (t + 1) * b ≤ y := by
 have hp : 0 < 10000 ^ F := Nat.pow_pos (by omega)
 have h1 : b < 10000 ^ F * (t + 1) := by
  have := Nat.lt_mul_div_succ b hp
  rwa [← ht] at this
 have h2 : y / 10000 ^ F / (t + 1) * b ≤ y / 10000 ^ F / (t + 1) * (10000 ^ F * (t + 1)) := Nat.mul_le_mul_left _ (Nat.le_of_lt h1)
 have h3 : y / 10000 ^ F / (t + 1) * (t + 1) ≤ y / 10000 ^ F := Nat.div_mul_le_self _ _
 have h4 : y / 10000 ^ F * 10000 ^ F ≤ y := Nat.div_mul_le_self _ _
 have h5 : y / 10000 ^ F / (t + 1) * (10000 ^ F * (t + 1)) = (y / 10000 ^ F / (t + 1) * (t + 1)) * 10000 ^ F := by
  rw [Nat.mul_comm (10000 ^ F), Nat.mul_assoc]
 have h6 : (y / 10000 ^ F / (t + 1) * (t + 1)) * 10000 ^ F ≤ y / 10000 ^ F * 10000 ^ F := Nat.mul_le_mul_right _ h3
 omega
theorem lead_high {b y F t : Nat} (ht : t = b / 10000 ^ F) (ht0 : 0 < t) : y / b ≤ y / 10000 ^ F / t := by
 rw [Nat.div_div_eq_div_mul]
 have h1 : 10000 ^ F * t ≤ b := by rw [ht]; exact Nat.mul_div_le _ _
 exact Nat.div_le_div_left h1 (Nat.mul_pos (Nat.pow_pos (by omega)) ht0)
end Go.Proofs.YtaimebjkidegiaaGreatDoor.Rx
namespace Go.Proofs.YtaimebjkidegiaaGreatDoor.Rx
open Go.RowKit
attribute [local irreducible] tv dg cmpI txt decB nb isq
theorem add_add (a : Addr) (i j : Nat) : (a.add i).add j = a.add (i + j) := by
 unfold Addr.add
 by_cases h : i = 0
 ·subst h; simp
 ·by_cases h2 : j = 0
  ·subst h2; simp [h]
  ·simp [h, h2, Nat.add_assoc]
theorem small_len {k : Nat} (hk : k ≤ 9999) : (td k).length ≤ 1 := td_length.2 (by rw [Nat.pow_one]; omega)
theorem own_one (w : World) (x : Int) : (w.alloc (.cells #[.int .i64 x] 3)).ownsRow w.heap.size 3 1 (.slice (some ⟨w.heap.size, 0, none⟩) 1 1) 1 [.int .i64 x] :=
 ⟨rfl, .inr ⟨w.heap.size, 1, #[.int .i64 x], rfl, Nat.le_refl _, heap_alloc_new w _, Nat.le_refl _, by unfold maxLen; omega, rfl, rfl⟩⟩
theorem slice_from (w : World) (aA : Addr) (L ca i1 : Nat) (h : i1 ≤ L) (hc : L ≤ ca) :
  (Instr.slice 38 (.slice (some aA) L ca) (some (.int .i64 (i1 : Int))) none none).run Tryz.prog w = .ok (.slice (some (if ca = i1 then aA else aA.add i1)) (L - i1) (ca - i1)) w := by
 obtain ⟨i0, hi, hz0, hz1, hz2⟩ := info_parts Tryz.infoI
 have h1 : (0 : Int) ≤ (i1 : Int) := by omega
 have h2 : (i1 : Int) ≤ (L : Int) := by omega
 by_cases hh : ca = i1
 ·simp [Instr.slice, Instr.sliceBounds, run_underlying Tryz.underlying38, run_sliceBound, h1, h2, hh, go_sem] <;> rfl
 ·simp [Instr.slice, Instr.sliceBounds, run_underlying Tryz.underlying38, run_sliceBound, h1, h2, hh, go_sem] <;> rfl
theorem made2 (w : World) (o : Obj) : ((w.alloc o).alloc (.cells #[] 3)).ownsRow (w.heap.size + 1) 3 1 (.slice (some ⟨w.heap.size + 1, 0, none⟩) 0 0) 0 [] := by
 have h := World.ownsRow_made (base := w.heap.size + 1) (e := 3) (size := 1) (w.alloc o) #[] 0 (by rw [World.size_alloc]; exact Nat.le_refl _) (Nat.zero_le _) rfl
 rwa [World.size_alloc] at h
/-- trim leaves the block that its argument looks into. -/
theorem trim_blk (v : Value) (l : List Nat) (hd : ∀ d ∈ l, d < 10000) (hB : l.length < 9223372036854775807) (w : World) (h : Sl w v l) :
  Calls Tryz.prog 128 #[v] w fun e w' => ∃ v', e = .returned v' ∧ Sl w v' (td (tv l)) ∧ v'.ownBlock = v.ownBlock ∧ w = w' := by
 obtain ⟨z, hz⟩ := td_tv hd
 rcases h with ⟨ao, c, rfl, rfl, hc0⟩ | ⟨a, c, rfl, h2, h3⟩
 ·refine (trim_nil ao c w).mono ?_
  rintro e w' ⟨rfl, rfl⟩
  exact ⟨_, rfl, .inl ⟨ao, c, rfl, by rw [tv_nil, td_zero], hc0⟩, rfl, rfl⟩
 ·have hlen : l.length = (td (tv l)).length + z := by
   have := congrArg List.length hz
   rwa [List.length_append, List.length_replicate] at this
  rw [hz] at h3
  rw [hlen] at h2 hB ⊢
  refine (trim_row a c _ z (td (tv l)) rfl h2 hB (fun h => td_last h) w h3).mono ?_
  rintro e w' ⟨rfl, rfl⟩
  exact ⟨_, rfl, .inr ⟨a, c, rfl, by omega, h3.left⟩, rfl, rfl⟩
theorem Sl.set_off {w : World} {v : Value} {l : List Nat} {g k : Nat} {u : Value} (h : Sl w v l) (ho : v.ownBlock ≠ some g) : Sl (w.setCell ⟨g, k, none⟩ u) v l := by
 rcases h with h | ⟨a, c, rfl, h2, h3⟩
 ·exact .inl h
 ·have hne : a.block ≠ g := fun e => ho (by rw [← e]; rfl)
  refine .inr ⟨a, c, rfl, h2, fun i hi => ?_, ?_⟩
  ·rw [← h3.cell i hi]
   exact World.cell?_of_block (by rw [addB]; exact Below.heap_setCell _ _ _ _ hne)
  ·have := h3.blk
   simpa [World.setCell] using this
theorem wpList_append_sl {w : World} {ops : Array Oper} {rest : List Oper} {o : Oper} {a : Act} {Q : Exit → Act → World → Prop} (hgd : o.guard = none) (s x : Operand)
  (ho : o.op = .call { callee := .builtin .append, args := #[s, x], argTypes := #[38, 38] })
  (base : Nat) (v : Value) (n : Nat) (xs : List Value) (hs : a.eval s = v) (hown : w.ownsRow base 3 1 v n xs)
  (v2 : Value) (l : List Nat) (hx : a.eval x = v2) (hsl : Sl w v2 l) (hn : n + l.length ≤ 1000000) (hbase : base ≤ w.heap.size)
  (h : ∀ v' w', w'.ownsRow base 3 1 v' (n + l.length) (xs ++ l.map iv) → w.grownBy w' v.ownBlock → wpList Tryz.prog ops Q rest (a.put o.dst v') w') : wpList Tryz.prog ops Q (o :: rest) a w := by
 obtain ⟨i0, hi, hz0, hz1, hz2⟩ := info_parts Tryz.infoI
 rcases hsl.src with ⟨e, rfl⟩ | ⟨ad, c, e, hnews⟩
 ·rw [e] at hx
  refine wpList_append_own_none hgd s x _ ho base 3 i0 1 Tryz.underlying38 hi v n xs hs hown hx (h v w ?_ ⟨rfl, rfl, rfl, Nat.le_refl _, fun _ _ _ => rfl⟩)
  simpa using hown
 ·rw [e] at hx
  exact wpList_append_own w hgd s x _ ho base 3 i0 (.int .i64 0) 1 8 Tryz.underlying38 hi hz0 hz1 hz2 rfl (by decide) v n xs hs hown ad l.length c (l.map iv) hx (by rw [List.length_map, Nat.mul_one]) hnews
   (fun u hu => by obtain ⟨y, -, rfl⟩ := List.mem_map.1 hu; rfl) (by unfold maxLen; omega) (by omega) hbase fun v' w' h1 h2 _ => h v' w' h1 h2
theorem rdiv_small (va vb : Value) (a b : Nat) (hab : a < b) (la : (td a).length ≤ 1000) (lb : (td b).length ≤ 1000) (w : World) (ha : Rn w va a) (hb : Rn w vb b) :
  Calls Tryz.prog 49 #[va, vb] w fun e w' => e = .returned (.tuple #[.slice none 0 0, va]) ∧ Below w.heap.size w w' := by
 have C := rcmp_any va vb a b (by omega) (by omega) w ha hb
 rw [cmpI_lt hab] at C
 replace C := Lib.hid C
 clear ha hb hab
 go_enter Tryz.func49, Tryz.ntmps49
 go_wp2_with fail
 with_reducible refine Calls.mono C.out ?_
 rintro e w1 ⟨rfl, hb1⟩
 go_wp2_with fail
 exact bodyPost_ret (v := .tuple #[.slice none 0 0, va]) (by simp [results, Tryz.results49, go_sem]) rfl ⟨rfl, hb1⟩
theorem rdiv_big (va vb : Value) (a b : Nat) (hab : b ≤ a) (hb0 : 0 < b) (la : (td a).length ≤ 1000) (w : World) (ha : Rn w va a) (hb : Rn w vb b) :
  Calls Tryz.prog 49 #[va, vb] w fun e w' => ∃ v1 v2, e = .returned (.tuple #[v1, v2]) ∧ Rn w' v1 (a / b) ∧ Rn w' v2 (a % b) ∧ Below w.heap.size w w' := by
 obtain ⟨i0, hi, hz0, hz1, hz2⟩ := info_parts Tryz.infoI
 obtain ⟨ao, ca, ea, hva⟩ := ha.view
 obtain ⟨bo, cb, eb⟩ := hb.form
 subst ea eb
 have lb := Nat.le_trans (td_mono hab) la
 have hML := td_mono hab
 obtain ⟨i1, hi1, hst⟩ := DivS.start hab hb0
 have hM0 : 0 < (td b).length := by
  rcases Nat.eq_zero_or_pos (td b).length with h | h
  ·have := td_nil.1 (List.eq_nil_of_length_eq_zero h); omega
  ·exact h
 have hAlt := td_lt a
 obtain ⟨F, hF⟩ : ∃ F, F = (td b).length - 3 := ⟨_, rfl⟩
 have hdrop := td_drop b F
 have ht0 : 0 < b / 10000 ^ F := by
  refine Nat.pos_of_ne_zero fun h => ?_
  rw [h, td_zero] at hdrop
  have := congrArg List.length hdrop
  rw [List.length_drop, List.length_nil] at this
  omega
 have Le := Lib.hid (fun (wx : World) (hh : Rn wx (.slice bo (td b).length cb) b) => rleading_any (.slice bo (td b).length cb) (td b) F (td_lt b) (by omega) (by omega) wx hh)
 rw [hdrop, tv_td] at Le
 have htb : b / 10000 ^ F < 1000000000000 := by
  have h1 : (td (b / 10000 ^ F)).length ≤ 3 := by rw [← hdrop, List.length_drop]; omega
  exact Nat.lt_of_lt_of_le (td_length.1 h1) (by decide)
 have C := Lib.hid (fun (wx : World) (h1 : Rn wx (.slice ao (td a).length ca) a) (h2 : Rn wx (.slice bo (td b).length cb) b) => rcmp_any _ _ a b (by omega) (by omega) wx h1 h2)
 have hcw : decide (cmpI a b < 0) = false := decide_eq_false (by unfold cmpI; split <;> (try split) <;> omega)
 generalize cmpI a b = z at *
 obtain ⟨t, ht⟩ : ∃ t, t = b / 10000 ^ F := ⟨_, rfl⟩
 rw [← ht] at Le ht0 htb
 -- the search for a digit
 have low := fun y => lead_low (y := y) ht
 have high := fun y => lead_high (y := y) ht ht0
 have lead := Lib.hid (fun (v : Value) (y : Nat) (hy : y < 10000 * b) (wx : World) (hv : Rn wx v y) => rleading_any v (td y) F (td_lt y) (by omega) (by
  have h1 : (td y).length ≤ (td b).length + 1 := td_length.2 (by
   have := td_length.1 (Nat.le_refl (td b).length)
   rw [Nat.pow_succ]; omega)
  omega) wx hv)
 have fb : ∀ y, y < 10000 * b → y / 10000 ^ F < 20000000000000000 := fun y hy => by
  have hp : 0 < 10000 ^ F := Nat.pow_pos (by omega)
  have h1 : b < 10000 ^ F * (t + 1) := by
   have := Nat.lt_mul_div_succ b hp
   rwa [← ht] at this
  refine (Nat.div_lt_iff_lt_mul hp).2 ?_
  have h2 : 10000 * b < 10000 * (10000 ^ F * (t + 1)) := Nat.mul_lt_mul_of_pos_left h1 (by omega)
  have h3 : 10000 ^ F * (t + 1) ≤ 10000 ^ F * 1000000000000 := Nat.mul_le_mul_left _ (by omega)
  generalize 10000 ^ F * (t + 1) = p at *
  generalize 10000 ^ F = q at *
  omega
 have MB := Lib.hid (fun (k : Nat) (hk : k ≤ 9999) (vx : Value) (wx : World) (h1 : Rn wx (.slice bo (td b).length cb) b) (h2 : Rn wx vx k) => rmul_any (.slice bo (td b).length cb) vx b k (by omega) (Nat.le_trans (small_len hk) (by omega)) wx h1 h2)
 have hbk : ∀ k, k ≤ 9999 → (td (b * k)).length ≤ 1001 := fun k hk => Nat.le_trans (td_mul_le lb (small_len hk)) (by omega)
 have hyl : ∀ y, y < 10000 * b → (td y).length ≤ 1001 := fun y hy => by
  have h1 : (td y).length ≤ (td b).length + 1 := td_length.2 (by
   have := td_length.1 (Nat.le_refl (td b).length)
   rw [Nat.pow_succ]; omega)
  omega
 have CM := Lib.hid (fun (k : Nat) (hk : k ≤ 9999) (y : Nat) (hy : y < 10000 * b) (vx vy : Value) (wx : World) (h1 : Rn wx vx (b * k)) (h2 : Rn wx vy y) => rcmp_any vx vy (b * k) y (Nat.le_trans (hbk k hk) (by omega)) (Nat.le_trans (hyl y hy) (by omega)) wx h1 h2)
 have SB := Lib.hid (fun (k y : Nat) (hy : y < 10000 * b) (hle : b * k ≤ y) (vx vy : Value) (wx : World) (h1 : Rn wx vy y) (h2 : Rn wx vx (b * k)) => rsub_any vy vx y (b * k) (Nat.le_trans (hyl y hy) (by omega)) hle wx h1 h2)
 have hTR : ∀ (x y r : Nat) (hy : y = x + 10000 * r) (hx : x < 10000) (hyb : y < 10000 * b) (v : Value) (wx : World), Sl wx v (x :: td r) → Calls Tryz.prog 128 #[v] wx fun e w' => ∃ v', e = .returned v' ∧ Rn w' v' y ∧ v'.ownBlock = v.ownBlock ∧ wx = w' := fun x y r hy hx hyb v wx hv => by
  have h1 : tv (x :: td r) = y := by rw [tv_cons, tv_td, hy]
  have h2 : (td r).length ≤ 1001 := Nat.le_trans (td_mono (show r ≤ y by omega)) (hyl y hyb)
  have := trim_blk v (x :: td r) (fun d hd => by
   rcases List.mem_cons.1 hd with rfl | hd
   ·exact hx
   ·exact td_lt r d hd) (by rw [List.length_cons]; omega) wx hv
  rw [h1] at this
  refine Calls.mono this ?_
  rintro e w' ⟨v', rfl, h, h', rfl⟩
  exact ⟨v', rfl, h, h', rfl⟩
 replace hTR := Lib.hid hTR
 clear hbk hyl hdrop ht
 obtain ⟨L, hL⟩ : ∃ L, L = (td a).length := ⟨_, rfl⟩
 obtain ⟨M, hM⟩ : ∃ M, M = (td b).length := ⟨_, rfl⟩
 rw [← hL] at la ha hva C hi1 hML ⊢
 rw [← hM] at lb hb C Le MB hi1 hM0 hF hML ⊢
 obtain ⟨aA, rfl, hca, hsd⟩ := hva (by omega)
 have hsd := Lib.hid hsd
 obtain ⟨ad, had⟩ : ∃ ad, ad = (if ca = i1 then aA else aA.add i1) := ⟨_, rfl⟩
 obtain ⟨r0, hr0⟩ : ∃ r0, r0 = a / 10000 ^ i1 := ⟨_, rfl⟩
 have htr : (td a).drop i1 = td r0 := by rw [hr0, td_drop]
 have hmk : ∀ w, (Instr.makeSlice 38 (.int .i64 (i1 : Int)) (.int .i64 (i1 : Int))).run Tryz.prog w = .ok (.slice (some ⟨w.heap.size, 0, none⟩) i1 i1) (w.alloc (zobjI i1)) :=
  fun w => makeN w _ i1 rfl (by omega)
 have hsf : ∀ w, (Instr.slice 38 (.slice (some aA) L ca) (some (.int .i64 (i1 : Int))) none none).run Tryz.prog w = .ok (.slice (some ad) (L - i1) (ca - i1)) w :=
  fun w => by rw [had]; exact slice_from w aA L ca i1 (by omega) hca
 have hsr : ∀ wx, Below w.heap.size w wx → Sl wx (.slice (some ad) (L - i1) (ca - i1)) (td r0) := by
  intro wx hbx
  have hlr : (td r0).length = L - i1 := by rw [← htr, List.length_drop, ← hL]
  by_cases hz : L = i1
  ·exact .inl ⟨some ad, ca - i1, by rw [hz, Nat.sub_self], List.eq_nil_of_length_eq_zero (by rw [hlr, hz, Nat.sub_self]), fun h => by simp at h⟩
  ·have hne : ca ≠ i1 := by omega
   rw [if_neg hne] at had
   refine .inr ⟨ad, ca - i1, by rw [hlr], by omega, fun j hj => ?_, ?_⟩
   ·have hjl : i1 + j < (td a).length := by omega
    have := (hsd.out.below hbx).cell (i1 + j) hjl
    rw [had, add_add, this]
    congr 3
    simp only [← htr, List.getElem_drop]
   ·rw [had, addB]; exact (hsd.out.below hbx).blk
 have hLM : (L : Int) - (M : Int) + 1 = (i1 : Int) := by omega
 obtain ⟨m1, hm1⟩ : ∃ m1, m1 = L - i1 := ⟨_, rfl⟩
 have hLi : L - i1 = m1 := hm1.symm
 have hm1b : m1 ≤ 1000 := by omega
 have hiL : (i1 : Int) ≤ (L : Int) := by omega
 have hi0 : (1 : Int) ≤ (i1 : Int) := by omega
 have hm1' := Lib.hid (show m1 = L - i1 ∧ i1 + M = L + 1 ∧ M ≤ L from ⟨hm1, hi1, by omega⟩)
 clear hm1
 have hmax : max (0 : Int) ((M : Int) - 3) = (F : Int) := by omega
 replace ha := Lib.hid ha
 replace hb := Lib.hid hb
 have hm1r : (td r0).length = m1 := by rw [← htr, List.length_drop, ← hL, hLi]
 rw [htr, tv_td] at hst
 rw [hLi] at hsr
 replace hst := Lib.hid hst
 replace hsr := Lib.hid hsr
 replace htr := Lib.hid htr
 replace hr0 := Lib.hid hr0
 replace hca := Lib.hid hca
 replace had := Lib.hid had
 clear hva
 replace hL := Lib.hid hL
 replace hM := Lib.hid hM
 replace hAlt := Lib.hid hAlt
 replace low := Lib.hid low
 replace high := Lib.hid high
 replace fb := Lib.hid fb
 have hi1' := Lib.hid hi1
 have hF' := Lib.hid hF
 have k1 : (M : Int) ≤ (L : Int) := by omega
 clear hi1 hF
 go_enter Tryz.func49, Tryz.ntmps49
 go_wp2_with fail
 with_reducible refine Calls.mono (C.out _ ha.out hb.out) ?_
 rintro e w1 ⟨rfl, hb1⟩
 go_wp2_with fail
 with_reducible refine Calls.mono (Le.out _ (hb.out.below hb1)) ?_
 rintro e w2 ⟨rfl, rfl⟩
 have hD0 := ((hb1.alloc hb1.size (zobjI i1)).alloc (by rw [World.size_alloc]; have := hb1.size; omega) (.cells #[] 3))
 have hr0S := Lib.hid (hsr.out _ hD0)
 have hm1r' : 0 + (td r0).length ≤ 1000000 := by omega
 replace hD0 := Lib.hid hD0
 replace hm1r' := Lib.hid hm1r'
 go_wp2_with (at_builtin; refine wpList_append_sl rfl _ _ rfl (w1.heap.size + 1) _ 0 [] rfl (made2 _ _) _ (td r0) rfl hr0S.out hm1r'.out (by simp) ?_)
 intro v2 w2 hown hgrow
 have hB2 : Below (w1.heap.size + 1) (w1.alloc (zobjI i1)) w2 := ((Below.refl _ _).alloc (by rw [World.size_alloc]; exact Nat.le_refl _) _).grown hgrow (by simp [World.size_alloc]) (fun j hj => by simp [Value.ownBlock] at hj; omega)
 have hX0 := (IB.zeros w1 i1).below hB2 (Nat.lt_succ_self _)
 have hgB : w.heap.size ≤ w1.heap.size := hb1.size
 have hD2 := (hb1.alloc hb1.size (zobjI i1)).trans (hB2.mono (Nat.le_trans hgB (Nat.le_succ _)))
 have hR2 : Rn w2 v2 r0 := Sl.owned hown hm1r.symm
 clear hown hgrow hB2 hD0 hr0S hsf hsr hmk hm1r'
 replace hX0 := Lib.hid hX0
 replace hR2 := Lib.hid hR2
 obtain ⟨g, hg⟩ : ∃ g, g = w1.heap.size := ⟨_, rfl⟩
 rw [← hg] at hX0 hgB ⊢
 clear hg
 go_wp2_with fail
 go_loopw [8, 10] (fun zv rv wr => ∃ (j : Nat) (X : List Nat) (r : Nat), zv = .int .i64 ((j : Int) - 1) ∧ j ≤ i1 ∧ X.length = i1 ∧ DivS a b (td a) X j r ∧ IB wr g X ∧ Rn wr rv r ∧ Below w.heap.size w wr) (fun zv _ _ => (intOf zv + 1).toNat)
 case atStart => exact ⟨i1, _, r0, (by rw [show (L : Int) - (M : Int) = (i1 : Int) - 1 by omega]), Nat.le_refl _, List.length_replicate, hst.out, hX0.out, hR2.out, hD2⟩
 case round =>
  obtain ⟨j, X, r, rfl, hj, hXl, hS, hX, hr, hbl⟩ := hrel
  clear hX0 hR2 hst hD2 C Le
  cases j with
  | zero =>
   have HT := trim_any _ X hS.lt (by rw [hXl]; omega) wr (hX.sl i1 (by omega))
   obtain ⟨hq, hrm⟩ := hS.done
   rw [hq, hXl] at HT
   replace HT := Lib.hid HT
   rw [hrm] at hr
   obtain ⟨ro, rc, erv⟩ := hr.form
   subst erv
   replace hr := Lib.hid hr
   clear hS hX hXl hq hrm
   go_wp2_with fail
   with_reducible refine Calls.mono HT.out ?_
   rintro e w3 ⟨v', rfl, hv, rfl⟩
   replace hv := Lib.hid hv
   go_wp2_with fail
   exact bodyPost_ret (v := .tuple #[v', .slice ro (td (a % b)).length rc]) (by simp [results, Tryz.results49, go_sem]) rfl ⟨_, _, rfl, hv.out, hr.out, hbl⟩
  | succ k =>
   have hki : k < i1 := by omega
   have hkL : k < L := by omega
   have e1 : (((k + 1 : Nat) : Int) - 1) = (k : Int) := by omega
   have hxb : dg (td a) k < 10000 := dg_lt hAlt.out k
   have hcell : wr.cell? (aA.add k) = some (.int .i64 ((dg (td a) k : Nat) : Int)) := by
    rw [dg_in (by rw [← hL.out]; exact hkL)]
    exact (hsd.out.below hbl).cell k (by rw [← hL.out]; exact hkL)
   have hkX : k < X.length := by rw [hXl]; exact hki
   obtain ⟨y, hy⟩ : ∃ y, y = dg (td a) k + 10000 * r := ⟨_, rfl⟩
   obtain ⟨hq9, hN⟩ := hS.step hAlt.out hkX hy
   generalize dg (td a) k = x at *
   have hrb := hS.rem
   have hyb : y < 10000 * b := by omega
   have hlr : (td r).length ≤ 1000 := Nat.le_trans (td_mono (Nat.le_of_lt hrb)) (by rw [← hM.out]; exact lb)
   obtain ⟨f, hf⟩ : ∃ f, f = y / 10000 ^ F := ⟨_, rfl⟩
   have hfb : f < 20000000000000000 := by rw [hf]; exact fb.out y hyb
   have LD := Lib.hid (fun (v : Value) (wx : World) (h : Rn wx v y) => lead.out v y hyb wx h)
   rw [td_drop, tv_td, ← hf] at LD
   obtain ⟨l0, hl0⟩ : ∃ l0, l0 = f / (t + 1) := ⟨_, rfl⟩
   obtain ⟨h0, hh0⟩ : ∃ h0, h0 = f / t := ⟨_, rfl⟩
   obtain ⟨h9, hh9⟩ : ∃ h9, h9 = min h0 9999 := ⟨_, rfl⟩
   have m1q : l0 * b ≤ y := by rw [hl0, hf]; exact low.out y
   have m2q : y / b ≤ h0 := by rw [hh0, hf]; exact high.out y
   have m3q : y / b ≤ h9 := by omega
   have m4q : l0 ≤ y / b := (Nat.le_div_iff_mul_le hb0).2 m1q
   have m5q : l0 ≤ h9 := Nat.le_trans m4q m3q
   have m6q : y < b * (h9 + 1) := by
    have := (Nat.div_lt_iff_lt_mul hb0).1 (Nat.lt_succ_of_le m3q)
    rwa [Nat.mul_comm] at this
   have m7q : h9 ≤ 9999 := by omega
   have i1q : (f : Int) / ((t : Int) + 1) = (l0 : Int) := by rw [hl0]; exact (Int.natCast_ediv f (t + 1)).symm
   have i2q : (f : Int) / (t : Int) = (h0 : Int) := by rw [hh0]; exact (Int.natCast_ediv f t).symm
   have i3q : min (h0 : Int) 9999 = (h9 : Int) := by omega
   have h0b : h0 ≤ f := by rw [hh0]; exact Nat.div_le_self _ _
   have hTR1 := Lib.hid (fun v wx h => hTR.out x y r hy hxb hyb v wx h)
   rw [Nat.mul_comm] at m1q
   replace m1q := Lib.hid m1q
   replace m6q := Lib.hid m6q
   replace hN := Lib.hid hN
   replace hy := Lib.hid hy
   replace hq9 := Lib.hid hq9
   replace hr := Lib.hid hr
   replace hkX := Lib.hid hkX
   replace hXl := Lib.hid hXl
   have hcX := hX.cell k hkX.out
   have hfX := hX.frozen k
   replace hX := Lib.hid hX
   replace hyb := Lib.hid hyb
   clear hS m2q m3q m4q hf hl0 hh0 hh9 lead hTR low high fb hrb
   rw [e1]
   have hrA := Lib.hid (hr.out.below ((Below.refl wr.heap.size wr).alloc (Nat.le_refl _) (.cells #[.int .i64 (x : Int)] 3)))
   have hlr1 := Lib.hid (show 1 + (td r).length ≤ 1000000 by omega)
   clear hlr
   go_wp2_with (at_builtin; refine wpList_append_sl rfl _ _ rfl wr.heap.size _ 1 [.int .i64 (x : Int)] rfl (own_one wr x) _ (td r) rfl hrA.out hlr1.out (by simp) ?_)
   intro v3 w3 hown hgrow
   have hs3 := Lib.hid (show Sl w3 v3 (x :: td r) from Sl.owned hown (by rw [List.length_cons, Nat.add_comm]))
   have hB3 : Below wr.heap.size wr w3 := ((Below.refl _ _).alloc (Nat.le_refl _) _).grown hgrow (by simp) (fun j hj => by simp [Value.ownBlock] at hj; omega)
   have hD3 := hbl.trans (hB3.mono hbl.size)
   have hX3 := Lib.hid (hX.out.below hB3 hX.out.lt)
   have ho3 : v3.ownBlock ≠ some g := fun e => by
    have := (hown.lt g e).1
    have := hX.out.lt
    omega
   clear hown hgrow hB3 hX hbl hcX hfX hcell hrA hr hlr1
   go_wp2_with fail
   with_reducible refine Calls.mono (hTR1.out _ _ hs3.out) ?_
   rintro e w4 ⟨v4, rfl, hv4, ho4, rfl⟩
   rw [← ho4] at ho3
   replace ho3 := Lib.hid ho3
   clear ho4
   replace hv4 := Lib.hid hv4
   clear hs3
   go_wp2_with fail
   with_reducible refine Calls.mono (LD.out _ _ hv4.out) ?_
   rintro e w4 ⟨rfl, rfl⟩
   have t1 : ¬ (t : Int) + 1 = 0 := by omega
   have t2 : ¬ (t : Int) = 0 := by omega
   go_wp2_with fail
   go_quiet (fail)
   go_wp2_with fail
   have hX3' := Lib.hid (hX3.out.drewN nq)
   have hD3' := ibdrew hD3 nq
   have hv4' := Lib.hid (show Rn (w3.drewN nq) v4 y from hv4.out.below (ibdrew (Below.refl _ _) nq))
   generalize hW4 : w3.drewN nq = w4 at *
   clear hW4 hX3 hD3 hv4
   go_loopw [12, 13] (fun lv hv wx => ∃ (l h : Nat), lv = .int .i64 (l : Int) ∧ hv = .int .i64 (h : Int) ∧ l ≤ h ∧ h ≤ 9999 ∧ b * l ≤ y ∧ y < b * (h + 1) ∧ IB wx g X ∧ Rn wx v4 y ∧ Below w.heap.size w wx) (fun lv hv _ => (intOf hv - intOf lv).toNat)
   case atStart => exact ⟨l0, h9, rfl, rfl, m5q, m7q, m1q.out, m6q.out, hX3'.out, hv4'.out, hD3'⟩
   case round =>
    obtain ⟨l, h, rfl, rfl, hlh, hh9, hq1, hq2, hXb, hvb, hbl⟩ := hrel
    replace hq1 := Lib.hid hq1
    replace hq2 := Lib.hid hq2
    have hXlt := hXb.lt
    clear hX3' hD3' hv4' m1q m6q m5q m7q i1q i2q i3q h0b hfb t1 t2 LD hTR1
    rcases Nat.lt_or_ge l h with hlt | hge
    ·have k2 : (l : Int) < (h : Int) := by omega
     obtain ⟨mid, hmid⟩ : ∃ mid, mid = (l + h + 1) / 2 := ⟨_, rfl⟩
     have hmv : ((l : Int) + (h : Int) + 1) / 2 = (mid : Int) := by omega
     have hm1 : l < mid := by omega
     have hm2 : mid ≤ h := by omega
     have hm9 : mid ≤ 9999 := by omega
     have hmidy : mid = (mid - 1) + 1 := by omega
     have OF := Lib.hid (fun wx => rof_any mid (by omega) wx)
     have hmB := Lib.hid (fun vx wx h1 h2 => MB.out mid hm9 vx wx h1 h2)
     have hcM := Lib.hid (fun vx wx h1 h2 => CM.out mid hm9 y hyb.out vx v4 wx h1 h2)
     replace hmid := Lib.hid hmid
     replace hmidy := Lib.hid hmidy
     replace hXb := Lib.hid hXb
     replace hvb := Lib.hid hvb
     go_wp2_with fail
     with_reducible refine Calls.mono (OF.out _) ?_
     rintro e w5 ⟨v5, rfl, hv5, hb5⟩
     replace hv5 := Lib.hid hv5
     have B5 := hbl.trans (hb5.mono hbl.size)
     have hvb5 := Lib.hid (hvb.out.below hb5)
     have hX5 := Lib.hid (hXb.out.below hb5 hXb.out.lt)
     clear hb5
     go_wp2_with fail
     with_reducible refine Calls.mono (hmB.out _ _ (hb.out.below B5) hv5.out) ?_
     rintro e w6 ⟨v6, rfl, hv6, hb6⟩
     replace hv6 := Lib.hid hv6
     have B6 := B5.trans (hb6.mono B5.size)
     have hvb6 := Lib.hid (hvb5.out.below hb6)
     have hX6 := Lib.hid (hX5.out.below hb6 hX5.out.lt)
     clear hb6 B5
     by_cases hle : b * mid ≤ y
     ·have k3 : decide (cmpI (b * mid) y ≤ 0) = true := decide_eq_true (by unfold cmpI; split <;> (try split) <;> omega)
      replace hle := Lib.hid hle
      generalize cmpI (b * mid) y = zz at *
      go_wp2_with fail
      with_reducible refine Calls.mono (hcM.out _ _ hv6.out hvb6.out) ?_
      rintro e w7 ⟨rfl, hb7⟩
      have B7 := B6.trans (hb7.mono B6.size)
      have hvb7 := Lib.hid (hvb6.out.below hb7)
      have hX7 := Lib.hid (hX6.out.below hb7 hX6.out.lt)
      clear hb7 B6
      go_wp2_with fail
      go_roundw
      case rel => exact ⟨mid, h, rfl, rfl, hm2, hh9, hle.out, hq2.out, hX7.out, hvb7.out, B7⟩
      case measure => simp [intOf]; omega
     ·have k3 : decide (cmpI (b * mid) y ≤ 0) = false := decide_eq_false (by rw [cmpI_gt (by omega)]; omega)
      replace hle := Lib.hid hle
      generalize cmpI (b * mid) y = zz at *
      go_wp2_with fail
      with_reducible refine Calls.mono (hcM.out _ _ hv6.out hvb6.out) ?_
      rintro e w7 ⟨rfl, hb7⟩
      have B7 := B6.trans (hb7.mono B6.size)
      have hvb7 := Lib.hid (hvb6.out.below hb7)
      have hX7 := Lib.hid (hX6.out.below hb7 hX6.out.lt)
      clear hb7 B6
      go_wp2_with fail
      go_roundw
      case rel => exact ⟨l, mid - 1, rfl, by first | rfl | go_num, by omega, by omega, hq1.out, (by rw [← hmidy.out]; exact Nat.lt_of_not_le hle.out), hX7.out, hvb7.out, B7⟩
      case measure => simp [intOf]; omega
    ·obtain rfl : l = h := by omega
     have k2 : ¬ (l : Int) < (l : Int) := by omega
     have hyd : y / b = l := Nat.div_eq_of_lt_le (by rw [Nat.mul_comm]; exact hq1.out) (by rw [Nat.mul_comm]; exact hq2.out)
     rw [hyd] at hN hq9
     have OF := Lib.hid (fun wx => rof_any l (by omega) wx)
     have hmB := Lib.hid (fun vx wx h1 h2 => MB.out l hh9 vx wx h1 h2)
     have hsB := Lib.hid (fun vx wx h1 h2 => SB.out l y hyb.out hq1.out vx v4 wx h1 h2)
     have hcX := hXb.cell k hkX.out
     have hfX := hXb.frozen k
     have hb1 := hbl.setCell (p := ⟨g, k, none⟩) hgB (.int .i64 (l : Int))
     have hXs := Lib.hid (hXb.set k l)
     have hvs := Lib.hid (Sl.set_off (k := k) (u := .int .i64 (l : Int)) hvb ho3.out)
     replace hXb := Lib.hid hXb
     go_wp2_with fail
     with_reducible refine Calls.mono (OF.out _) ?_
     rintro e w5 ⟨v5, rfl, hv5, hb5⟩
     replace hv5 := Lib.hid hv5
     have B5 := hb1.trans (hb5.mono hb1.size)
     have hvb5 := Lib.hid (hvs.out.below hb5)
     have hX5 := Lib.hid (hXs.out.below hb5 hXs.out.lt)
     clear hb5 hXs hvs hcX hfX hb1
     go_wp2_with fail
     with_reducible refine Calls.mono (hmB.out _ _ (hb.out.below B5) hv5.out) ?_
     rintro e w6 ⟨v6, rfl, hv6, hb6⟩
     replace hv6 := Lib.hid hv6
     have B6 := B5.trans (hb6.mono B5.size)
     have hvb6 := Lib.hid (hvb5.out.below hb6)
     have hX6 := Lib.hid (hX5.out.below hb6 hX5.out.lt)
     clear hb6 B5
     go_wp2_with fail
     with_reducible refine Calls.mono (hsB.out _ _ hvb6.out hv6.out) ?_
     rintro e w7 ⟨v7, rfl, hv7, hb7⟩
     replace hv7 := Lib.hid hv7
     have B7 := B6.trans (hb7.mono B6.size)
     have hX7 := Lib.hid (hX6.out.below hb7 hX6.out.lt)
     clear hb7 B6
     go_wp2_with fail
     go_roundw
     case rel => exact ⟨k, X.set k l, y - b * l, by first | rfl | go_num, by omega, by rw [List.length_set]; exact hXl.out, hN.out, hX7.out, hv7.out, B7⟩
     case measure => simp [intOf]
/-- Div, for b above 0. -/
theorem rdiv_any (va vb : Value) (a b : Nat) (hb0 : 0 < b) (la : (td a).length ≤ 1000) (lb : (td b).length ≤ 1000) (w : World) (ha : Rn w va a) (hb : Rn w vb b) :
  Calls Tryz.prog 49 #[va, vb] w fun e w' => ∃ v1 v2, e = .returned (.tuple #[v1, v2]) ∧ Rn w' v1 (a / b) ∧ Rn w' v2 (a % b) ∧ Below w.heap.size w w' := by
 rcases Nat.lt_or_ge a b with h | h
 ·refine (rdiv_small va vb a b h la lb w ha hb).mono ?_
  rintro e w' ⟨rfl, hbl⟩
  refine ⟨_, _, rfl, ?_, ?_, hbl⟩
  ·rw [Nat.div_eq_of_lt h]
   show Sl w' _ (td 0)
   rw [td_zero]; exact Sl.nil w'
  ·rw [Nat.mod_eq_of_lt h]; exact ha.below hbl
 ·exact rdiv_big va vb a b h hb0 la w ha hb
end Go.Proofs.YtaimebjkidegiaaGreatDoor.Rx
namespace Go.Proofs.YtaimebjkidegiaaGreatDoor.Rx
open Go.RowKit
attribute [local irreducible] tv dg cmpI txt decB nb isq
theorem Sl.inj {w : World} {v : Value} {l m : List Nat} (h : Sl w v l) (k : Sl w v m) : l = m := by
 rcases h with ⟨ao, c, e1, rfl, -⟩ | ⟨a, c, e1, -, h3⟩
 ·rcases k with ⟨_, _, _, rfl, -⟩ | ⟨a', c', e2, -, -⟩
  ·rfl
  ·rw [e1] at e2
   injection e2 with _ e3 _
   exact (List.eq_nil_of_length_eq_zero e3.symm).symm
 ·rcases k with ⟨_, _, e2, rfl, -⟩ | ⟨a', c', e2, -, k3⟩
  ·rw [e1] at e2
   injection e2 with _ e3 _
   exact List.eq_nil_of_length_eq_zero e3
  ·rw [e1] at e2
   injection e2 with e4 e3 _
   injection e4 with e4
   subst e4
   refine List.ext_getElem e3 fun i h1 h2 => ?_
   have := (h3.cell i h1).symm.trans (k3.cell i h2)
   injection this with this
   injection this with _ this
   exact Int.ofNat.inj this
theorem Rn.inj {w : World} {v : Value} {x y : Nat} (h : Rn w v x) (k : Rn w v y) : x = y := by
 have := congrArg tv (Sl.inj h k)
 rwa [tv_td, tv_td] at this
open Classical in
noncomputable def dec (w : World) (v : Value) : Nat := if h : ∃ y, Rn w v y then h.choose else 0
theorem dec_eq {w : World} {v : Value} {y : Nat} (h : Rn w v y) : dec w v = y := by
 unfold dec
 rw [dif_pos ⟨y, h⟩]
 exact Rn.inj (Exists.choose_spec (⟨y, h⟩ : ∃ y, Rn w v y)) h
theorem rgcd_any (va vb : Value) (a b : Nat) (la : (td a).length ≤ 1000) (lb : (td b).length ≤ 1000) (w : World) (ha : Rn w va a) (hb : Rn w vb b) :
  Calls Tryz.prog 226 #[va, vb] w fun e w' => ∃ v, e = .returned v ∧ Rn w' v (Nat.gcd a b) ∧ Below w.heap.size w w' := by
 replace ha := Lib.hid ha
 replace hb := Lib.hid hb
 go_enter Tryz.func226, Tryz.ntmps226
 go_wp2_with fail
 go_loopw [0, 1] (fun av bv wr => ∃ (x y : Nat), Rn wr av x ∧ Rn wr bv y ∧ Nat.gcd x y = Nat.gcd a b ∧ (td x).length ≤ 1000 ∧ (td y).length ≤ 1000 ∧ Below w.heap.size w wr) (fun _ bv wr => dec wr bv)
 case atStart => exact ⟨a, b, ha.out, hb.out, rfl, la, lb, Below.refl _ _⟩
 case round =>
  obtain ⟨x, y, hx, hy, hg, lx, ly, hbl⟩ := hrel
  clear ha hb
  have hm := Lib.hid (dec_eq hy)
  obtain ⟨yo, yc, ey⟩ := hy.form
  obtain ⟨xo, xc, ex⟩ := hx.form
  subst ey ex
  obtain ⟨M, hM⟩ : ∃ M, M = (td y).length := ⟨_, rfl⟩
  rcases Nat.eq_zero_or_pos y with h0 | h0
  ·have hM0 : M = 0 := by rw [hM, h0, td_zero]; rfl
   have hgx : x = Nat.gcd a b := by rw [← hg, h0, Nat.gcd_zero_right]
   rw [← hM, hM0]
   rw [hgx] at hx
   rw [hgx]
   replace hx := Lib.hid hx
   clear hy hm hM hM0 hg hgx
   go_wp2_with fail
   go_ret
   exact ⟨_, rfl, hx.out, hbl⟩
  ·have D := Lib.hid (rdiv_any _ _ x y h0 lx ly wr hx hy)
   rw [← hM] at hy ly D hm ⊢
   have hMp : (0 : Int) < (M : Int) := by
    have : M ≠ 0 := fun h => by
     have := td_nil.1 (List.eq_nil_of_length_eq_zero (hM.symm.trans h))
     omega
    omega
   replace hy := Lib.hid hy
   replace hM := Lib.hid hM
   clear hx
   generalize (td x).length = N at *
   go_wp2_with fail
   with_reducible refine Calls.mono D.out ?_
   rintro e w1 ⟨v1, v2, rfl, h1, h2, hb1⟩
   replace h2 := Lib.hid h2
   clear h1
   have hyb := Lib.hid (hy.out.below hb1)
   have hD := hbl.trans (hb1.mono hbl.size)
   go_wp2_with fail
   go_roundw
   case rel => exact ⟨y, x % y, hyb.out, h2.out, (by rw [← hg, Nat.gcd_comm x y, Nat.gcd_rec y x, Nat.gcd_comm]), (by rw [← hM.out]; exact ly), Nat.le_trans (td_mono (Nat.le_of_lt (Nat.mod_lt x h0))) (by rw [← hM.out]; exact ly), hD⟩
   case measure => rw [dec_eq h2.out, hm.out]; exact Nat.mod_lt x h0
end Go.Proofs.YtaimebjkidegiaaGreatDoor.Rx
namespace Go.Proofs.YtaimebjkidegiaaGreatDoor
open Go.RowKit Go.Proofs.YtaimebjkidegiaaGreatDoor.Rx
attribute [local irreducible] lo hs sm s64 c64 d64 b64 mh ml pd pc qd qc val hiB str cmpI srD lz nb isq decB zl zh zs dval
theorem td_of_digs {n k : Nat} (h : (digs n).length ≤ k) : (td n).length ≤ 5 * k := by
 rw [td_length, Nat.pow_mul]
 refine Nat.lt_of_lt_of_le (digs_length_iff.1 h) (Nat.pow_le_pow_left ?_ k)
 unfold Bs; omega
theorem Sz.tn {q : Rat} {k : Nat} (h : Sz q k) : (td q.num.natAbs).length ≤ 5 * k := td_of_digs h.1
theorem Sz.tdn {q : Rat} {k : Nat} (h : Sz q k) : (td q.den).length ≤ 5 * k := td_of_digs h.2
theorem Sz.tf {q : Rat} {k : Nat} (h : Sz q k) : (td (fd q)).length ≤ 5 * k := Nat.le_trans (td_mono (Nat.sub_le _ _)) h.tdn
theorem fd_succ (q : Rat) : fd q + 1 = q.den := by have := q.den_nz; unfold fd; omega
theorem td_one : (td 1).length ≤ 1 := by rw [td_length]; omega
theorem one_r (w : World) : Calls Tryz.prog 52 #[.int .u64 1] w fun e w' => ∃ v, e = .returned v ∧ Rn w' v 1 ∧ Below w.heap.size w w' := rof_val 1 1 rfl (by omega) w
theorem rone (w : World) : Calls Tryz.prog 125 #[] w fun e w' => ∃ v, e = .returned v ∧ Rn w' v 1 ∧ Below w.heap.size w w' := rone_w one_r w
/-- From, of a sign and a size. -/
theorem rz_from (b : Bool) (n : Nat) (z : Int) (hb : (b && decide (n ≠ 0)) = decide (z < 0)) (hn : n = z.natAbs) (v : Value) (w : World) (h : Rn w v n) :
  Calls Tryz.prog 193 #[.bool b, v] w fun e w' => ∃ v, e = .returned v ∧ RZ w' v z ∧ Below w.heap.size w w' :=
 (rfrom_any b v n w h).mono fun e w' ⟨h1, h2⟩ => ⟨_, h1, RZ.of (Sl.below h h2) hb hn, h2⟩
theorem rden (q : Rat) {k : Nat} (hq : Sz q k) (hk : k ≤ 1000) (v : Value) (w : World) (h : RF w v q) :
  Calls Tryz.prog 48 #[v] w fun e w' => ∃ v, e = .returned v ∧ Rn w' v q.den ∧ Below w.heap.size w w' :=
 rfden_w q q.den rone (fun v1 v2 w h1 h2 => by rw [← fd_succ q]; exact radd_any v1 v2 _ 1 (Nat.le_trans hq.tf (by omega)) (Nat.le_trans td_one (by omega)) w h1 h2) v w h
theorem rfrom (z : Int) (d : Nat) (h0 : d ≠ 0) (lz : (Rx.td z.natAbs).length ≤ 1000) (ld : (Rx.td d).length ≤ 1000) (v1 v2 : Value) (w : World) (h1 : RZ w v1 z) (h2 : Rn w v2 d) :
  Calls Tryz.prog 192 #[v1, v2] w fun e w' => ∃ v, e = .returned v ∧ RF w' v (mkRat z d) ∧ Below w.heap.size w w' := by
 obtain ⟨c1, c2⟩ := canc (z := z) h0
 have hg : 0 < Nat.gcd z.natAbs d := Nat.gcd_pos_of_pos_right _ (by omega)
 have hgl : (Rx.td (Nat.gcd z.natAbs d)).length ≤ 1000 := Nat.le_trans (td_mono (Nat.gcd_le_right _ (by omega))) ld
 have e1 : d / Nat.gcd z.natAbs d = (mkRat z d).den := c2.symm
 have e2 : (mkRat z d).num.natAbs = z.natAbs / Nat.gcd z.natAbs d := by rw [c1, Int.natAbs_tdiv]; rfl
 have e3 : (zs z && decide (z.natAbs / Nat.gcd z.natAbs d ≠ 0)) = decide ((mkRat z d).num < 0) := by
  rw [c1, tdiv_sgn]
  generalize z.natAbs / Nat.gcd z.natAbs d = x
  unfold zs
  by_cases h : z < 0 <;> by_cases h' : x = 0 <;> simp [h, h'] <;> omega
 exact rffrom_w z d (Nat.gcd z.natAbs d) (z.natAbs / Nat.gcd z.natAbs d) (z.natAbs % Nat.gcd z.natAbs d) (d / Nat.gcd z.natAbs d) (d % Nat.gcd z.natAbs d) (mkRat z d)
  (fun a b w ha hb => rgcd_any a b _ _ lz ld w ha hb) (fun a b w ha hb => rdiv_any a b _ _ hg lz hgl w ha hb) (fun a b w ha hb => rdiv_any a b _ _ hg ld hgl w ha hb)
  (fun a w ha => rz_from _ _ _ e3 e2.symm a w ha) rone
  (fun a b w ha hb => by
   have h3 := (mkRat z d).den_nz
   have := rsub_any a b _ 1 (by rw [e1]; exact Nat.le_trans (td_mono (by rw [c2]; exact Nat.div_le_self _ _)) (Nat.le_trans ld (by omega))) (by omega) w ha hb
   rw [e1] at this
   exact this) v1 v2 w h1 h2
theorem rzsignI (z : Int) (v : Value) (w : World) (h : RZ w v z) : Calls Tryz.prog 224 #[v] w fun e w' => e = .returned (.int .i64 (sgn z)) ∧ Below w.heap.size w w' := by
 obtain ⟨ao, c, rfl⟩ := rz_form h
 unfold sgn
 by_cases h0 : z < 0
 ·rw [if_pos h0, show zs z = true from by unfold zs; exact decide_eq_true h0]
  exact rzsign_neg ao _ c (Nat.pos_of_ne_zero fun e => by have := (td_len_zero _).1 e; omega) w
 ·rw [if_neg h0, show zs z = false from by unfold zs; exact decide_eq_false h0]
  by_cases h1 : z = 0
  ·rw [if_pos h1]
   exact rzsign_zero false ao _ c ((td_len_zero _).2 (by omega)) w
  ·rw [if_neg h1]
   exact rzsign_pos ao _ c (Nat.pos_of_ne_zero fun e => by have := (td_len_zero _).1 e; omega) w
theorem rsign (q : Rat) (v : Value) (w : World) (h : RF w v q) : Calls Tryz.prog 190 #[v] w fun e w' => e = .returned (.int .i64 (sgnQ q)) ∧ Below w.heap.size w w' := by
 rw [sgnQ_num]; exact rfsign_w q _ (rzsignI q.num) v w h
theorem mk_mul (p q : Rat) : mkRat (p.num * q.num) (p.den * q.den) = p * q := (Rat.mul_def' p q).symm
theorem rmul (p q : Rat) {k : Nat} (hp : Sz p k) (hq : Sz q k) (hk : k ≤ 90) (v1 v2 : Value) (w : World) (h1 : RF w v1 p) (h2 : RF w v2 q) :
  Calls Tryz.prog 191 #[v1, v2] w fun e w' => ∃ v, e = .returned v ∧ RF w' v (p * q) ∧ Below w.heap.size w w' := by
 have a1 := hp.tn; have a2 := hq.tn; have a3 := hp.tdn; have a4 := hq.tdn
 have t1 := td_mul_le a1 a2; have t3 := td_mul_le a3 a4
 have g1 : (Rx.td (p.num * q.num).natAbs).length ≤ 5 * k + 5 * k := by rw [Int.natAbs_mul]; exact t1
 rw [← mk_mul]
 exact rfmul_w p q _ (p.num * q.num) p.den q.den (p.den * q.den) (fun a b w ha hb => rzmulI a b _ _ (by omega) (by omega) w ha hb) (rden p hp (by omega)) (rden q hq (by omega)) (fun a b w ha hb => rmul_any a b _ _ (by omega) (by omega) w ha hb)
  (rfrom _ _ (Nat.mul_ne_zero p.den_nz q.den_nz) (by omega) (by omega)) v1 v2 w h1 h2
theorem mk_inv {q : Rat} (h : q ≠ 0) : mkRat (if q.num < 0 then -(q.den : Int) else (q.den : Int)) q.num.natAbs = q⁻¹ := by
 obtain ⟨h1, h2⟩ := rinv_parts h
 rw [← h1, ← h2, Rat.mkRat_self]
theorem rdivF (p q : Rat) {k : Nat} (hp : Sz p k) (hq : Sz q k) (h0 : q ≠ 0) (hk : k ≤ 90) (v1 v2 : Value) (w : World) (h1 : RF w v1 p) (h2 : RF w v2 q) :
  Calls Tryz.prog 131 #[v1, v2] w fun e w' => ∃ v, e = .returned v ∧ RF w' v (p / q) ∧ Below w.heap.size w w' := by
 have a2 := hq.tn; have a4 := hq.tdn
 have hn : q.num ≠ 0 := fun e => h0 (Rat.num_eq_zero.1 e)
 have hd := q.den_nz
 have hs : (sgnQ q == 0) = false := beq_eq_false_iff_ne.2 (by rw [sgnQ_num]; split <;> (try split) <;> omega)
 rw [Rat.div_def]
 have e : (zs q.num && decide (q.den ≠ 0)) = decide ((if q.num < 0 then -(q.den : Int) else (q.den : Int)) < 0) := by
  unfold zs
  by_cases h : q.num < 0 <;> simp [h, hd] <;> omega
 have e2 : q.den = (if q.num < 0 then -(q.den : Int) else (q.den : Int)).natAbs := by split <;> simp
 have hf := rfrom (if q.num < 0 then -(q.den : Int) else (q.den : Int)) q.num.natAbs (by omega) (by rw [← e2]; omega) (by omega)
 rw [mk_inv h0] at hf
 exact rfdiv_w p q q⁻¹ _ _ _ q.den (rsign q) (rden q hq (by omega)) (rz_from _ _ _ e e2) hf (rmul p q⁻¹ hp (hq.inv h0) hk) hs v1 v2 w h1 h2
end Go.Proofs.YtaimebjkidegiaaGreatDoor
namespace Go.Proofs.YtaimebjkidegiaaGreatDoor
open Go.RowKit Go.Proofs.YtaimebjkidegiaaGreatDoor.Rx
attribute [local irreducible] lo hs sm s64 c64 d64 b64 mh ml pd pc qd qc val hiB str cmpI srD lz nb isq decB zl zh zs dval tln fd txt
def txL (rem : Nat → Nat) (n : Nat) : List Value := (List.range n).map fun i => Value.string (txt (rem i))
theorem txL_succ (rem : Nat → Nat) (n : Nat) : txL rem (n + 1) = txL rem n ++ [.string (txt (rem n))] := by unfold txL; rw [List.range_succ, List.map_append]; rfl
theorem txL_get (rem : Nat → Nat) {n i : Nat} (h : i < n) : (txL rem n)[i]? = some (.string (txt (rem i))) := by unfold txL; simp [h]
theorem txt_inj {a b : Nat} (h : (txt a).toList = (txt b).toList) : a = b := by
 rw [ByteArray.toList_eq, ByteArray.toList_eq] at h
 unfold txt at h
 exact dec_inj h
theorem tln0 : tln 0 = 0 := by unfold tln; rw [td_zero]; rfl
theorem tln_zero {m : Nat} (h : tln m = 0) : m = 0 := by
 unfold tln at h
 exact td_nil.1 (List.length_eq_zero_iff.1 h)
theorem rem_lt {a D : Nat} (h : 0 < D) (n : Nat) : remN a D n < D := by unfold remN; exact Nat.mod_lt _ h
theorem td_lt_len {m D k : Nat} (h : m < D) (hk : (td D).length ≤ k) : (td m).length ≤ k := Nat.le_trans (td_mono (Nat.le_of_lt h)) hk
theorem rcyc_any (q : Rat) {k : Nat} (hq : Sz q k) (hk : k ≤ 50) (x y c : Int) (hC : CycA q.den x y c) (v : Value) (w : World) (h : RF w v q) :
  Calls Tryz.prog 12 #[v] w fun e w' => e = .returned (.tuple #[.int .i64 x, .int .i64 y, .int .i64 c]) ∧ Below w.heap.size w w' := by
 have HD := Lib.hid (fun (w' : World) (hb : Below w.heap.size w w') => rden q hq (by omega) v w' (h.below hb))
 have lA := Lib.hid (show (td q.num.natAbs).length ≤ 250 from Nat.le_trans hq.tn (by omega))
 have lD := Lib.hid (show (td q.den).length ≤ 250 from Nat.le_trans hq.tdn (by omega))
 have hcop := Lib.hid (show Nat.Coprime q.num.natAbs q.den from q.reduced)
 have hpos := Lib.hid (show 0 < q.den from q.den_pos)
 replace hC := Lib.hid hC
 obtain ⟨xa, xc, xb, xd, rfl⟩ := rf_form h
 have hA1 := Lib.hid (rf_rn1 h)
 clear h hq
 generalize tln q.num.natAbs = nA at *
 generalize tln (fd q) = nF at *
 generalize q.num.natAbs = a at *
 generalize hDD : q.den = D at *
 clear hDD
 have hL0 : GL w w [] := GL.start w
 replace hL0 := hL0.new rfl [.bool (zs q.num), .slice xa nA xc, .slice xb nF xd] 42
 generalize zs q.num = sq at *
 generalize hweq : w.alloc (.cells #[.bool sq, .slice xa nA xc, .slice xb nF xd] 42) = x1 at hL0
 go_enter Tryz.func12, Tryz.ntmps12
 have hN0 := cells_of _ 0 [] rfl (hL0.get _ _ mZ)
 simp only [zF, Nat.reduceAdd] at hN0
 go_wp2_with fail
 clear hN0
 with_reducible refine Calls.mono (HD.out x1 hL0.bl) ?_
 rintro e x2 ⟨vd, rfl, hvd, hb⟩
 replace hL0 := hL0.call hb
 clear hb hweq
 have hN0 := cells_of _ 0 [] rfl (hL0.get _ _ mZ)
 simp only [zF, Nat.reduceAdd] at hN0
 go_wp2_with fail
 clear hN0
 with_reducible refine Calls.mono (rdiv_any _ _ a D hpos.out (by have := lA.out; omega) (by have := lD.out; omega) x2 (hA1.out.below hL0.bl) hvd) ?_
 rintro e x3 ⟨v1, v2, rfl, -, hr0, hb⟩
 have hvd2 := Lib.hid (hvd.below hb)
 have hbw := Lib.hid (hL0.call hb).bl
 clear hL0 hvd hb HD hA1
 rw [show a % D = remN a D 0 by unfold remN; rw [Nat.pow_zero, Nat.mul_one]] at hr0
 obtain ⟨E, hE⟩ : ∃ E, E = x3.heap.size := ⟨_, rfl⟩
 have hEw := Lib.hid (show w.heap.size ≤ E by rw [hE]; exact hbw.out.size)
 replace hE := Lib.hid hE
 go_wp2_with fail
 go_loopw [7, 8, 9] (fun rv sv nv wr => ∃ (n : Nat) (zi : Int) (ur us : Value), ur = rv ∧ us = sv ∧ n ≤ 102 ∧ nv = .int .i64 zi ∧ zi = (n : Int) ∧ Rn wr ur (remN a D n) ∧ StrRow wr E us n (txL (remN a D) n) ∧ Fresh (remN a D) (min n 101) ∧ Below E x3 wr) (fun _ _ nv _ => 102 - (intOf nv).toNat)
 case atStart => exact ⟨0, 0, _, _, rfl, rfl, by omega, by first | rfl | go_num, rfl, hr0, StrRow.nil _ _, Fresh.zero _, Below.refl _ _⟩
 case round =>
  clear hr0
  obtain ⟨n, zi, r, s, rfl, rfl, hn, rfl, hzi, hR, hO, hF, hB⟩ := hrel
  have hEr := Lib.hid (show E ≤ wr.heap.size by rw [hE.out]; exact hB.size)
  replace hF := Lib.hid hF
  replace hB := Lib.hid hB
  rcases Nat.lt_or_ge 101 n with hin | hin
  ·obtain rfl : n = 102 := by omega
   subst hzi
   have hfin := Lib.hid (cyc_never a D hpos.out hcop.out x y c hC.out hF.out)
   clear hF hC
   have k1 : ¬ ((102 : Nat) : Int) ≤ 101 := by omega
   have hbf := hbw.out.trans (hB.out.mono hEw.out)
   clear hR hO
   go_wp2_with fail
   exact bodyPost_ret (v := .tuple #[.int .i64 0, .int .i64 0, .int .i64 3]) (by simp [results, Tryz.results12, go_sem]) rfl ⟨by rw [hfin.out.1, hfin.out.2.1, hfin.out.2.2], hbf⟩
  ·have k1 : (n : Int) ≤ 101 := by omega
   have k0 : (0 : Int) ≤ (n : Int) := Int.natCast_nonneg _
   have hmD := Lib.hid (td_lt_len (rem_lt (a := a) hpos.out n) lD.out)
   obtain ⟨ar, cr, rfl⟩ := rn_form hR
   obtain ⟨L, hL⟩ : ∃ L, L = tln (remN a D n) := ⟨_, rfl⟩
   rw [← hL] at hR ⊢
   have hz0 : L = 0 → remN a D n = 0 := fun e => tln_zero (by rw [← hL]; exact e)
   have hz1 := Lib.hid hz0
   replace hL := Lib.hid hL
   clear hz0
   by_cases hret : L = 0 ∧ n ≤ 100
   ·obtain ⟨e0, hn100⟩ := hret
    subst e0
    have hfin := Lib.hid (cyc_zero a D hpos.out hcop.out x y c hC.out n hn100 (hz1.out rfl) (by have := hF.out; rwa [show min n 101 = n by omega] at this))
    subst hzi
    have k2 : (n : Int) ≤ 100 := by omega
    have hbf := hbw.out.trans (hB.out.mono hEw.out)
    clear hR hO hF hC
    go_wp2_with fail
    exact bodyPost_ret (v := .tuple #[.int .i64 (n : Int), .int .i64 0, .int .i64 0]) (by simp [results, Tryz.results12, go_sem]) rfl ⟨by rw [hfin.out.1, hfin.out.2.1, hfin.out.2.2], hbf⟩
   ·have hq0 : True := trivial
    have hnz := Lib.hid (show n ≤ 100 → remN a D n ≠ 0 from fun g e => hret ⟨by rw [hL.out, e]; exact tln0, g⟩)
    clear hz1
    rcases Nat.eq_zero_or_pos L with hL0' | hL0'
    ·have hn101 : n = 101 := by
      rcases Nat.lt_or_ge 100 n with g | g
      ·omega
      ·exact absurd ⟨hL0', g⟩ hret
     replace hret := Lib.hid hret
     subst hL0'
     have k2 : ¬ (n : Int) ≤ 100 := by omega
     replace hn101 := Lib.hid hn101
     subst hzi
     have hR2 := Lib.hid hR
     have hO2 := Lib.hid hO
     clear hR hO
     go_wp2_with fail
     with_reducible refine Calls.mono (rtext_any _ (remN a D n) (by have := hmD.out; omega) wr hR2.out) ?_
     rintro e w1 ⟨rfl, hb⟩
     have hR3 := Lib.hid (hR2.out.below hb)
     have hO3 := Lib.hid (hO2.out.below hb)
     have hE3 := Lib.hid (Nat.le_trans hEr.out hb.size)
     have hB3 := Lib.hid (hB.out.trans (hb.mono hEr.out))
     clear hb hR2 hO2 hB
     obtain ⟨ao, co, rfl, hv⟩ := hO3.out.view
     replace hv := Lib.hid hv
     obtain ⟨S, hS⟩ : ∃ S, S = txt (remN a D n) := ⟨_, rfl⟩
     rw [← hS]
     replace hS := Lib.hid hS
     go_wp2_with fail
     go_loopw [11] (fun iv wi => ∃ (i : Nat) (yi : Int), i ≤ n ∧ iv = .int .i64 yi ∧ yi = (i : Int) ∧ w1 = wi ∧ (n ≤ 100 → ∀ j, j < i → remN a D j ≠ remN a D n)) (fun iv _ => n - (intOf iv).toNat)
     case atStart => exact ⟨0, 0, Nat.zero_le _, by first | rfl | go_num, rfl, rfl, fun _ j hj => absurd hj (Nat.not_lt_zero _)⟩
     case round =>
      obtain ⟨i, yi, hi, rfl, hyi, rfl, hall⟩ := hrel
      subst hyi
      replace hall := Lib.hid hall
      rcases Nat.lt_or_ge i n with hlt | hge
      ·obtain ⟨g, rfl, hcell⟩ := hv.out (by omega)
       have hc := hcell i _ (txL_get (remN a D) hlt)
       have k3 : (i : Int) < (n : Int) := by omega
       have k4 : (0 : Int) ≤ (i : Int) := Int.natCast_nonneg _
       clear hcell
       by_cases heq : remN a D i = remN a D n
       ·rw [heq, ← hS.out] at hc
        by_cases h100 : n ≤ 100
        ·have hfin := Lib.hid (cyc_back a D hpos.out hcop.out x y c hC.out n i h100 hlt (by have := hF.out; rwa [show min n 101 = n by omega] at this) heq)
         have k5 : (n : Int) ≤ 100 := by omega
         have hbf := hbw.out.trans (hB3.out.mono hEw.out)
         replace heq := Lib.hid heq
         go_wp2_with fail
         exact bodyPost_ret (v := .tuple #[.int .i64 (i : Int), .int .i64 ((n : Int) - (i : Int)), .int .i64 0]) (by simp [results, Tryz.results12, go_sem]) rfl ⟨by rw [hfin.out.1, hfin.out.2.1, hfin.out.2.2], hbf⟩
        ·have k5 : ¬ (n : Int) ≤ 100 := by omega
         replace heq := Lib.hid heq
         go_wp2_with fail
         go_roundw
         case rel => exact ⟨i + 1, _, by omega, by first | rfl | go_num, by omega, by trivial, fun h => absurd h h100⟩
         case measure => simp [intOf] <;> omega
       ·have hne1 : ¬ (txt (remN a D i)).toList = S.toList := fun e => heq (txt_inj (by rw [e, hS.out]))
        have hne2 : ((txt (remN a D i)).toList == S.toList) = false := beq_eq_false_iff_ne.2 hne1
        have hal2 := Lib.hid (show n ≤ 100 → ∀ j, j < i + 1 → remN a D j ≠ remN a D n from fun h j hj => by
         rcases Nat.lt_or_ge j i with g1 | g1
         ·exact hall.out h j g1
         ·obtain rfl : j = i := by omega
          exact heq)
        replace heq := Lib.hid heq
        generalize txt (remN a D i) = TT at hc hne1 hne2
        go_wp2_with fail
        go_roundw
        case rel => exact ⟨i + 1, _, by omega, by first | rfl | go_num, by omega, by trivial, hal2.out⟩
        case measure => simp [intOf] <;> omega
      ·obtain rfl : i = n := by omega
       have k3 : ¬ (i : Int) < (i : Int) := by omega
       generalize hweq : w1.alloc (.cells #[.string S] 9) = w2
       have hb2 : Below w1.heap.size w1 w2 := by rw [← hweq]; exact (Below.refl _ _).alloc (Nat.le_refl _) _
       have hc2 := Lib.hid (show w2.cell? ⟨w1.heap.size, 0, none⟩ = some (.string S) by rw [← hweq]; exact cell_new _ _ _)
       have hO4 := Lib.hid (hO3.out.below hb2)
       have hR4 := Lib.hid (hR3.out.below hb2)
       have hE4 := Lib.hid (Nat.le_trans hE3.out hb2.size)
       have hB4 := Lib.hid (hB3.out.trans (hb2.mono hE3.out))
       clear hb2 hO3 hR3 hE3 hB3 hv
       go_wp2_with (at_builtin; refine wp_append_str rfl _ _ rfl E _ _ _ rfl hO4.out ⟨w1.heap.size, 0, none⟩ 1 S rfl hc2.out (by omega) hE4.out ?_)
       intro v' w3 hO5 hgrow
       have hR5 := sl_grown hR4.out hO4.out hgrow
       have hE5 := Lib.hid (Nat.le_trans hE4.out hgrow.size)
       have hB5 := Lib.hid (hB4.out.grown hgrow hE4.out (fun k hk => (hO4.out.1.lt k hk).1))
       replace hO5 := Lib.hid hO5
       clear hgrow hO4 hR4 hB4 hE4 hc2 hweq
       go_wp2_with fail
       with_reducible refine Calls.mono (rof_val 10 10 rfl (by decide) _) ?_
       rintro e w4 ⟨v4, rfl, hr4, hb4⟩
       have hR6 := Sl.below hR5 hb4
       have hO6 := Lib.hid (hO5.out.below hb4)
       have hB6 := Lib.hid (hB5.out.trans (hb4.mono hE5.out))
       have hE6 := Lib.hid (Nat.le_trans hE5.out hb4.size)
       clear hR5 hO5 hB5 hE5 hb4
       go_wp2_with fail
       with_reducible refine Calls.mono (rmul_any _ _ (remN a D i) 10 (by have := hmD.out; omega) (Nat.le_trans (td_length.2 (show 10 < 10000 ^ 1 by decide)) (by decide)) w4 hR6 hr4) ?_
       rintro e w5 ⟨v5, rfl, hr5, hb5⟩
       have hO7 := Lib.hid (hO6.out.below hb5)
       have hB7 := Lib.hid (hB6.out.trans (hb5.mono hE6.out))
       have hE7 := Lib.hid (Nat.le_trans hE6.out hb5.size)
       have hvdw := Lib.hid (Sl.below hvd2.out (hB7.out.mono (by rw [hE.out]; exact Nat.le_refl _)))
       clear hR6 hr4 hO6 hB6 hE6 hb5
       go_wp2_with fail
       with_reducible refine Calls.mono (rdiv_any _ _ (remN a D i * 10) D hpos.out (Nat.le_trans (td_mul_le hmD.out (td_length.2 (show 10 < 10000 ^ 1 by decide))) (by decide)) (by have := lD.out; omega) w5 hr5 hvdw.out) ?_
       rintro e w6 ⟨v6, v7, rfl, -, hr7, hb6⟩
       rw [rem_step] at hr7
       have hO8 := Lib.hid (hO7.out.below hb6)
       have hB8 := Lib.hid (hB7.out.trans (hb6.mono hE7.out))
       replace hr7 := Lib.hid hr7
       clear hr5 hO7 hB7 hE7 hb6 hvdw
       go_wp2_with fail
       go_roundw
       case rel =>
        refine ⟨i + 1, _, _, _, rfl, rfl, by omega, by first | rfl | go_num, by omega, hr7.out, by rw [txL_succ, ← hS.out]; exact hO8.out, ?_, hB8.out⟩
        rcases Nat.lt_or_ge 100 i with g | g
        ·have := hF.out
         rw [show min i 101 = 101 by omega] at this
         rw [show min (i + 1) 101 = 101 by omega]; exact this
        ·have := hF.out
         rw [show min i 101 = i by omega] at this
         rw [show min (i + 1) 101 = i + 1 by omega]
         exact this.next (hnz.out g) (hall.out g)
       case measure => simp [intOf] <;> omega
    ·have hf0 : ¬ (L : Int) = 0 := by omega
     have hf1 : ¬ L = 0 := by omega
     have hf2 : ((L : Int) == 0) = false := by rw [beq_eq_false_iff_ne]; exact hf0
     clear hret
     subst hzi
     have hR2 := Lib.hid hR
     have hO2 := Lib.hid hO
     clear hR hO
     go_wp2_with fail
     with_reducible refine Calls.mono (rtext_any _ (remN a D n) (by have := hmD.out; omega) wr hR2.out) ?_
     rintro e w1 ⟨rfl, hb⟩
     have hR3 := Lib.hid (hR2.out.below hb)
     have hO3 := Lib.hid (hO2.out.below hb)
     have hE3 := Lib.hid (Nat.le_trans hEr.out hb.size)
     have hB3 := Lib.hid (hB.out.trans (hb.mono hEr.out))
     clear hb hR2 hO2 hB hf0 hf1 hf2
     obtain ⟨ao, co, rfl, hv⟩ := hO3.out.view
     replace hv := Lib.hid hv
     obtain ⟨S, hS⟩ : ∃ S, S = txt (remN a D n) := ⟨_, rfl⟩
     rw [← hS]
     replace hS := Lib.hid hS
     go_wp2_with fail
     go_loopw [11] (fun iv wi => ∃ (i : Nat) (yi : Int), i ≤ n ∧ iv = .int .i64 yi ∧ yi = (i : Int) ∧ w1 = wi ∧ (n ≤ 100 → ∀ j, j < i → remN a D j ≠ remN a D n)) (fun iv _ => n - (intOf iv).toNat)
     case atStart => exact ⟨0, 0, Nat.zero_le _, by first | rfl | go_num, rfl, rfl, fun _ j hj => absurd hj (Nat.not_lt_zero _)⟩
     case round =>
      obtain ⟨i, yi, hi, rfl, hyi, rfl, hall⟩ := hrel
      subst hyi
      replace hall := Lib.hid hall
      rcases Nat.lt_or_ge i n with hlt | hge
      ·obtain ⟨g, rfl, hcell⟩ := hv.out (by omega)
       have hc := hcell i _ (txL_get (remN a D) hlt)
       have k3 : (i : Int) < (n : Int) := by omega
       have k4 : (0 : Int) ≤ (i : Int) := Int.natCast_nonneg _
       clear hcell
       by_cases heq : remN a D i = remN a D n
       ·rw [heq, ← hS.out] at hc
        by_cases h100 : n ≤ 100
        ·have hfin := Lib.hid (cyc_back a D hpos.out hcop.out x y c hC.out n i h100 hlt (by have := hF.out; rwa [show min n 101 = n by omega] at this) heq)
         have k5 : (n : Int) ≤ 100 := by omega
         have hbf := hbw.out.trans (hB3.out.mono hEw.out)
         replace heq := Lib.hid heq
         go_wp2_with fail
         exact bodyPost_ret (v := .tuple #[.int .i64 (i : Int), .int .i64 ((n : Int) - (i : Int)), .int .i64 0]) (by simp [results, Tryz.results12, go_sem]) rfl ⟨by rw [hfin.out.1, hfin.out.2.1, hfin.out.2.2], hbf⟩
        ·have k5 : ¬ (n : Int) ≤ 100 := by omega
         replace heq := Lib.hid heq
         go_wp2_with fail
         go_roundw
         case rel => exact ⟨i + 1, _, by omega, by first | rfl | go_num, by omega, by trivial, fun h => absurd h h100⟩
         case measure => simp [intOf] <;> omega
       ·have hne1 : ¬ (txt (remN a D i)).toList = S.toList := fun e => heq (txt_inj (by rw [e, hS.out]))
        have hne2 : ((txt (remN a D i)).toList == S.toList) = false := beq_eq_false_iff_ne.2 hne1
        have hal2 := Lib.hid (show n ≤ 100 → ∀ j, j < i + 1 → remN a D j ≠ remN a D n from fun h j hj => by
         rcases Nat.lt_or_ge j i with g1 | g1
         ·exact hall.out h j g1
         ·obtain rfl : j = i := by omega
          exact heq)
        replace heq := Lib.hid heq
        generalize txt (remN a D i) = TT at hc hne1 hne2
        go_wp2_with fail
        go_roundw
        case rel => exact ⟨i + 1, _, by omega, by first | rfl | go_num, by omega, by trivial, hal2.out⟩
        case measure => simp [intOf] <;> omega
      ·obtain rfl : i = n := by omega
       have k3 : ¬ (i : Int) < (i : Int) := by omega
       generalize hweq : w1.alloc (.cells #[.string S] 9) = w2
       have hb2 : Below w1.heap.size w1 w2 := by rw [← hweq]; exact (Below.refl _ _).alloc (Nat.le_refl _) _
       have hc2 := Lib.hid (show w2.cell? ⟨w1.heap.size, 0, none⟩ = some (.string S) by rw [← hweq]; exact cell_new _ _ _)
       have hO4 := Lib.hid (hO3.out.below hb2)
       have hR4 := Lib.hid (hR3.out.below hb2)
       have hE4 := Lib.hid (Nat.le_trans hE3.out hb2.size)
       have hB4 := Lib.hid (hB3.out.trans (hb2.mono hE3.out))
       clear hb2 hO3 hR3 hE3 hB3 hv
       go_wp2_with (at_builtin; refine wp_append_str rfl _ _ rfl E _ _ _ rfl hO4.out ⟨w1.heap.size, 0, none⟩ 1 S rfl hc2.out (by omega) hE4.out ?_)
       intro v' w3 hO5 hgrow
       have hR5 := sl_grown hR4.out hO4.out hgrow
       have hE5 := Lib.hid (Nat.le_trans hE4.out hgrow.size)
       have hB5 := Lib.hid (hB4.out.grown hgrow hE4.out (fun k hk => (hO4.out.1.lt k hk).1))
       replace hO5 := Lib.hid hO5
       clear hgrow hO4 hR4 hB4 hE4 hc2 hweq
       go_wp2_with fail
       with_reducible refine Calls.mono (rof_val 10 10 rfl (by decide) _) ?_
       rintro e w4 ⟨v4, rfl, hr4, hb4⟩
       have hR6 := Sl.below hR5 hb4
       have hO6 := Lib.hid (hO5.out.below hb4)
       have hB6 := Lib.hid (hB5.out.trans (hb4.mono hE5.out))
       have hE6 := Lib.hid (Nat.le_trans hE5.out hb4.size)
       clear hR5 hO5 hB5 hE5 hb4
       go_wp2_with fail
       with_reducible refine Calls.mono (rmul_any _ _ (remN a D i) 10 (by have := hmD.out; omega) (Nat.le_trans (td_length.2 (show 10 < 10000 ^ 1 by decide)) (by decide)) w4 hR6 hr4) ?_
       rintro e w5 ⟨v5, rfl, hr5, hb5⟩
       have hO7 := Lib.hid (hO6.out.below hb5)
       have hB7 := Lib.hid (hB6.out.trans (hb5.mono hE6.out))
       have hE7 := Lib.hid (Nat.le_trans hE6.out hb5.size)
       have hvdw := Lib.hid (Sl.below hvd2.out (hB7.out.mono (by rw [hE.out]; exact Nat.le_refl _)))
       clear hR6 hr4 hO6 hB6 hE6 hb5
       go_wp2_with fail
       with_reducible refine Calls.mono (rdiv_any _ _ (remN a D i * 10) D hpos.out (Nat.le_trans (td_mul_le hmD.out (td_length.2 (show 10 < 10000 ^ 1 by decide))) (by decide)) (by have := lD.out; omega) w5 hr5 hvdw.out) ?_
       rintro e w6 ⟨v6, v7, rfl, -, hr7, hb6⟩
       rw [rem_step] at hr7
       have hO8 := Lib.hid (hO7.out.below hb6)
       have hB8 := Lib.hid (hB7.out.trans (hb6.mono hE7.out))
       replace hr7 := Lib.hid hr7
       clear hr5 hO7 hB7 hE7 hb6 hvdw
       go_wp2_with fail
       go_roundw
       case rel =>
        refine ⟨i + 1, _, _, _, rfl, rfl, by omega, by first | rfl | go_num, by omega, hr7.out, by rw [txL_succ, ← hS.out]; exact hO8.out, ?_, hB8.out⟩
        rcases Nat.lt_or_ge 100 i with g | g
        ·have := hF.out
         rw [show min i 101 = 101 by omega] at this
         rw [show min (i + 1) 101 = 101 by omega]; exact this
        ·have := hF.out
         rw [show min i 101 = i by omega] at this
         rw [show min (i + 1) 101 = i + 1 by omega]
         exact this.next (hnz.out g) (hall.out g)
       case measure => simp [intOf] <;> omega
end Go.Proofs.YtaimebjkidegiaaGreatDoor
namespace Go.Proofs.YtaimebjkidegiaaGreatDoor
open Go.RowKit
attribute [local irreducible] lo hs sm s64 c64 d64 b64 mh ml pd pc qd qc val hiB str cmpI srD lz isq decB zl zh zs dval
/-- A fraction of small data. -/
def qmade (n : Int) (d : Nat) : Rat := mkRat n (if d < 1 then 1 else d)
theorem qmade_parts (n : Int) (d : Nat) : (qmade n d).num.natAbs ≤ n.natAbs ∧ (qmade n d).den ≤ (if d < 1 then 1 else d) := by
 unfold qmade
 obtain ⟨h1, h2⟩ := canc (z := n) (d := if d < 1 then 1 else d) (by split <;> omega)
 rw [h1, h2, Int.natAbs_tdiv]
 exact ⟨Nat.div_le_self _ _, Nat.div_le_self _ _⟩
theorem qmade_sz (n : Int) (d : Nat) (h1 : -9223372036854775808 ≤ n) (h2 : n < 9223372036854775808) (h3 : d < 4294967296) : Sz (qmade n d) 1 := by
 obtain ⟨e1, e2⟩ := qmade_parts n d
 exact szc _ (by omega) (by split at e2 <;> omega)
end Go.Proofs.YtaimebjkidegiaaGreatDoor
namespace Go.Proofs.YtaimebjkidegiaaGreatDoor
open Go.RowKit
attribute [local irreducible] lo hs sm s64 c64 d64 b64 mh ml pd pc qd qc val hiB str cmpI srD lz nb isq decB zl zh zs
theorem qof_zero (n x c : Int) (f : Nat) (HF : RT 47 #[.int .i64 n, .int .i64 1] (.tuple #[frV x f, .int .i64 c])) (hmx : max (0 : Int) 1 = 1) (w : World) :
  Calls Tryz.prog 11 #[.agg #[.int .i64 n, .int .u32 0]] w fun xe w' => xe = .returned (frV x f) ∧ Below w.heap.size w w' := by
 have hL0 : GL w w [] := GL.start w
 replace HF := Lib.hid HF
 obtain ⟨x1, hweq, hL0⟩ := GL.named ((hL0.new rfl [.int .i64 n, .int .u32 0] 24).new (K := w.heap.size + 1) (szA _ _) [.int .u64 0, .string ⟨#[]⟩, .bool false, .int .u64 0, .string ⟨#[]⟩] 34)
 go_enter Tryz.func11, Tryz.ntmps11
 have hN0 := cells_of _ 0 [] rfl (hL0.get _ _ (mK mZ))
 simp only [zF, Nat.reduceAdd] at hN0
 go_wp2_with fail
 clear hN0
 with_reducible refine Calls.mono (HF.out _) ?_
 rintro e x2 ⟨rfl, hb⟩
 replace hL0 := hL0.call hb
 clear hb hweq
 obtain ⟨x3, hweq, hL0⟩ := GL.named (hL0.new rfl [.int .u64 ((zl x : Nat) : Int), .string (zh x), .bool (zs x), .int .u64 ((lo f : Nat) : Int), .string (hs f)] 34)
 have hA := hL0.fc
 simp only [zF, Nat.reduceAdd] at hA
 obtain ⟨x4, hput1, hP⟩ := GL.named (hL0.put 1 (w.heap.size + 1) _ rfl [.int .u64 ((zl x : Nat) : Int), .string (zh x), .bool (zs x), .int .u64 ((lo f : Nat) : Int), .string (hs f)] rfl)
 simp only [setAll] at hput1
 simp only [List.set_cons_zero, List.set_cons_succ] at hP
 have hB1 := hP.fc
 simp only [zF, Nat.reduceAdd] at hB1
 replace hL0 := hP
 go_wp2_with fail
 exact bodyPost_ret (v := frV x f) (by simp [results, Tryz.results11, go_sem, hB1]) rfl ⟨rfl, hL0.bl⟩
theorem qof_pos (n d x c : Int) (f : Nat) (HF : RT 47 #[.int .i64 n, .int .i64 d] (.tuple #[frV x f, .int .i64 c])) (h1 : max d 1 = d) (hw : IntKind.i64.wrap d = d) (w : World) :
  Calls Tryz.prog 11 #[.agg #[.int .i64 n, .int .u32 d]] w fun xe w' => xe = .returned (frV x f) ∧ Below w.heap.size w w' := by
 have hL0 : GL w w [] := GL.start w
 replace HF := Lib.hid HF
 obtain ⟨x1, hweq, hL0⟩ := GL.named ((hL0.new rfl [.int .i64 n, .int .u32 d] 24).new (K := w.heap.size + 1) (szA _ _) [.int .u64 0, .string ⟨#[]⟩, .bool false, .int .u64 0, .string ⟨#[]⟩] 34)
 go_enter Tryz.func11, Tryz.ntmps11
 have hN0 := cells_of _ 0 [] rfl (hL0.get _ _ (mK mZ))
 simp only [zF, Nat.reduceAdd] at hN0
 go_wp2_with fail
 clear hN0
 with_reducible refine Calls.mono (HF.out _) ?_
 rintro e x2 ⟨rfl, hb⟩
 replace hL0 := hL0.call hb
 clear hb hweq
 obtain ⟨x3, hweq, hL0⟩ := GL.named (hL0.new rfl [.int .u64 ((zl x : Nat) : Int), .string (zh x), .bool (zs x), .int .u64 ((lo f : Nat) : Int), .string (hs f)] 34)
 have hA := hL0.fc
 simp only [zF, Nat.reduceAdd] at hA
 obtain ⟨x4, hput1, hP⟩ := GL.named (hL0.put 1 (w.heap.size + 1) _ rfl [.int .u64 ((zl x : Nat) : Int), .string (zh x), .bool (zs x), .int .u64 ((lo f : Nat) : Int), .string (hs f)] rfl)
 simp only [setAll] at hput1
 simp only [List.set_cons_zero, List.set_cons_succ] at hP
 have hB1 := hP.fc
 simp only [zF, Nat.reduceAdd] at hB1
 replace hL0 := hP
 go_wp2_with fail
 exact bodyPost_ret (v := frV x f) (by simp [results, Tryz.results11, go_sem, hB1]) rfl ⟨rfl, hL0.bl⟩
theorem qof_any (n d : Int) (a1 : -9223372036854775808 ≤ n) (a2 : n < 9223372036854775808) (b1 : 0 ≤ d) (b2 : d < 4294967296) (w : World) :
  Calls Tryz.prog 11 #[.agg #[.int .i64 n, .int .u32 d]] w fun xe w' => xe = .returned (fracV (qmade n d.toNat)) ∧ Below w.heap.size w w' := by
 by_cases h : d = 0
 ·subst h
  have e : (n : Rat) / ((1 : Int) : Rat) = qmade n 0 := by rw [← of_val_q n 1 (by decide)]; rfl
  have hF := fun w => ofF n 1 a1 a2 (by decide) (by decide) (by decide) w
  rw [e] at hF
  exact qof_zero n _ _ _ hF (by decide) w
 ·have e : (n : Rat) / (d : Rat) = qmade n d.toNat := by
   rw [← of_val_q n d h]
   unfold qmade
   rw [if_neg (by omega), if_neg (by omega), show d.natAbs = d.toNat by omega]
  have hF := fun w => ofF n d a1 a2 (by omega) (by omega) h w
  rw [e] at hF
  exact qof_pos n d _ _ _ hF (by omega) (IntWalk.i64_in _ (by omega)) w
end Go.Proofs.YtaimebjkidegiaaGreatDoor
namespace Go.Proofs.YtaimebjkidegiaaGreatDoor
open Go.RowKit Go.Proofs.YtaimebjkidegiaaGreatDoor.Rx
attribute [local irreducible] lo hs sm s64 c64 d64 b64 mh ml pd pc qd qc val hiB str cmpI srD lz nb isq decB zl zh zs dval tln fd fe
theorem dcycle_w (nx dx x y c : Int) (q : Rat) (GX : RT 11 #[.agg #[.int .i64 nx, .int .u32 dx]] (fracV q)) (HC : RT 10 #[fracV q] (.tuple #[.int .i64 x, .int .i64 y, .int .i64 c])) (RX : ∀ (w : World), Calls Tryz.prog 13 #[.agg #[.int .i64 nx, .int .u32 dx]] w fun e w' => ∃ pv, e = .returned pv ∧ RF w' pv q ∧ Below w.heap.size w w') (RC : ∀ (p0 : Value) (w : World), RF w p0 q → Calls Tryz.prog 12 #[p0] w fun e w' => e = .returned (.tuple #[.int .i64 x, .int .i64 y, .int .i64 c]) ∧ Below w.heap.size w w') (KT : World → Prop) (hKT : Keeps KT) (HW : RK KT 14 #[] (.bool true)) (w : World) (kKT : KT w) :
  Calls Tryz.prog 3 #[.agg #[.int .i64 nx, .int .u32 dx]] w fun e w' => e = .returned (.bool true) ∧ Below w.heap.size w w' := by
 replace GX := Lib.hid GX
 replace HC := Lib.hid HC
 replace RX := Lib.hid RX
 replace RC := Lib.hid RC
 replace hKT := Lib.hid hKT
 replace HW := Lib.hid HW
 have hL0 : GL w w [] := GL.start w
 have hS : SS w [] := SS.nil w
 obtain ⟨x1, hweq, hL0, hS⟩ := GL.named2 (hL0.new rfl [.int .i64 nx, .int .u32 dx] 24) (hS.new (.cells #[.int .i64 nx, .int .u32 dx] 24))
 go_enter Tryz.func3, Tryz.ntmps3
 have hN0 := cells_of _ 0 [] rfl (hL0.get _ _ mZ)
 simp only [zF, Nat.reduceAdd] at hN0
 go_wp2_with fail
 clear hN0
 with_reducible refine Calls.mono (GX.out _) ?_
 rintro e x2 ⟨rfl, hb⟩
 replace hL0 := hL0.call hb
 replace hS := hS.call hb
 clear hb hweq
 go_wp2_with fail
 with_reducible refine Calls.mono (HC.out _) ?_
 rintro e x3 ⟨rfl, hb⟩
 replace hL0 := hL0.call hb
 replace hS := hS.call hb
 clear hb
 have hN0 := cells_of _ 0 [] rfl (hL0.get _ _ mZ)
 simp only [zF, Nat.reduceAdd] at hN0
 go_wp2_with fail
 clear hN0
 with_reducible refine Calls.mono (RX.out _) ?_
 rintro e x4 ⟨v0, rfl, q0, hb⟩
 replace hL0 := hL0.call hb
 replace hS := hS.call hb
 clear hb
 obtain ⟨g1, d1, g2, d2, rfl⟩ := rf_form q0
 replace hS := hS.cons (rf_rn1 q0)
 replace hS := hS.cons (rf_rn2 q0)
 clear q0
 go_wp2_with fail
 with_reducible refine Calls.mono (RC.out (.agg #[.bool (zs q.num), .slice g1 (tln q.num.natAbs) d1, .slice g2 (tln (fd q)) d2]) _ (rf_of (hS.get (mK mZ)) (hS.get mZ))) ?_
 rintro e x5 ⟨rfl, hb⟩
 replace hL0 := hL0.call hb
 replace hS := hS.call hb
 clear hb
 go_wp2_with fail
 with_reducible refine Calls.mono (HW.out _ (hKT.out.at (hL0.bl) kKT)) ?_
 rintro e x6 ⟨rfl, hb⟩
 replace hL0 := hL0.call hb
 replace hS := hS.call hb
 clear hb
 go_wp2_with fail
 exact bodyPost_ret (v := .bool true) (by simp [results, Tryz.results3, go_sem]) rfl ⟨rfl, hL0.bl⟩
end Go.Proofs.YtaimebjkidegiaaGreatDoor
namespace Go.Proofs.YtaimebjkidegiaaGreatDoor
open Go.RowKit
attribute [local irreducible] lo hs sm s64 c64 d64 b64 mh ml pd pc qd qc val hiB str cmpI srD lz nb isq decB zl zh zs fe txt
theorem dworks_w (a1 a2 a3 a4 a5 a6 a7 a8 a9 b1 b2 b3 b4 c1 c3 : Rat) (Oa1 : RT 54 #[.int .i64 1, .int .i64 8] (fracV a1)) (Oa2 : RT 54 #[.int .i64 3, .int .i64 8] (fracV a2)) (Oa3 : RT 54 #[.int .i64 (-1), .int .i64 8] (fracV a3)) (Oa4 : RT 54 #[.int .i64 (-1), .int .i64 1000] (fracV a4)) (Oa5 : RT 54 #[.int .i64 5, .int .i64 2] (fracV a5)) (Oa6 : RT 54 #[.int .i64 2, .int .i64 3] (fracV a6)) (Oa7 : RT 54 #[.int .i64 7, .int .i64 10] (fracV a7)) (Oa8 : RT 54 #[.int .i64 (-1), .int .i64 3] (fracV a8)) (Oa9 : RT 54 #[.int .i64 (-2), .int .i64 5] (fracV a9)) (Ob1 : RT 54 #[.int .i64 (-3), .int .i64 10] (fracV b1)) (Ob2 : RT 54 #[.int .i64 1, .int .i64 109] (fracV b2)) (Ob3 : RT 54 #[.int .i64 1, .int .i64 6] (fracV b3)) (Ob4 : RT 54 #[.int .i64 1, .int .i64 7] (fracV b4)) (I1 : RT 36 #[.int .i64 1] (fracV c1)) (I3 : RT 36 #[.int .i64 3] (fracV c3)) (KT : World → Prop) (hKT : Keeps KT) (T0 : RK KT 55 #[fracV a1, .int .i64 2, .int .i64 1] (.string (ByteArray.mk #[48, 46, 49, 50]))) (T1 : RK KT 55 #[fracV a1, .int .i64 2, .int .i64 2] (.string (ByteArray.mk #[48, 46, 49, 51]))) (T2 : RK KT 55 #[fracV a1, .int .i64 2, .int .i64 3] (.string (ByteArray.mk #[48, 46, 49, 50]))) (T3 : RK KT 55 #[fracV a2, .int .i64 2, .int .i64 3] (.string (ByteArray.mk #[48, 46, 51, 56]))) (T4 : RK KT 55 #[fracV a3, .int .i64 2, .int .i64 1] (.string (ByteArray.mk #[45, 48, 46, 49, 51]))) (T5 : RK KT 55 #[fracV a3, .int .i64 2, .int .i64 2] (.string (ByteArray.mk #[45, 48, 46, 49, 50]))) (T6 : RK KT 55 #[fracV a4, .int .i64 2, .int .i64 2] (.string (ByteArray.mk #[48, 46, 48, 48]))) (T7 : RK KT 55 #[fracV a5, .int .i64 0, .int .i64 3] (.string (ByteArray.mk #[50]))) (R1 : RT 56 #[fracV a6, .int .i64 1, .int .i64 2] (.tuple #[fracV a7, .int .i64 0])) (B1 : RT 57 #[fracV a8, .int .i64 1] (.tuple #[fracV a9, fracV b1, .int .i64 0])) (E1 : RT 58 #[fracV c1, .int .i64 101, .int .i64 1] (.tuple #[.string ⟨#[]⟩, .int .i64 3])) (E2 : RT 58 #[fracV c1, .int .i64 0, .int .i64 4] (.tuple #[.string ⟨#[]⟩, .int .i64 1])) (P0 : RK KT 59 #[.string (ByteArray.mk #[45, 49, 46, 50, 53])] (.string (ByteArray.mk #[45, 53, 47, 52]))) (P1 : RK KT 59 #[.string (ByteArray.mk #[48, 48, 55])] (.string (ByteArray.mk #[110, 111, 110, 101]))) (P2 : RK KT 59 #[.string (ByteArray.mk #[49, 46])] (.string (ByteArray.mk #[110, 111, 110, 101]))) (P3 : RK KT 59 #[.string (ByteArray.mk #[46, 53])] (.string (ByteArray.mk #[110, 111, 110, 101]))) (P4 : RK KT 59 #[.string (ByteArray.mk #[45, 48, 46, 48])] (.string (ByteArray.mk #[110, 111, 110, 101]))) (P5 : RK KT 59 #[.string (ByteArray.mk #[51, 46, 49, 48])] (.string (ByteArray.mk #[51, 49, 47, 49, 48]))) (Y0 : RT 10 #[fracV b2] (.tuple #[.int .i64 0, .int .i64 0, .int .i64 3])) (C0 : RT 60 #[fracV b3, .int .i64 1, .int .i64 1] (.bool true)) (C1 : RT 60 #[fracV b4, .int .i64 0, .int .i64 6] (.bool true)) (C2 : RT 60 #[fracV a3, .int .i64 3, .int .i64 0] (.bool true)) (C3 : RT 60 #[fracV c3, .int .i64 0, .int .i64 0] (.bool true)) (w : World) (kKT : KT w) :
  Calls Tryz.prog 14 #[] w fun xe w' => xe = .returned (.bool true) ∧ Below w.heap.size w w' := by
 have hL0 : GL w w [] := GL.start w
 replace Oa1 := Lib.hid Oa1
 replace Oa2 := Lib.hid Oa2
 replace Oa3 := Lib.hid Oa3
 replace Oa4 := Lib.hid Oa4
 replace Oa5 := Lib.hid Oa5
 replace Oa6 := Lib.hid Oa6
 replace Oa7 := Lib.hid Oa7
 replace Oa8 := Lib.hid Oa8
 replace Oa9 := Lib.hid Oa9
 replace Ob1 := Lib.hid Ob1
 replace Ob2 := Lib.hid Ob2
 replace Ob3 := Lib.hid Ob3
 replace Ob4 := Lib.hid Ob4
 replace I1 := Lib.hid I1
 replace I3 := Lib.hid I3
 replace hKT := Lib.hid hKT
 replace T0 := Lib.hid T0
 replace T1 := Lib.hid T1
 replace T2 := Lib.hid T2
 replace T3 := Lib.hid T3
 replace T4 := Lib.hid T4
 replace T5 := Lib.hid T5
 replace T6 := Lib.hid T6
 replace T7 := Lib.hid T7
 replace R1 := Lib.hid R1
 replace B1 := Lib.hid B1
 replace E1 := Lib.hid E1
 replace E2 := Lib.hid E2
 replace P0 := Lib.hid P0
 replace P1 := Lib.hid P1
 replace P2 := Lib.hid P2
 replace P3 := Lib.hid P3
 replace P4 := Lib.hid P4
 replace P5 := Lib.hid P5
 replace Y0 := Lib.hid Y0
 replace C0 := Lib.hid C0
 replace C1 := Lib.hid C1
 replace C2 := Lib.hid C2
 replace C3 := Lib.hid C3
 go_enter Tryz.func14, Tryz.ntmps14
 go_wp2_with fail
 with_reducible refine Calls.mono (Oa1.out _) ?_
 rintro e x1 ⟨rfl, hb⟩
 replace hL0 := hL0.call hb
 clear hb
 obtain ⟨x2, hweq, hL0⟩ := GL.named (hL0.new rfl [.int .u64 ((zl a1.num : Nat) : Int), .string (zh a1.num), .bool (zs a1.num), .int .u64 ((lo (fe a1) : Nat) : Int), .string (hs (fe a1))] 34)
 have hN0 := cells_of _ 0 [] rfl (hL0.get _ _ mZ)
 simp only [zF, Nat.reduceAdd] at hN0
 go_wp2_with fail
 clear hN0
 with_reducible refine Calls.mono (T0.out _ (hKT.out.at hL0.bl kKT)) ?_
 rintro e x3 ⟨rfl, hb⟩
 replace hL0 := hL0.call hb
 clear hb hweq
 have hN0 := cells_of _ 0 [] rfl (hL0.get _ _ mZ)
 simp only [zF, Nat.reduceAdd] at hN0
 go_wp2_with fail
 clear hN0
 with_reducible refine Calls.mono (T1.out _ (hKT.out.at hL0.bl kKT)) ?_
 rintro e x4 ⟨rfl, hb⟩
 replace hL0 := hL0.call hb
 clear hb
 have hN0 := cells_of _ 0 [] rfl (hL0.get _ _ mZ)
 simp only [zF, Nat.reduceAdd] at hN0
 go_wp2_with fail
 clear hN0
 with_reducible refine Calls.mono (T2.out _ (hKT.out.at hL0.bl kKT)) ?_
 rintro e x5 ⟨rfl, hb⟩
 replace hL0 := hL0.call hb
 clear hb
 go_wp2_with fail
 with_reducible refine Calls.mono (Oa2.out _) ?_
 rintro e x6 ⟨rfl, hb⟩
 replace hL0 := hL0.call hb
 clear hb
 go_wp2_with fail
 with_reducible refine Calls.mono (T3.out _ (hKT.out.at hL0.bl kKT)) ?_
 rintro e x7 ⟨rfl, hb⟩
 replace hL0 := hL0.call hb
 clear hb
 go_wp2_with fail
 with_reducible refine Calls.mono (Oa3.out _) ?_
 rintro e x8 ⟨rfl, hb⟩
 replace hL0 := hL0.call hb
 clear hb
 go_wp2_with fail
 with_reducible refine Calls.mono (T4.out _ (hKT.out.at hL0.bl kKT)) ?_
 rintro e x9 ⟨rfl, hb⟩
 replace hL0 := hL0.call hb
 clear hb
 go_wp2_with fail
 with_reducible refine Calls.mono (Oa3.out _) ?_
 rintro e x10 ⟨rfl, hb⟩
 replace hL0 := hL0.call hb
 clear hb
 go_wp2_with fail
 with_reducible refine Calls.mono (T5.out _ (hKT.out.at hL0.bl kKT)) ?_
 rintro e x11 ⟨rfl, hb⟩
 replace hL0 := hL0.call hb
 clear hb
 go_wp2_with fail
 with_reducible refine Calls.mono (Oa4.out _) ?_
 rintro e x12 ⟨rfl, hb⟩
 replace hL0 := hL0.call hb
 clear hb
 go_wp2_with fail
 with_reducible refine Calls.mono (T6.out _ (hKT.out.at hL0.bl kKT)) ?_
 rintro e x13 ⟨rfl, hb⟩
 replace hL0 := hL0.call hb
 clear hb
 go_wp2_with fail
 with_reducible refine Calls.mono (Oa5.out _) ?_
 rintro e x14 ⟨rfl, hb⟩
 replace hL0 := hL0.call hb
 clear hb
 go_wp2_with fail
 with_reducible refine Calls.mono (T7.out _ (hKT.out.at hL0.bl kKT)) ?_
 rintro e x15 ⟨rfl, hb⟩
 replace hL0 := hL0.call hb
 clear hb
 go_wp2_with fail
 with_reducible refine Calls.mono (Oa6.out _) ?_
 rintro e x16 ⟨rfl, hb⟩
 replace hL0 := hL0.call hb
 clear hb
 go_wp2_with fail
 with_reducible refine Calls.mono (R1.out _) ?_
 rintro e x17 ⟨rfl, hb⟩
 replace hL0 := hL0.call hb
 clear hb
 obtain ⟨x18, hweq, hL0⟩ := GL.named (hL0.new rfl [.int .u64 ((zl a7.num : Nat) : Int), .string (zh a7.num), .bool (zs a7.num), .int .u64 ((lo (fe a7) : Nat) : Int), .string (hs (fe a7))] 34)
 go_wp2_with fail
 with_reducible refine Calls.mono (Oa8.out _) ?_
 rintro e x19 ⟨rfl, hb⟩
 replace hL0 := hL0.call hb
 clear hb hweq
 go_wp2_with fail
 with_reducible refine Calls.mono (B1.out _) ?_
 rintro e x20 ⟨rfl, hb⟩
 replace hL0 := hL0.call hb
 clear hb
 obtain ⟨x21, hweq, hL0⟩ := GL.named ((hL0.new rfl [.int .u64 ((zl a9.num : Nat) : Int), .string (zh a9.num), .bool (zs a9.num), .int .u64 ((lo (fe a9) : Nat) : Int), .string (hs (fe a9))] 34).new (K := x20.heap.size + 1) (szA _ _) [.int .u64 ((zl b1.num : Nat) : Int), .string (zh b1.num), .bool (zs b1.num), .int .u64 ((lo (fe b1) : Nat) : Int), .string (hs (fe b1))] 34)
 go_wp2_with fail
 with_reducible refine Calls.mono (I1.out _) ?_
 rintro e x22 ⟨rfl, hb⟩
 replace hL0 := hL0.call hb
 clear hb hweq
 go_wp2_with fail
 with_reducible refine Calls.mono (E1.out _) ?_
 rintro e x23 ⟨rfl, hb⟩
 replace hL0 := hL0.call hb
 clear hb
 go_wp2_with fail
 with_reducible refine Calls.mono (I1.out _) ?_
 rintro e x24 ⟨rfl, hb⟩
 replace hL0 := hL0.call hb
 clear hb
 go_wp2_with fail
 with_reducible refine Calls.mono (E2.out _) ?_
 rintro e x25 ⟨rfl, hb⟩
 replace hL0 := hL0.call hb
 clear hb
 go_upto_region 8 with fail
 obtain ⟨α, iα, F, hF1, hF2⟩ := cls x25
 have hq0 := cls_box hF1 hL0 _ _ mZ
 simp only [zC, Nat.reduceAdd] at hq0
 have hq1 := cls_box hF1 hL0 _ _ (mK mZ)
 simp only [zC, Nat.reduceAdd] at hq1
 have hq2 := cls_box hF1 hL0 _ _ (mK (mK mZ))
 simp only [zC, Nat.reduceAdd] at hq2
 refine region_qs 25 (C := fun w' => ∃ x, w' = F x) (by kernel_rfl) (by kernel_rfl) (cls_drew hF2) ?_
 simp only [zT]
 repeat (go_big_quiet_step (first | fail | (go_at_call 54; with_reducible exact cls_call hF1 hF2 Oa7.out _) | (go_at_call 54; with_reducible exact cls_call hF1 hF2 Oa9.out _) | (go_at_call 54; with_reducible exact cls_call hF1 hF2 Ob1.out _)))
 refine wpQuiet_nil ?_
 rintro wq ⟨xq, rfl⟩
 replace hL0 := hL0.call (hF1 xq)
 clear  hq0 hq1 hq2 hF2
 generalize F xq = x26 at hL0 ⊢
 clear hF1 xq iα F α
 go_wp2_with fail
 with_reducible refine Calls.mono (P0.out _ (hKT.out.at hL0.bl kKT)) ?_
 rintro e x27 ⟨rfl, hb⟩
 replace hL0 := hL0.call hb
 clear hb
 go_wp2_with fail
 with_reducible refine Calls.mono (P1.out _ (hKT.out.at hL0.bl kKT)) ?_
 rintro e x28 ⟨rfl, hb⟩
 replace hL0 := hL0.call hb
 clear hb
 go_wp2_with fail
 with_reducible refine Calls.mono (P2.out _ (hKT.out.at hL0.bl kKT)) ?_
 rintro e x29 ⟨rfl, hb⟩
 replace hL0 := hL0.call hb
 clear hb
 go_wp2_with fail
 with_reducible refine Calls.mono (P3.out _ (hKT.out.at hL0.bl kKT)) ?_
 rintro e x30 ⟨rfl, hb⟩
 replace hL0 := hL0.call hb
 clear hb
 go_wp2_with fail
 with_reducible refine Calls.mono (P4.out _ (hKT.out.at hL0.bl kKT)) ?_
 rintro e x31 ⟨rfl, hb⟩
 replace hL0 := hL0.call hb
 clear hb
 go_wp2_with fail
 with_reducible refine Calls.mono (P5.out _ (hKT.out.at hL0.bl kKT)) ?_
 rintro e x32 ⟨rfl, hb⟩
 replace hL0 := hL0.call hb
 clear hb
 go_wp2_with fail
 with_reducible refine Calls.mono (Ob2.out _) ?_
 rintro e x33 ⟨rfl, hb⟩
 replace hL0 := hL0.call hb
 clear hb
 go_wp2_with fail
 with_reducible refine Calls.mono (Y0.out _) ?_
 rintro e x34 ⟨rfl, hb⟩
 replace hL0 := hL0.call hb
 clear hb
 go_wp2_with fail
 with_reducible refine Calls.mono (Ob3.out _) ?_
 rintro e x35 ⟨rfl, hb⟩
 replace hL0 := hL0.call hb
 clear hb
 go_wp2_with fail
 with_reducible refine Calls.mono (C0.out _) ?_
 rintro e x36 ⟨rfl, hb⟩
 replace hL0 := hL0.call hb
 clear hb
 go_wp2_with fail
 with_reducible refine Calls.mono (Ob4.out _) ?_
 rintro e x37 ⟨rfl, hb⟩
 replace hL0 := hL0.call hb
 clear hb
 go_wp2_with fail
 with_reducible refine Calls.mono (C1.out _) ?_
 rintro e x38 ⟨rfl, hb⟩
 replace hL0 := hL0.call hb
 clear hb
 go_wp2_with fail
 with_reducible refine Calls.mono (Oa3.out _) ?_
 rintro e x39 ⟨rfl, hb⟩
 replace hL0 := hL0.call hb
 clear hb
 go_wp2_with fail
 with_reducible refine Calls.mono (C2.out _) ?_
 rintro e x40 ⟨rfl, hb⟩
 replace hL0 := hL0.call hb
 clear hb
 go_wp2_with fail
 with_reducible refine Calls.mono (I3.out _) ?_
 rintro e x41 ⟨rfl, hb⟩
 replace hL0 := hL0.call hb
 clear hb
 go_wp2_with fail
 with_reducible refine Calls.mono (C3.out _) ?_
 rintro e x42 ⟨rfl, hb⟩
 replace hL0 := hL0.call hb
 clear hb
 go_wp2_with fail
 exact bodyPost_ret (v := .bool true) (by simp [results, Tryz.results14, go_sem]) rfl ⟨rfl, hL0.bl⟩
end Go.Proofs.YtaimebjkidegiaaGreatDoor
namespace Go.Proofs.YtaimebjkidegiaaGreatDoor
open Go.RowKit
open Go.Lib (decDigits)
/-- What the layer's walks want of the world. -/
def KD (w : World) : Prop := Tab w ∧ MaxL w
theorem KD.keeps : Keeps KD := fun w w' hb h => ⟨Keeps.tab w w' hb h.1, MaxL.keeps w w' hb h.2⟩
theorem of4 (n d : Int) (q : Rat) (h : ((n : Int) : Rat) / ((d : Int) : Rat) = q) (a1 : -9223372036854775808 ≤ n) (a2 : n < 9223372036854775808) (b1 : -9223372036854775808 ≤ d) (b2 : d < 9223372036854775808) (h0 : d ≠ 0) (w : World) :
  Calls Tryz.prog 54 #[.int .i64 n, .int .i64 d] w fun e w' => e = .returned (fracV q) ∧ Below w.heap.size w w' := by
 have H := fun w => ofF n d a1 a2 b1 b2 h0 w
 rw [h] at H
 exact lof4_w n d _ q H w
theorem decT_one (z : Int) (p : Nat) (h : z.natAbs / 10 ^ p < 10) : decT z p = (if z < 0 then [45] else []) ++ (dch (z.natAbs / 10 ^ p) :: tailT z.natAbs p) := by
 unfold decT; rw [dec_small h]; rfl
theorem tx4 (a : Rat) (p : Nat) (v z : Int) (t : List UInt8) (h1 : toI v (a * tenQ p) = z) (h2 : z.natAbs / 10 ^ p < 10) (h3 : (if z < 0 then [45] else []) ++ (dch (z.natAbs / 10 ^ p) :: tailT z.natAbs p) = t) (ha : Sz a 1) (hp : p ≤ 100) (hv : 1 ≤ v ∧ v ≤ 3) (w : World) (hw : KD w) :
  Calls Tryz.prog 55 #[fracV a, .int .i64 (p : Int), .int .i64 v] w fun e w' => e = .returned (.string ⟨t.toArray⟩) ∧ Below w.heap.size w w' := by
 have H := fun w htab => textD a p v 1 ha (by decide) hp hv w htab
 rw [h1, decT_one z p h2, h3] at H
 exact ltext4_ok a p v _ H w hw.1
theorem rd4 (l : List UInt8) (q : Rat) (t : ByteArray) (hq : Sz q 1) (ht : qtxt q = t) (HP : ∀ w, MaxL w → Calls Tryz.prog 136 #[.string ⟨l.toArray⟩] w fun e w' => e = .returned (.tuple #[fracV q, .int .i64 0]) ∧ Below w.heap.size w w') (w : World) (hw : KD w) :
  Calls Tryz.prog 59 #[.string ⟨l.toArray⟩] w fun e w' => e = .returned (.string t) ∧ Below w.heap.size w w' := by
 have HT := fun w htab => textF q 1 hq (by decide) w htab
 rw [ht] at HT
 exact lread4_ok q _ t MaxL MaxL.keeps HP HT w hw.1 hw.2
theorem rd4e (l : List UInt8) (HP : ∀ w, MaxL w → Calls Tryz.prog 136 #[.string ⟨l.toArray⟩] w fun e w' => e = .returned (.tuple #[fracV 0, .int .i64 4]) ∧ Below w.heap.size w w') (w : World) (hw : KD w) :
  Calls Tryz.prog 59 #[.string ⟨l.toArray⟩] w fun e w' => e = .returned (.string (ByteArray.mk #[110, 111, 110, 101])) ∧ Below w.heap.size w w' :=
 lread4_err 0 _ 4 MaxL MaxL.keeps HP (by decide) w hw.2
theorem cy4 (a : Rat) (i j : Int) (ha : Sz a 1) (h : CycA a.den i j 0) (w : World) :
  Calls Tryz.prog 60 #[fracV a, .int .i64 i, .int .i64 j] w fun e w' => e = .returned (.bool true) ∧ Below w.heap.size w w' :=
 dcycles_w a i j 0 0 0 true (fun w => cycD a 1 ha (by decide) i j 0 h w) w
theorem no_dec_007 : ¬ isDec [48, 48, 55] := isDec_no (by decide)
theorem no_dec_nil : ¬ isDec [] := isDec_no (by decide)
theorem parse_inV (f g : Bool) (l d p q : List UInt8) (hg : Sgn g l d) (hc : Lib.cut d [46] = (p, q, f)) (hp : isDec p) (hq : ∀ c ∈ q, isDig c) (hf : f = true → q ≠ []) (hl : l.length ≤ 4096) (hpl : p.length ≤ 4096) (hk : q.length ≤ 100) (h0 : g = true → dval p * 10 ^ q.length + dval q ≠ 0) (v : Rat)
  (hv : mkRat (if g then -((dval p * 10 ^ q.length + dval q : Nat) : Int) else ((dval p * 10 ^ q.length + dval q : Nat) : Int)) (10 ^ q.length) = v) (w : World) (hM : MaxL w) :
  Calls Tryz.prog 136 #[.string ⟨l.toArray⟩] w fun e w' => e = .returned (.tuple #[fracV v, .int .i64 0]) ∧ Below w.heap.size w w' := by
 subst hv
 exact parse_in f g l d p q hg hc hp hq hf hl hpl hk h0 w hM
theorem r_m125 (w : World) (hM : MaxL w) : Calls Tryz.prog 136 #[.string ⟨[45, 49, 46, 50, 53].toArray⟩] w fun e w' => e = .returned (.tuple #[fracV (mkRat (-5) 4), .int .i64 0]) ∧ Below w.heap.size w w' := by
 exact parse_inV true true [45, 49, 46, 50, 53] [49, 46, 50, 53] [49] [50, 53] (.inl ⟨rfl, rfl⟩) (by kernel_rfl) (isDec_yes (by decide)) (isDec_yes (by decide)).1 (fun _ => by decide) (by decide) (by decide) (by decide) (fun _ => by decide) _ (by decide +kernel) w hM
theorem r_310 (w : World) (hM : MaxL w) : Calls Tryz.prog 136 #[.string ⟨[51, 46, 49, 48].toArray⟩] w fun e w' => e = .returned (.tuple #[fracV (mkRat 31 10), .int .i64 0]) ∧ Below w.heap.size w w' := by
 exact parse_inV true false [51, 46, 49, 48] [51, 46, 49, 48] [51] [49, 48] (.inr ⟨rfl, rfl, by decide⟩) (by kernel_rfl) (isDec_yes (by decide)) (isDec_yes (by decide)).1 (fun _ => by decide) (by decide) (by decide) (by decide) (fun e => by cases e) _ (by decide +kernel) w hM
theorem r_007 (w : World) (hM : MaxL w) : Calls Tryz.prog 136 #[.string ⟨[48, 48, 55].toArray⟩] w fun e w' => e = .returned (.tuple #[fracV 0, .int .i64 4]) ∧ Below w.heap.size w w' := by
 rw [← zeroF]
 exact dparse_high_f _ _ _ _ 3 0 4 _ (cpD false [48, 48, 55] _ (.inr ⟨rfl, rfl, by decide⟩)) MaxL MaxL.keeps (cutD [48, 48, 55] [48, 48, 55] [] false (by decide) (by kernel_rfl)) (parse_form [48, 48, 55] (by decide) no_dec_007) rfl (by decide) (by decide) w hM
theorem r_1d (w : World) (hM : MaxL w) : Calls Tryz.prog 136 #[.string ⟨[49, 46].toArray⟩] w fun e w' => e = .returned (.tuple #[fracV 0, .int .i64 4]) ∧ Below w.heap.size w w' := by
 rw [← zeroF]
 exact dparse_end _ _ _ 2 _ (cpD false [49, 46] _ (.inr ⟨rfl, rfl, by decide⟩)) MaxL MaxL.keeps (cutD [49, 46] [49] [] true (by decide) (by kernel_rfl)) rfl (by decide) w hM
theorem r_d5 (w : World) (hM : MaxL w) : Calls Tryz.prog 136 #[.string ⟨[46, 53].toArray⟩] w fun e w' => e = .returned (.tuple #[fracV 0, .int .i64 4]) ∧ Below w.heap.size w w' := by
 rw [← zeroF]
 exact dparse_high_t _ _ _ _ 2 0 4 _ (cpD false [46, 53] _ (.inr ⟨rfl, rfl, by decide⟩)) MaxL MaxL.keeps (cutD [46, 53] [] [53] true (by decide) (by kernel_rfl)) (parse_form [] (by decide) no_dec_nil) rfl (by decide) (ne_list (a := [53]) (by decide)) (by decide) w hM
theorem r_m00 (w : World) (hM : MaxL w) : Calls Tryz.prog 136 #[.string ⟨[45, 48, 46, 48].toArray⟩] w fun e w' => e = .returned (.tuple #[fracV 0, .int .i64 4]) ∧ Below w.heap.size w w' := by
 rw [← zeroF]
 exact parse_zin true [45, 48, 46, 48] [48, 46, 48] [48] [48] (.inl ⟨rfl, rfl⟩) (by kernel_rfl) (isDec_yes (by decide)) (isDec_yes (by decide)).1 (fun _ => by decide) (by decide) (by decide) (by decide) (by decide) w hM
theorem qt_n5_4 : qtxt (mkRat (-5) 4) = (ByteArray.mk #[45, 53, 47, 52]) := by
 rw [qt_part (d := 4) (z := -5) (by decide +kernel) (by decide) (by decide +kernel), txt1 4 (by decide), show ztxt (-5 : Int) = _ from zt_neg 5 (by decide) (by decide)]
 decide +kernel
theorem dec_10 : decDigits 10 = [49, 48] := by
 rw [show (10 : Nat) = 1 * 10 + 0 from rfl, dec_big (by decide)]
 rw [show (1 * 10 + 0) / 10 = 1 from rfl, dec_small (by decide)]; rfl
theorem dec_31 : decDigits 31 = [51, 49] := by
 rw [dec_big (by decide), show 31 / 10 = 3 from rfl, dec_small (by decide)]; rfl
theorem qt_31_10 : qtxt (mkRat 31 10) = (ByteArray.mk #[51, 49, 47, 49, 48]) := by
 rw [qt_part (d := 10) (z := 31) (by decide +kernel) (by decide) (by decide +kernel)]
 unfold ztxt txt
 rw [if_neg (by decide), show (31 : Int).natAbs = 31 from rfl, dec_10, dec_31]
 decide +kernel
theorem leadC (k : Nat) (D : Nat) (h1 : Nat.gcd (Eden D k) 10 = 1) (h2 : ∀ i, i < k → Nat.gcd (Eden D i) 10 ≠ 1) : Lead D k := ⟨h1, h2⟩
theorem dworks_any (w : World) (hw : KD w) : Calls Tryz.prog 14 #[] w fun e w' => e = .returned (.bool true) ∧ Below w.heap.size w w' := by
 have sz : ∀ q : Rat, q.num.natAbs < 18446744073709551616 → q.den < 18446744073709551616 → Sz q 1 := szc
 have O := fun (n d : Int) (q : Rat) (h : ((n : Int) : Rat) / ((d : Int) : Rat) = q) (b : (-9223372036854775808 ≤ n ∧ n < 9223372036854775808) ∧ (-9223372036854775808 ≤ d ∧ d < 9223372036854775808) ∧ d ≠ 0) => of4 n d q h b.1.1 b.1.2 b.2.1.1 b.2.1.2 b.2.2
 have s1 := sz (mkRat 1 8) (by decide +kernel) (by decide +kernel)
 have s2 := sz (mkRat 3 8) (by decide +kernel) (by decide +kernel)
 have s3 := sz (mkRat (-1) 8) (by decide +kernel) (by decide +kernel)
 have s4 := sz (mkRat (-1) 1000) (by decide +kernel) (by decide +kernel)
 have s5 := sz (mkRat 5 2) (by decide +kernel) (by decide +kernel)
 have s6 := sz (mkRat 2 3) (by decide +kernel) (by decide +kernel)
 have s8 := sz (mkRat (-1) 3) (by decide +kernel) (by decide +kernel)
 have R1 := fun w => roundD (mkRat 2 3) 1 2 1 s6 (by decide) (by decide) (by decide) w
 rw [show rnd 2 1 (mkRat 2 3) = mkRat 7 10 from by decide +kernel] at R1
 have B1 := fun w => betweenD (mkRat (-1) 3) 1 1 s8 (by decide) (by decide) w
 rw [show rnd 1 1 (mkRat (-1) 3) = mkRat (-2) 5 from by decide +kernel, show rnd 2 1 (mkRat (-1) 3) = mkRat (-3) 10 from by decide +kernel] at B1
 have E1 := fun w => textE ((1 : Int) : Rat) 101 1 (by decide) w
 rw [show rdC 101 1 = 3 from by decide] at E1
 have E2 := fun w => textE ((1 : Int) : Rat) 0 4 (by decide) w
 rw [show rdC 0 4 = 1 from by decide] at E2
 have Y0 := fun w => cycD (mkRat 1 109) 1 (sz _ (by decide +kernel) (by decide +kernel)) (by decide) 0 0 3 (by
  rw [show (mkRat 1 109).den = 109 from by decide +kernel]
  exact .inr (.inr (.inl ⟨0, leadC 0 109 (by decide +kernel) (fun i h => absurd h (Nat.not_lt_zero _)), by decide, by decide +kernel, fun i h1 h2 => (show ∀ i, i < 101 → 1 ≤ i → 10 ^ i % Eden 109 0 ≠ 1 from by decide +kernel) i (by omega) h1, rfl, rfl, rfl⟩))) w
 have C0 := cy4 (mkRat 1 6) 1 1 (sz _ (by decide +kernel) (by decide +kernel)) (by
  rw [show (mkRat 1 6).den = 6 from by decide +kernel]
  exact .inr (.inl ⟨1, 1, leadC 1 6 (by decide +kernel) (by decide +kernel), by decide, by decide +kernel, by decide, by decide, by decide +kernel, fun i a b => by omega, rfl, rfl, rfl⟩))
 have C1 := cy4 (mkRat 1 7) 0 6 (sz _ (by decide +kernel) (by decide +kernel)) (by
  rw [show (mkRat 1 7).den = 7 from by decide +kernel]
  exact .inr (.inl ⟨0, 6, leadC 0 7 (by decide +kernel) (fun i h => absurd h (Nat.not_lt_zero _)), by decide, by decide +kernel, by decide, by decide, by decide +kernel, fun i a b => (show ∀ i, i < 6 → 1 ≤ i → 10 ^ i % Eden 7 0 ≠ 1 from by decide +kernel) i b a, rfl, rfl, rfl⟩))
 have C2 := cy4 (mkRat (-1) 8) 3 0 s3 (by
  rw [show (mkRat (-1) 8).den = 8 from by decide +kernel]
  exact .inl ⟨3, leadC 3 8 (by decide +kernel) (by decide +kernel), by decide, by decide +kernel, rfl, rfl, rfl⟩)
 have C3 := cy4 ((3 : Int) : Rat) 0 0 (sz _ (by decide +kernel) (by decide +kernel)) (by
  rw [show ((3 : Int) : Rat).den = 1 from by decide +kernel]
  exact .inl ⟨0, leadC 0 1 (by decide +kernel) (fun i h => absurd h (Nat.not_lt_zero _)), by decide, by decide +kernel, rfl, rfl, rfl⟩)
 refine dworks_w (mkRat 1 8) (mkRat 3 8) (mkRat (-1) 8) (mkRat (-1) 1000) (mkRat 5 2) (mkRat 2 3) (mkRat 7 10) (mkRat (-1) 3) (mkRat (-2) 5) (mkRat (-3) 10) (mkRat 1 109) (mkRat 1 6) (mkRat 1 7) ((1 : Int) : Rat) ((3 : Int) : Rat)
  (O 1 8 _ (by decide +kernel) (by decide)) (O 3 8 _ (by decide +kernel) (by decide)) (O (-1) 8 _ (by decide +kernel) (by decide)) (O (-1) 1000 _ (by decide +kernel) (by decide)) (O 5 2 _ (by decide +kernel) (by decide)) (O 2 3 _ (by decide +kernel) (by decide)) (O 7 10 _ (by decide +kernel) (by decide)) (O (-1) 3 _ (by decide +kernel) (by decide)) (O (-2) 5 _ (by decide +kernel) (by decide)) (O (-3) 10 _ (by decide +kernel) (by decide)) (O 1 109 _ (by decide +kernel) (by decide)) (O 1 6 _ (by decide +kernel) (by decide)) (O 1 7 _ (by decide +kernel) (by decide))
  (fun w => intF 1 (by decide) (by decide) w) (fun w => intF 3 (by decide) (by decide) w) KD KD.keeps
  (tx4 _ 2 1 12 [48, 46, 49, 50] (by decide +kernel) (by decide) (by decide +kernel) s1 (by decide) (by decide))
  (tx4 _ 2 2 13 [48, 46, 49, 51] (by decide +kernel) (by decide) (by decide +kernel) s1 (by decide) (by decide))
  (tx4 _ 2 3 12 [48, 46, 49, 50] (by decide +kernel) (by decide) (by decide +kernel) s1 (by decide) (by decide))
  (tx4 _ 2 3 38 [48, 46, 51, 56] (by decide +kernel) (by decide) (by decide +kernel) s2 (by decide) (by decide))
  (tx4 _ 2 1 (-13) [45, 48, 46, 49, 51] (by decide +kernel) (by decide) (by decide +kernel) s3 (by decide) (by decide))
  (tx4 _ 2 2 (-12) [45, 48, 46, 49, 50] (by decide +kernel) (by decide) (by decide +kernel) s3 (by decide) (by decide))
  (tx4 _ 2 2 0 [48, 46, 48, 48] (by decide +kernel) (by decide) (by decide +kernel) s4 (by decide) (by decide))
  (tx4 _ 0 3 2 [50] (by decide +kernel) (by decide) (by decide +kernel) s5 (by decide) (by decide))
  R1 B1 E1 E2
  (rd4 _ _ _ (sz _ (by decide +kernel) (by decide +kernel)) qt_n5_4 r_m125) (rd4e _ r_007) (rd4e _ r_1d) (rd4e _ r_d5) (rd4e _ r_m00) (rd4 _ _ _ (sz _ (by decide +kernel) (by decide +kernel)) qt_31_10 r_310)
  Y0 C0 C1 C2 C3 w hw
end Go.Proofs.YtaimebjkidegiaaGreatDoor
namespace Go.Proofs.YtaimebjkidegiaaGreatDoor
open Go.RowKit Go.Proofs.YtaimebjkidegiaaGreatDoor.Rx
attribute [local irreducible] lo hs sm s64 c64 d64 b64 mh ml pd pc qd qc val hiB str cmpI srD lz nb isq decB zl zh zs dval tln fd
theorem rint_w (v : Int) (q : Rat) (HO : ∀ (w : World), Calls Tryz.prog 194 #[.int .i64 v] w fun e w' => ∃ pv, e = .returned pv ∧ RZ w' pv q.num ∧ Below w.heap.size w w') (hq : fd q = 0) (w : World) :
  Calls Tryz.prog 132 #[.int .i64 v] w fun e w' => ∃ pv, e = .returned pv ∧ RF w' pv q ∧ Below w.heap.size w w' := by
 replace HO := Lib.hid HO
 have hL0 : GL w w [] := GL.start w
 have hS : SS w [] := SS.nil w
 replace hq := Lib.hid hq
 obtain ⟨x1, hweq, hL0, hS⟩ := GL.named2 (hL0.new rfl [.bool false, .slice none 0 0, .slice none 0 0] 42) (hS.new (.cells #[.bool false, .slice none 0 0, .slice none 0 0] 42))
 go_enter Tryz.func132, Tryz.ntmps132
 go_wp2_with fail
 with_reducible refine Calls.mono (HO.out _) ?_
 rintro e x2 ⟨v0, rfl, q0, hb⟩
 replace hL0 := hL0.call hb
 replace hS := hS.call hb
 clear hb hweq
 obtain ⟨g1, d1, rfl⟩ := rz_form q0
 replace hS := hS.cons (rz_rn q0)
 clear q0
 have hS1 := hS.put ((((Upd.refl w.heap.size x2).setCell 0 (.bool (zs q.num))).setCell 1 (.slice g1 (tln q.num.natAbs) d1)).setCell 2 (.slice none 0 0)) (hL0.get _ _ mZ) (by intro v hv n; simp only [List.mem_cons, List.not_mem_nil, or_false] at hv; rcases hv with rfl | rfl | rfl <;> simp)
 have hA := hL0.fc
 simp only [zF, Nat.reduceAdd] at hA
 have hP := hL0.put 0 (w.heap.size) _ rfl [.bool (zs q.num), .slice g1 (tln q.num.natAbs) d1, .slice none 0 0] rfl
 simp only [setAll, List.set_cons_zero, List.set_cons_succ] at hP
 generalize hput1 : (((x2.setCell ⟨w.heap.size, 0, none⟩ (.bool (zs q.num))).setCell ⟨w.heap.size, 1, none⟩ (.slice g1 (tln q.num.natAbs) d1)).setCell ⟨w.heap.size, 2, none⟩ (.slice none 0 0)) = x3 at hP hS1
 have hB1 := hP.fc
 simp only [zF, Nat.reduceAdd] at hB1
 replace hL0 := hP
 replace hS := hS1
 clear hS1
 go_wp2_with fail
 exact bodyPost_ret (v := .agg #[.bool (zs q.num), .slice g1 (tln q.num.natAbs) d1, .slice none 0 0]) (by simp [results, Tryz.results132, go_sem, hB1]) rfl ⟨_, rfl, (rf_of (hS.get mZ) (by rw [hq.out]; exact (rn_nil _))), hL0.bl⟩
theorem r5of_w (n d : Int) (p q r : Rat) (HN : ∀ (w : World), Calls Tryz.prog 132 #[.int .i64 n] w fun e w' => ∃ pv, e = .returned pv ∧ RF w' pv p ∧ Below w.heap.size w w') (HD : ∀ (w : World), Calls Tryz.prog 132 #[.int .i64 d] w fun e w' => ∃ pv, e = .returned pv ∧ RF w' pv q ∧ Below w.heap.size w w') (HQ : ∀ (p0 p1 : Value) (w : World), RF w p0 p → RF w p1 q → Calls Tryz.prog 131 #[p0, p1] w fun e w' => ∃ pv, e = .returned pv ∧ RF w' pv r ∧ Below w.heap.size w w') (w : World) :
  Calls Tryz.prog 53 #[.int .i64 n, .int .i64 d] w fun e w' => ∃ pv, e = .returned pv ∧ RF w' pv r ∧ Below w.heap.size w w' := by
 replace HN := Lib.hid HN
 replace HD := Lib.hid HD
 replace HQ := Lib.hid HQ
 have hL0 : GL w w [] := GL.start w
 have hS : SS w [] := SS.nil w
 obtain ⟨x1, hweq, hL0, hS⟩ := GL.named2 (hL0.new rfl [.bool false, .slice none 0 0, .slice none 0 0] 42) (hS.new (.cells #[.bool false, .slice none 0 0, .slice none 0 0] 42))
 go_enter Tryz.func53, Tryz.ntmps53
 go_wp2_with fail
 with_reducible refine Calls.mono (HN.out _) ?_
 rintro e x2 ⟨v0, rfl, q0, hb⟩
 replace hL0 := hL0.call hb
 replace hS := hS.call hb
 clear hb hweq
 obtain ⟨g1, d1, g2, d2, rfl⟩ := rf_form q0
 replace hS := hS.cons (rf_rn1 q0)
 replace hS := hS.cons (rf_rn2 q0)
 clear q0
 go_wp2_with fail
 with_reducible refine Calls.mono (HD.out _) ?_
 rintro e x3 ⟨v0, rfl, q0, hb⟩
 replace hL0 := hL0.call hb
 replace hS := hS.call hb
 clear hb
 obtain ⟨g3, d3, g4, d4, rfl⟩ := rf_form q0
 replace hS := hS.cons (rf_rn1 q0)
 replace hS := hS.cons (rf_rn2 q0)
 clear q0
 go_wp2_with fail
 with_reducible refine Calls.mono (HQ.out (.agg #[.bool (zs p.num), .slice g1 (tln p.num.natAbs) d1, .slice g2 (tln (fd p)) d2]) (.agg #[.bool (zs q.num), .slice g3 (tln q.num.natAbs) d3, .slice g4 (tln (fd q)) d4]) _ (rf_of (hS.get (mK (mK (mK mZ)))) (hS.get (mK (mK mZ)))) (rf_of (hS.get (mK mZ)) (hS.get mZ))) ?_
 rintro e x4 ⟨v0, rfl, q0, hb⟩
 replace hL0 := hL0.call hb
 replace hS := hS.call hb
 clear hb
 obtain ⟨g5, d5, g6, d6, rfl⟩ := rf_form q0
 replace hS := hS.cons (rf_rn1 q0)
 replace hS := hS.cons (rf_rn2 q0)
 clear q0
 have hS1 := hS.put ((((Upd.refl w.heap.size x4).setCell 0 (.bool (zs r.num))).setCell 1 (.slice g5 (tln r.num.natAbs) d5)).setCell 2 (.slice g6 (tln (fd r)) d6)) (hL0.get _ _ mZ) (by intro v hv n; simp only [List.mem_cons, List.not_mem_nil, or_false] at hv; rcases hv with rfl | rfl | rfl <;> simp)
 have hA := hL0.fc
 simp only [zF, Nat.reduceAdd] at hA
 have hP := hL0.put 0 (w.heap.size) _ rfl [.bool (zs r.num), .slice g5 (tln r.num.natAbs) d5, .slice g6 (tln (fd r)) d6] rfl
 simp only [setAll, List.set_cons_zero, List.set_cons_succ] at hP
 generalize hput1 : (((x4.setCell ⟨w.heap.size, 0, none⟩ (.bool (zs r.num))).setCell ⟨w.heap.size, 1, none⟩ (.slice g5 (tln r.num.natAbs) d5)).setCell ⟨w.heap.size, 2, none⟩ (.slice g6 (tln (fd r)) d6)) = x5 at hP hS1
 have hB1 := hP.fc
 simp only [zF, Nat.reduceAdd] at hB1
 replace hL0 := hP
 replace hS := hS1
 clear hS1
 go_wp2_with fail
 exact bodyPost_ret (v := .agg #[.bool (zs r.num), .slice g5 (tln r.num.natAbs) d5, .slice g6 (tln (fd r)) d6]) (by simp [results, Tryz.results53, go_sem, hB1]) rfl ⟨_, rfl, (rf_of (hS.get (mK mZ)) (hS.get mZ)), hL0.bl⟩
theorem qref_zero (n : Int) (r : Rat) (HF : ∀ (w : World), Calls Tryz.prog 53 #[.int .i64 n, .int .i64 1] w fun e w' => ∃ pv, e = .returned pv ∧ RF w' pv r ∧ Below w.heap.size w w') (hmx : max (0 : Int) 1 = 1) (w : World) :
  Calls Tryz.prog 13 #[.agg #[.int .i64 n, .int .u32 0]] w fun e w' => ∃ pv, e = .returned pv ∧ RF w' pv r ∧ Below w.heap.size w w' := by
 replace HF := Lib.hid HF
 have hL0 : GL w w [] := GL.start w
 have hS : SS w [] := SS.nil w
 obtain ⟨x1, hweq, hL0, hS⟩ := GL.named2 ((hL0.new rfl [.int .i64 n, .int .u32 0] 24).new (K := w.heap.size + 1) (szA _ _) [.bool false, .slice none 0 0, .slice none 0 0] 42) ((hS.new (.cells #[.int .i64 n, .int .u32 0] 24)).new (.cells #[.bool false, .slice none 0 0, .slice none 0 0] 42))
 go_enter Tryz.func13, Tryz.ntmps13
 have hN0 := cells_of _ 0 [] rfl (hL0.get _ _ (mK mZ))
 simp only [zF, Nat.reduceAdd] at hN0
 go_wp2_with fail
 clear hN0
 with_reducible refine Calls.mono (HF.out _) ?_
 rintro e x2 ⟨v0, rfl, q0, hb⟩
 replace hL0 := hL0.call hb
 replace hS := hS.call hb
 clear hb hweq
 obtain ⟨g1, d1, g2, d2, rfl⟩ := rf_form q0
 replace hS := hS.cons (rf_rn1 q0)
 replace hS := hS.cons (rf_rn2 q0)
 clear q0
 have hS1 := hS.put ((((Upd.refl (w.heap.size + 1) x2).setCell 0 (.bool (zs r.num))).setCell 1 (.slice g1 (tln r.num.natAbs) d1)).setCell 2 (.slice g2 (tln (fd r)) d2)) (hL0.get _ _ mZ) (by intro v hv n; simp only [List.mem_cons, List.not_mem_nil, or_false] at hv; rcases hv with rfl | rfl | rfl <;> simp)
 have hA := hL0.fc
 simp only [zF, Nat.reduceAdd] at hA
 have hP := hL0.put 0 (w.heap.size + 1) _ rfl [.bool (zs r.num), .slice g1 (tln r.num.natAbs) d1, .slice g2 (tln (fd r)) d2] rfl
 simp only [setAll, List.set_cons_zero, List.set_cons_succ] at hP
 generalize hput1 : (((x2.setCell ⟨w.heap.size + 1, 0, none⟩ (.bool (zs r.num))).setCell ⟨w.heap.size + 1, 1, none⟩ (.slice g1 (tln r.num.natAbs) d1)).setCell ⟨w.heap.size + 1, 2, none⟩ (.slice g2 (tln (fd r)) d2)) = x3 at hP hS1
 have hB1 := hP.fc
 simp only [zF, Nat.reduceAdd] at hB1
 replace hL0 := hP
 replace hS := hS1
 clear hS1
 go_wp2_with fail
 exact bodyPost_ret (v := .agg #[.bool (zs r.num), .slice g1 (tln r.num.natAbs) d1, .slice g2 (tln (fd r)) d2]) (by simp [results, Tryz.results13, go_sem, hB1]) rfl ⟨_, rfl, (rf_of (hS.get (mK mZ)) (hS.get mZ)), hL0.bl⟩
theorem qref_pos (n d : Int) (r : Rat) (HF : ∀ (w : World), Calls Tryz.prog 53 #[.int .i64 n, .int .i64 d] w fun e w' => ∃ pv, e = .returned pv ∧ RF w' pv r ∧ Below w.heap.size w w') (h1 : max d 1 = d) (hw : IntKind.i64.wrap d = d) (w : World) :
  Calls Tryz.prog 13 #[.agg #[.int .i64 n, .int .u32 d]] w fun e w' => ∃ pv, e = .returned pv ∧ RF w' pv r ∧ Below w.heap.size w w' := by
 replace HF := Lib.hid HF
 have hL0 : GL w w [] := GL.start w
 have hS : SS w [] := SS.nil w
 obtain ⟨x1, hweq, hL0, hS⟩ := GL.named2 ((hL0.new rfl [.int .i64 n, .int .u32 d] 24).new (K := w.heap.size + 1) (szA _ _) [.bool false, .slice none 0 0, .slice none 0 0] 42) ((hS.new (.cells #[.int .i64 n, .int .u32 d] 24)).new (.cells #[.bool false, .slice none 0 0, .slice none 0 0] 42))
 go_enter Tryz.func13, Tryz.ntmps13
 have hN0 := cells_of _ 0 [] rfl (hL0.get _ _ (mK mZ))
 simp only [zF, Nat.reduceAdd] at hN0
 go_wp2_with fail
 clear hN0
 with_reducible refine Calls.mono (HF.out _) ?_
 rintro e x2 ⟨v0, rfl, q0, hb⟩
 replace hL0 := hL0.call hb
 replace hS := hS.call hb
 clear hb hweq
 obtain ⟨g1, d1, g2, d2, rfl⟩ := rf_form q0
 replace hS := hS.cons (rf_rn1 q0)
 replace hS := hS.cons (rf_rn2 q0)
 clear q0
 have hS1 := hS.put ((((Upd.refl (w.heap.size + 1) x2).setCell 0 (.bool (zs r.num))).setCell 1 (.slice g1 (tln r.num.natAbs) d1)).setCell 2 (.slice g2 (tln (fd r)) d2)) (hL0.get _ _ mZ) (by intro v hv n; simp only [List.mem_cons, List.not_mem_nil, or_false] at hv; rcases hv with rfl | rfl | rfl <;> simp)
 have hA := hL0.fc
 simp only [zF, Nat.reduceAdd] at hA
 have hP := hL0.put 0 (w.heap.size + 1) _ rfl [.bool (zs r.num), .slice g1 (tln r.num.natAbs) d1, .slice g2 (tln (fd r)) d2] rfl
 simp only [setAll, List.set_cons_zero, List.set_cons_succ] at hP
 generalize hput1 : (((x2.setCell ⟨w.heap.size + 1, 0, none⟩ (.bool (zs r.num))).setCell ⟨w.heap.size + 1, 1, none⟩ (.slice g1 (tln r.num.natAbs) d1)).setCell ⟨w.heap.size + 1, 2, none⟩ (.slice g2 (tln (fd r)) d2)) = x3 at hP hS1
 have hB1 := hP.fc
 simp only [zF, Nat.reduceAdd] at hB1
 replace hL0 := hP
 replace hS := hS1
 clear hS1
 go_wp2_with fail
 exact bodyPost_ret (v := .agg #[.bool (zs r.num), .slice g1 (tln r.num.natAbs) d1, .slice g2 (tln (fd r)) d2]) (by simp [results, Tryz.results13, go_sem, hB1]) rfl ⟨_, rfl, (rf_of (hS.get (mK mZ)) (hS.get mZ)), hL0.bl⟩
end Go.Proofs.YtaimebjkidegiaaGreatDoor
namespace Go.Proofs.YtaimebjkidegiaaGreatDoor
open Go.RowKit Go.Proofs.YtaimebjkidegiaaGreatDoor.Rx
theorem xdI64 {v : Int} (h1 : -9223372036854775808 ≤ v) (h2 : v < 9223372036854775808) : dI v ≤ 1 := digs_length_iff.2 (by unfold Bs; omega)
theorem xrzofI (v : Int) (h1 : -9223372036854775808 ≤ v) (h2 : v < 9223372036854775808) (w : World) : Calls Tryz.prog 194 #[.int .i64 v] w fun e w' => ∃ u, e = .returned u ∧ RZ w' u v ∧ Below w.heap.size w w' := by
 by_cases h : v < 0
 ·exact rzof_neg v (v + 1) (-(v + 1)) (-(v + 1)) (-v) v v.natAbs (fun w => rof_val (-v) v.natAbs (by omega) (by omega) w) (rz_from true v.natAbs v (by simp [h]; omega) rfl)
   (decide_eq_true h) (by simp [IntKind.wrap, IntKind.signed, IntKind.bits]; omega) (by simp [IntKind.wrap, IntKind.signed, IntKind.bits]; omega) (by simp [IntKind.wrap, IntKind.signed, IntKind.bits]; omega) (by simp [IntKind.wrap, IntKind.signed, IntKind.bits]; omega) w
 ·exact rzof_pos v v v v.natAbs (fun w => rof_val v v.natAbs (by omega) (by omega) w) (rz_from false v.natAbs v (by simp [h]) rfl) (decide_eq_false h) (by simp [IntKind.wrap, IntKind.signed, IntKind.bits]; omega) w
theorem xrintR (v : Int) (h1 : -9223372036854775808 ≤ v) (h2 : v < 9223372036854775808) (w : World) : Calls Tryz.prog 132 #[.int .i64 v] w fun e w' => ∃ u, e = .returned u ∧ RF w' u (v : Rat) ∧ Below w.heap.size w w' :=
 rint_w v (v : Rat) (fun w => by rw [Rat.num_intCast]; exact xrzofI v h1 h2 w) (by unfold fd; rw [Rat.den_intCast]) w
theorem xrofR (n d : Int) (a1 : -9223372036854775808 ≤ n) (a2 : n < 9223372036854775808) (b1 : -9223372036854775808 ≤ d) (b2 : d < 9223372036854775808) (h0 : d ≠ 0) (w : World) :
  Calls Tryz.prog 53 #[.int .i64 n, .int .i64 d] w fun e w' => ∃ u, e = .returned u ∧ RF w' u ((n : Rat) / (d : Rat)) ∧ Below w.heap.size w w' :=
 r5of_w n d (n : Rat) (d : Rat) _ (xrintR n a1 a2) (xrintR d b1 b2) (fun v1 v2 w g1 g2 => rdivF (n : Rat) (d : Rat) (k := 1) (Sz.int (xdI64 a1 a2) (by decide)) (Sz.int (xdI64 b1 b2) (by decide)) (fun e => h0 (by have := congrArg Rat.num e; rwa [Rat.num_intCast] at this)) (by decide) v1 v2 w g1 g2) w
theorem xqrefR (n d : Int) (a1 : -9223372036854775808 ≤ n) (a2 : n < 9223372036854775808) (b1 : 0 ≤ d) (b2 : d < 4294967296) (w : World) :
  Calls Tryz.prog 13 #[.agg #[.int .i64 n, .int .u32 d]] w fun e w' => ∃ u, e = .returned u ∧ RF w' u (qmade n d.toNat) ∧ Below w.heap.size w w' := by
 by_cases h : d = 0
 ·subst h
  have e : (n : Rat) / ((1 : Int) : Rat) = qmade n 0 := by rw [← of_val_q n 1 (by decide)]; rfl
  have hF := fun w => xrofR n 1 a1 a2 (by decide) (by decide) (by decide) w
  rw [e] at hF
  exact qref_zero n _ hF (by decide) w
 ·have e : (n : Rat) / (d : Rat) = qmade n d.toNat := by
   rw [← of_val_q n d h]
   unfold qmade
   rw [if_neg (by omega), if_neg (by omega), show d.natAbs = d.toNat by omega]
  have hF := fun w => xrofR n d a1 a2 (by omega) (by omega) h w
  rw [e] at hF
  exact qref_pos n d _ hF (by omega) (IntWalk.i64_in _ (by omega)) w
theorem dcycle_any (nx dx : Int) (ax : -9223372036854775808 ≤ nx ∧ nx < 9223372036854775808) (bx : 0 ≤ dx ∧ dx < 4294967296) (w : World) (hw : KD w) :
  Calls Tryz.prog 3 #[.agg #[.int .i64 nx, .int .u32 dx]] w fun xe w' => xe = .returned (.bool true) ∧ Below w.heap.size w w' := by
 have GX := fun w => qof_any nx dx ax.1 ax.2 bx.1 bx.2 w
 have RX := fun w => xqrefR nx dx ax.1 ax.2 bx.1 bx.2 w
 have sa := qmade_sz nx dx.toNat ax.1 ax.2 (by omega)
 generalize qmade nx dx.toNat = q at *
 obtain ⟨x, y, c, hC⟩ := cycA_ex q.den
 exact dcycle_w nx dx x y c q GX (fun w => cycD q 1 sa (by decide) x y c hC w) RX (fun v w h => rcyc_any q sa (by decide) x y c hC v w h) KD KD.keeps dworks_any w hw
end Go.Proofs.YtaimebjkidegiaaGreatDoor
namespace Go.Proofs.YtaimebjkidegiaaGreatDoor
open Go.ChangeShapes Go.WideShapes Go.ChangeAt Go.RowKit
theorem own : ownKnob Tryz.prog.godebug = none := by kernel_rfl
theorem laidOut : laidOutB Tryz.prog = true := by kernel_rfl
theorem cells24 : Tryz.prog.cellsOf 28 = 1 := by kernel_rfl
/-- The variables that every row of this layer lists. -/
def laidAll : List (String × DataW Unit) := [("math/bits.deBruijn32tab", Rows.laid_math_bits_deBruijn32tab), ("math/bits.deBruijn64tab", Rows.laid_math_bits_deBruijn64tab), ("internal/strconv.uint64pow10", Rows.laid_internal_strconv_uint64pow10)]
theorem gPow : Tryz.prog.globalNamed "internal/strconv.uint64pow10" = some 3 := by kernel_rfl
theorem gPowType : (Tryz.prog.globals[3]?).map (·.type) = some 344 := by kernel_rfl
theorem cells20 : Tryz.prog.cellsOf 344 = 20 := by kernel_rfl
theorem tab_of {W : World} (h : laidMetH Tryz.prog laidAll W) : Tab W := by
 have h1 := laidMetH.filter (fun x => x.1 == "internal/strconv.uint64pow10") h
 have e : laidAll.filter (fun x => x.1 == "internal/strconv.uint64pow10") = [("internal/strconv.uint64pow10", Rows.laid_internal_strconv_uint64pow10)] := by kernel_rfl
 rw [e, MakeChecks.laidMetH_plain _ _ _ (by kernel_rfl)] at h1
 exact Lib.tabIs_of_head (rest := []) gPow gPowType Tryz.underlying344 Tryz.underlying28 cells24 cells20 (show laidMet Tryz.prog (("internal/strconv.uint64pow10", Lib.tabData .u64 Lib.pow10Tab) :: []) W from h1)
end Go.Proofs.YtaimebjkidegiaaGreatDoor
namespace Go.Proofs.YtaimebjkidegiaaGreatDoor
open Go.ChangeShapes Go.WideShapes Go.ChangeAt Go.RowKit Go.Joins
theorem cellsQ : Tryz.prog.cellsOf 24 = 2 := by kernel_rfl
theorem q_of {H : Type} {enc : TypeId × Value → H} {W : World} {base : Nat} {v : Value} {d : DataW H} {p : List MemPlace} (hv : Value.okWide Tryz.prog W .any base 24 v)
  (h : DataW.Trod enc Tryz.prog W 0 (fun _ => true) true 24 v d p) : ∃ n e : Int, v = .agg #[.int .i64 n, .int .u32 e] ∧ (-9223372036854775808 ≤ n ∧ n < 9223372036854775808) ∧ (0 ≤ e ∧ e < 4294967296) := by
 obtain ⟨v0, v1, y0, y1, m, rfl, rfl, rfl, h0, h1⟩ := open_agg2 Tryz.underlying24 (by kernel_rfl) cellsQ hv h
 obtain ⟨n, e0, -, f0⟩ := DataW.trod_int Tryz.underlying2 h0
 obtain ⟨e, e1, -, f1⟩ := DataW.trod_int Tryz.underlying22 h1
 simp only [List.cons.injEq, and_true] at e0 e1
 subst e0 e1
 have b0 := bounds_i64 f0
 have b1 := bounds_u32 f1
 exact ⟨n, e, rfl, by omega, by omega⟩
end Go.Proofs.YtaimebjkidegiaaGreatDoor
