/-
  The law answers true at every input, and leaves its arguments as they were: a part of the proof. CONDITIONS: the package-level tables start as the program's text lays them (the card ties them).
-/
import Derived.Test.YtkpghlnegbimdaaGreatDoorZae
set_option linter.unusedVariables false
set_option linter.unusedSimpArgs false
set_option maxHeartbeats 16000000
set_option maxRecDepth 100000
namespace Go.Proofs.YtkpghlnegbimdaaGreatDoor
open Go.Lib (decDigits nDigits)
theorem dch_toNat {d : Nat} (h : d < 10) : (dch d).toNat = 48 + d := by
 unfold dch; rw [UInt8.toNat_ofNat']; omega
theorem dec_ne_nil (n : Nat) : decDigits n ≠ [] := fun h => by have := dec_length_pos n; rw [h] at this; exact absurd this (by simp)
theorem dval_dec (n : Nat) : dval (decDigits n) = n := by
 induction n using Nat.strongRecOn with
 | _ n ih =>
  rcases Nat.lt_or_ge n 10 with h | h
  ·rw [dec_small h]
   show 0 * 10 + ((dch n).toNat - 48) = n
   rw [dch_toNat h]; omega
  ·rw [dec_big (by omega), dval_snoc, ih (n / 10) (by omega), dch_toNat (by omega)]; omega
theorem dec_isDig (n : Nat) : ∀ c ∈ decDigits n, isDig c := by
 induction n using Nat.strongRecOn with
 | _ n ih =>
  rcases Nat.lt_or_ge n 10 with h | h
  ·rw [dec_small h]
   intro c hc
   rw [List.mem_singleton.1 hc]
   unfold isDig; rw [dch_toNat h]; omega
  ·rw [dec_big (by omega)]
   intro c hc
   rcases List.mem_append.1 hc with hc | hc
   ·exact ih (n / 10) (by omega) c hc
   ·rw [List.mem_singleton.1 hc]
    unfold isDig; rw [dch_toNat (by omega)]; omega
end Go.Proofs.YtkpghlnegbimdaaGreatDoor
namespace Go.Proofs.YtkpghlnegbimdaaGreatDoor
open Go.RowKit
attribute [local irreducible] lo hs sm s64 c64 d64 b64 mh ml pd pc qd qc val hiB str cmpI srD lz nb zl zh zs fe klT ordZ
theorem palike_w (l m : List TI) (ao bo : Option Addr) (n c n2 c2 : Nat) (b : Bool) (hb : b = decide (l = m)) (hln : l.length = n) (hmn : m.length = n2) (hbig : n ≤ 10000)
  (w : World) (hl : 0 < n → ∃ g, ao = some ⟨g, 0, none⟩ ∧ TS w g l) (hm : 0 < n2 → ∃ g, bo = some ⟨g, 0, none⟩ ∧ TS w g m) :
  Calls Tryz.prog 19 #[.slice ao n c, .slice bo n2 c2] w fun xe w' => xe = .returned (.bool b) ∧ Below w.heap.size w w' := by
 replace hl := Lib.hid hl
 replace hm := Lib.hid hm
 replace hb := Lib.hid hb
 replace hln := Lib.hid hln
 replace hmn := Lib.hid hmn
 by_cases hnm : n = n2
 ·subst hnm
  go_enter Tryz.func19, Tryz.ntmps19
  go_wp2_with fail
  go_loopg [5] n (fun gk iv wr => ∃ (i : Nat) (zi : Int), i + gk = n ∧ iv = .int .i64 zi ∧ zi = (i : Int) ∧ (∀ j (h1 : j < l.length) (h2 : j < m.length), j < i → l[j] = m[j]) ∧ Below w.heap.size w wr)
  case atStart => exact ⟨0, 0, Nat.zero_add n, by first | rfl | go_num, rfl, fun j _ _ h => absurd h (Nat.not_lt_zero _), Below.refl _ _⟩
  case round =>
   obtain ⟨i, zi, hik, rfl, hzi, hall, hB⟩ := hrel
   replace hall := Lib.hid hall
   rcases Nat.lt_or_ge i n with hin | hin
   ·subst hzi
    have hil : i < l.length := by rw [hln.out]; exact hin
    have him : i < m.length := by rw [hmn.out]; exact hin
    obtain ⟨g, rfl, hts⟩ := hl.out (by omega)
    obtain ⟨g2, rfl, hts2⟩ := hm.out (by omega)
    have k1 : (i : Int) < (n : Int) := by omega
    have k0 : (0 : Int) ≤ (i : Int) := Int.natCast_nonneg _
    obtain ⟨a, bb, q, hli⟩ : ∃ a b q, l[i] = (a, b, q) := ⟨_, _, _, rfl⟩
    obtain ⟨a2, b2, q2, hmi⟩ : ∃ a b q, m[i] = (a, b, q) := ⟨_, _, _, rfl⟩
    obtain ⟨t, ht⟩ : ∃ t, t = decide ((a, bb, q) = ((a2, b2, q2) : TI)) := ⟨_, rfl⟩
    have hne := fun W => run_neqT a bb a2 b2 q q2 t ht W
    replace ht := Lib.hid ht
    go_upto_region 6 with fail
    obtain ⟨α, iα, F, hF1, hF2⟩ := cls wr
    have hp9 := fun x => ((hts.below hB).below (hF1 x)).cell i hil
    have hr9 := fun x => ((hts2.below hB).below (hF1 x)).cell i him
    simp only [hli] at hp9
    simp only [hmi] at hr9
    replace hli := Lib.hid hli
    replace hmi := Lib.hid hmi
    have p0 := fun x => (hp9 x).1
    have p1 := fun x => (hp9 x).2.1
    have p2 := fun x => (hp9 x).2.2.1
    have p3 := fun x => (hp9 x).2.2.2.1
    have p4 := fun x => (hp9 x).2.2.2.2.1
    have p5 := fun x => (hp9 x).2.2.2.2.2.1
    have p6 := fun x => (hp9 x).2.2.2.2.2.2
    have r0 := fun x => (hr9 x).1
    have r1 := fun x => (hr9 x).2.1
    have r2 := fun x => (hr9 x).2.2.1
    have r3 := fun x => (hr9 x).2.2.2.1
    have r4 := fun x => (hr9 x).2.2.2.2.1
    have r5 := fun x => (hr9 x).2.2.2.2.2.1
    have r6 := fun x => (hr9 x).2.2.2.2.2.2
    clear hp9 hr9
    cases t with
    | true =>
     refine region_cls (F := F) (by kernel_rfl) (lexB_of_fast (by kernel_rfl)) (cls_drew hF2) ?_
     repeat (go_big_quiet_step (first | fail))
     refine wpQuiet_nil ?_
     rintro wq ⟨xq, rfl⟩
     have hB2 := hB.trans ((hF1 xq).mono hB.size)
     clear p0 p1 p2 p3 p4 p5 p6 r0 r1 r2 r3 r4 r5 r6 hF2 hne
     generalize F xq = y2 at hB2 ⊢
     clear hF1 xq iα F α
     have hall2 := Lib.hid (show ∀ j (h1 : j < l.length) (h2 : j < m.length), j < i + 1 → l[j] = m[j] from fun j h1 h2 h3 => by
      rcases Nat.lt_or_ge j i with h | h
      ·exact hall.out j h1 h2 h
      ·obtain rfl : j = i := by omega
       rw [hli.out, hmi.out]; exact of_decide_eq_true ht.out.symm)
     go_wp2_with fail
     go_roundg (gk - 1)
     case measure => omega
     case rel => exact ⟨i + 1, _, by omega, by first | rfl | go_num, by omega, hall2.out, hB2⟩
    | false =>
     have hbf : b = false := by
      rw [hb.out]
      refine decide_eq_false fun e => ?_
      have h1 := of_decide_eq_false ht.out.symm
      exact h1 (by rw [← hli.out, ← hmi.out]; simp only [e])
     replace hbf := Lib.hid hbf
     refine region_cls (F := F) (by kernel_rfl) (lexB_of_fast (by kernel_rfl)) (cls_drew hF2) ?_
     repeat (go_big_quiet_step (first | fail))
     refine wpQuiet_nil ?_
     rintro wq ⟨xq, rfl⟩
     have hB2 := hB.trans ((hF1 xq).mono hB.size)
     clear p0 p1 p2 p3 p4 p5 p6 r0 r1 r2 r3 r4 r5 r6 hF2 hne
     generalize F xq = y2 at hB2 ⊢
     clear hF1 xq iα F α
     go_wp2_with fail
     go_ret
     exact ⟨by rw [hbf.out]; rfl, hB2⟩
   ·obtain rfl : i = n := by omega
    subst hzi
    have k1 : ¬ (i : Int) < (i : Int) := by omega
    have hbt : b = true := by
     rw [hb.out]
     exact decide_eq_true (alike_iff (by rw [hln.out, hmn.out]) i hln.out.symm hall.out)
    replace hbt := Lib.hid hbt
    go_wp2_with fail
    go_ret
    exact ⟨by rw [hbt.out]; rfl, hB⟩
 ·have b1 : (((n : Nat) : Int) != ((n2 : Nat) : Int)) = true := by simp; omega
  have b2 : ¬ ((n : Nat) : Int) = ((n2 : Nat) : Int) := by omega
  have hbf : b = false := by
   rw [hb.out]
   exact decide_eq_false fun e => hnm (by rw [← hln.out, ← hmn.out, e])
  replace hbf := Lib.hid hbf
  go_enter Tryz.func19, Tryz.ntmps19
  go_wp2_with fail
  go_ret
  exact ⟨by rw [hbf.out]; rfl, Below.refl _ _⟩
theorem alikeP (l m : List TI) (hl : l.length ≤ 10000) (w : World) (v u : Value) (h : PT w v l) (g : PT w u m) :
  Calls Tryz.prog 19 #[v, u] w fun xe w' => xe = .returned (.bool (decide (l = m))) ∧ Below w.heap.size w w' := by
 obtain ⟨ao, n, c, rfl, hn⟩ := pt_form h
 obtain ⟨bo, n2, c2, rfl, hn2⟩ := pt_form g
 exact palike_w l m ao bo n c n2 c2 _ rfl hn.symm hn2.symm (by omega) w (pt_parts h).2 (pt_parts g).2
end Go.Proofs.YtkpghlnegbimdaaGreatDoor
namespace Go.Proofs.YtkpghlnegbimdaaGreatDoor
open Go.RowKit
attribute [local irreducible] lo hs sm s64 c64 d64 b64 mh ml pd pc qd qc val hiB str cmpI srD lz nb zl zh zs fe klT ordZ Bs
theorem scaleN_eqv (c : Rat) (p : TL) : Eqv (scaleN c p) (scaleL c p) := nfL_eqv _
theorem sub_self8 (p : TL) : addN p (scaleN (-1) p) = [] :=
 nf_uniq (nfL_nf _) NF.nil fun F => by
  rw [addN_eqv _ _ F, pair_append, scaleN_eqv _ _ F, pair_scale]
  show _ = (0 : Rat)
  grind
theorem sub_nil8 {p q : TL} (hp : NF p) (hq : NF q) : addN p (scaleN (-1) q) = [] ↔ p = q := by
 constructor
 ·intro h
  refine nf_uniq hp hq fun F => ?_
  have h1 := addN_eqv p (scaleN (-1) q) F
  rw [h, pair_append, scaleN_eqv _ _ F, pair_scale] at h1
  replace h1 : (0 : Rat) = _ := h1
  grind
 ·rintro rfl
  exact sub_self8 p
end Go.Proofs.YtkpghlnegbimdaaGreatDoor
namespace Go.Proofs.YtkpghlnegbimdaaGreatDoor
open Go.RowKit
attribute [local irreducible] lo hs sm s64 c64 d64 b64 mh ml pd pc qd qc val hiB str cmpI srD lz nb zl zh zs fe klT ordZ
theorem ptexts_l1 (al am : Option Addr) (nl cl nm cm : Nat) (n8 : Int)  (KT : World → Prop) (hKT : Keeps KT) (HW : ∀ w, KT w → Calls Tryz.prog 8 #[] w fun xe w' => xe = .returned (.bool true) ∧ Below w.heap.size w w') (l_nl : decide ((8 : Int) < ((nl : Nat) : Int)) = true) (k_nl : decide (8 < nl) = true) (w : World) (kKT : KT w) :
  Calls Tryz.prog 7 #[.slice al nl cl, .slice am nm cm, .int .u8 n8] w fun e w' => e = .returned (.bool true) ∧ Below w.heap.size w w' := by
 replace hKT := Lib.hid hKT
 replace HW := Lib.hid HW
 have hL0 : GL w w [] := GL.start w
 have hT : PTs w [] := PTs.nil w
 go_enter Tryz.func7, Tryz.ntmps7
 go_wp2_with fail
 with_reducible refine Calls.mono (HW.out _ (hKT.out.at hL0.bl kKT)) ?_
 rintro e x1 ⟨rfl, hb⟩
 replace hL0 := hL0.call hb
 replace hT := hT.call hb
 clear hb
 go_wp2_with fail
 exact bodyPost_ret (v := .bool true) (by simp [results, Tryz.results7, go_sem]) rfl ⟨rfl, hL0.bl⟩
theorem ptexts_l2 (al am : Option Addr) (nl cl nm cm : Nat) (n8 : Int)  (KT : World → Prop) (hKT : Keeps KT) (HW : ∀ w, KT w → Calls Tryz.prog 8 #[] w fun xe w' => xe = .returned (.bool true) ∧ Below w.heap.size w w') (l_nl : decide ((8 : Int) < ((nl : Nat) : Int)) = false) (k_nl : decide (8 < nl) = false) (l_nm : decide ((8 : Int) < ((nm : Nat) : Int)) = true) (k_nm : decide (8 < nm) = true) (w : World) (kKT : KT w) :
  Calls Tryz.prog 7 #[.slice al nl cl, .slice am nm cm, .int .u8 n8] w fun e w' => e = .returned (.bool true) ∧ Below w.heap.size w w' := by
 replace hKT := Lib.hid hKT
 replace HW := Lib.hid HW
 have hL0 : GL w w [] := GL.start w
 have hT : PTs w [] := PTs.nil w
 go_enter Tryz.func7, Tryz.ntmps7
 go_wp2_with fail
 with_reducible refine Calls.mono (HW.out _ (hKT.out.at hL0.bl kKT)) ?_
 rintro e x1 ⟨rfl, hb⟩
 replace hL0 := hL0.call hb
 replace hT := hT.call hb
 clear hb
 go_wp2_with fail
 exact bodyPost_ret (v := .bool true) (by simp [results, Tryz.results7, go_sem]) rfl ⟨rfl, hL0.bl⟩
theorem ptexts_s (al am : Option Addr) (nl cl nm cm : Nat) (n8 : Int) (n : Nat) (pa : List TI) (Q : Nat → List TI) (ta : ByteArray) (c1 : Rat) (KL : World → Prop) (hKL : Keeps KL) (HMa : ∀ (w : World), KL w → Calls Tryz.prog 22 #[.slice al nl cl, .int .i64 3] w fun e w' => ∃ pv, e = .returned pv ∧ PT w' pv pa ∧ Below w.heap.size w w') (KM : World → Prop) (hKM : Keeps KM) (HMb : ∀ (w : World), KM w → Calls Tryz.prog 22 #[.slice am nm cm, .int .i64 3] w fun e w' => ∃ pv, e = .returned pv ∧ PT w' pv pa ∧ Below w.heap.size w w') (S1 : ∀ (p0 p1 : Value) (w : World), PT w p0 pa → PT w p1 pa → Calls Tryz.prog 17 #[p0, p1] w fun e w' => e = .returned (.bool true) ∧ Below w.heap.size w w') (KT : World → Prop) (hKT : Keeps KT) (T1 : ∀ (p0 : Value) (w : World), KT w → PT w p0 pa → Calls Tryz.prog 13 #[p0] w fun e w' => e = .returned (.string ta) ∧ Below w.heap.size w w') (B1 : ∀ (p0 p1 : Value) (w : World), PT w p0 pa → PT w p1 pa → Calls Tryz.prog 25 #[p0, p1] w fun e w' => ∃ pv, e = .returned pv ∧ PT w' pv ([]) ∧ Below w.heap.size w w') (O1 : ∀ (p0 : Value) (w : World), PT w p0 pa → Calls Tryz.prog 18 #[p0] w fun e w' => e = .returned (.bool true) ∧ Below w.heap.size w w') (L1 : ∀ (p0 p1 : Value) (w : World), PT w p0 pa → PT w p1 pa → Calls Tryz.prog 19 #[p0, p1] w fun e w' => e = .returned (.bool true) ∧ Below w.heap.size w w') (HP : ∀ (p0 : Value) (w : World), PT w p0 pa → Calls Tryz.prog 40 #[p0, .int .i64 (n : Int)] w fun e w' => ∃ pv, e = .returned (.tuple #[pv, .int .i64 0]) ∧ PT w' pv ((Q n)) ∧ Below w.heap.size w w') (HI1 : ∀ w, Calls Tryz.prog 35 #[.int .i64 1] w fun xe w' => xe = .returned (fracV c1) ∧ Below w.heap.size w w') (HK : ∀ (w : World), Calls Tryz.prog 34 #[fracV c1] w fun e w' => ∃ pv, e = .returned pv ∧ PT w' pv ((Q 0)) ∧ Below w.heap.size w w') (S2 : ∀ (p0 p1 : Value) (w : World), PT w p0 ((Q n)) → PT w p1 ((Q n)) → Calls Tryz.prog 17 #[p0, p1] w fun e w' => e = .returned (.bool true) ∧ Below w.heap.size w w') (HW : ∀ w, KT w → Calls Tryz.prog 8 #[] w fun xe w' => xe = .returned (.bool true) ∧ Below w.heap.size w w') (l_nl : decide ((8 : Int) < ((nl : Nat) : Int)) = false) (k_nl : decide (8 < nl) = false) (l_nm : decide ((8 : Int) < ((nm : Nat) : Int)) = false) (k_nm : decide (8 < nm) = false) (hn : n8.tmod 5 = (n : Int)) (hw : IntKind.i64.wrap (n : Int) = (n : Int)) (hn4 : n ≤ 4) (HM : ∀ k, k < n → ∀ (p0 p1 : Value) (w : World), PT w p0 (Q k) → PT w p1 pa → Calls Tryz.prog 23 #[p0, p1] w fun e w' => ∃ pv, e = .returned (.tuple #[pv, .int .i64 0]) ∧ PT w' pv (Q (k + 1)) ∧ Below w.heap.size w w') (w : World) (kKL : KL w) (kKM : KM w) (kKT : KT w) :
  Calls Tryz.prog 7 #[.slice al nl cl, .slice am nm cm, .int .u8 n8] w fun e w' => e = .returned (.bool true) ∧ Below w.heap.size w w' := by
 replace hKL := Lib.hid hKL
 replace HMa := Lib.hid HMa
 replace hKM := Lib.hid hKM
 replace HMb := Lib.hid HMb
 replace S1 := Lib.hid S1
 replace hKT := Lib.hid hKT
 replace T1 := Lib.hid T1
 replace B1 := Lib.hid B1
 replace O1 := Lib.hid O1
 replace L1 := Lib.hid L1
 replace HP := Lib.hid HP
 replace HI1 := Lib.hid HI1
 replace HK := Lib.hid HK
 replace S2 := Lib.hid S2
 replace HW := Lib.hid HW
 have hL0 : GL w w [] := GL.start w
 have hT : PTs w [] := PTs.nil w
 replace HM := Lib.hid HM
 go_enter Tryz.func7, Tryz.ntmps7
 go_wp2_with fail
 with_reducible refine Calls.mono (HMa.out _ (hKL.out.at (hL0.bl) kKL)) ?_
 rintro e x1 ⟨v0, rfl, q0, hb⟩
 replace hL0 := hL0.call hb
 replace hT := hT.call hb
 clear hb
 obtain ⟨g1, d1, g1c, rfl, -⟩ := pt_form q0
 replace hT := hT.cons q0
 clear q0
 go_wp2_with fail
 with_reducible refine Calls.mono (HMb.out _ (hKM.out.at (hL0.bl) kKM)) ?_
 rintro e x2 ⟨v0, rfl, q0, hb⟩
 replace hL0 := hL0.call hb
 replace hT := hT.call hb
 clear hb
 obtain ⟨g2, d2, g2c, rfl, -⟩ := pt_form q0
 replace hT := hT.cons q0
 clear q0
 go_wp2_with fail
 with_reducible refine Calls.mono (S1.out (.slice g1 d1 g1c) (.slice g2 d2 g2c) _ (hT.get (mK mZ)) (hT.get mZ)) ?_
 rintro e x3 ⟨rfl, hb⟩
 replace hL0 := hL0.call hb
 replace hT := hT.call hb
 clear hb
 go_wp2_with fail
 with_reducible refine Calls.mono (T1.out (.slice g1 d1 g1c) _ (hKT.out.at (hL0.bl) kKT) (hT.get (mK mZ))) ?_
 rintro e x4 ⟨rfl, hb⟩
 replace hL0 := hL0.call hb
 replace hT := hT.call hb
 clear hb
 go_wp2_with fail
 with_reducible refine Calls.mono (T1.out (.slice g2 d2 g2c) _ (hKT.out.at (hL0.bl) kKT) (hT.get mZ)) ?_
 rintro e x5 ⟨rfl, hb⟩
 replace hL0 := hL0.call hb
 replace hT := hT.call hb
 clear hb
 go_wp2_with fail
 with_reducible refine Calls.mono (B1.out (.slice g1 d1 g1c) (.slice g2 d2 g2c) _ (hT.get (mK mZ)) (hT.get mZ)) ?_
 rintro e x6 ⟨v0, rfl, q0, hb⟩
 replace hL0 := hL0.call hb
 replace hT := hT.call hb
 clear hb
 obtain ⟨g3, d3, g3c, rfl, d3h⟩ := pt_form q0
 obtain rfl : d3 = 0 := d3h
 replace hT := hT.cons q0
 clear q0
 go_wp2_with fail
 with_reducible refine Calls.mono (O1.out (.slice g1 d1 g1c) _ (hT.get (mK (mK mZ)))) ?_
 rintro e x7 ⟨rfl, hb⟩
 replace hL0 := hL0.call hb
 replace hT := hT.call hb
 clear hb
 go_wp2_with fail
 with_reducible refine Calls.mono (L1.out (.slice g1 d1 g1c) (.slice g2 d2 g2c) _ (hT.get (mK (mK mZ))) (hT.get (mK mZ))) ?_
 rintro e x8 ⟨rfl, hb⟩
 replace hL0 := hL0.call hb
 replace hT := hT.call hb
 clear hb
 go_wp2_with fail
 with_reducible refine Calls.mono (HP.out (.slice g1 d1 g1c) _ (hT.get (mK (mK mZ)))) ?_
 rintro e x9 ⟨v0, rfl, q0, hb⟩
 replace hL0 := hL0.call hb
 replace hT := hT.call hb
 clear hb
 obtain ⟨g4, d4, g4c, rfl, -⟩ := pt_form q0
 replace hT := hT.cons q0
 clear q0
 go_wp2_with fail
 with_reducible refine Calls.mono (HI1.out _) ?_
 rintro e x10 ⟨rfl, hb⟩
 replace hL0 := hL0.call hb
 replace hT := hT.call hb
 clear hb
 go_wp2_with fail
 with_reducible refine Calls.mono (HK.out _) ?_
 rintro e x11 ⟨v0, rfl, q0, hb⟩
 replace hL0 := hL0.call hb
 replace hT := hT.call hb
 clear hb
 obtain ⟨g5, d5, g5c, rfl, -⟩ := pt_form q0
 replace hT := hT.cons q0
 clear q0
 go_wp2_with fail
 have hq0 := (hT.get mZ)
 go_loopg [12, 13] n (fun gk sv iv wr => ∃ (k : Nat) (zi : Int) (vs : Value), k + gk = n ∧ vs = sv ∧ iv = .int .i64 zi ∧ zi = (k : Int) ∧ PT wr vs (Q k) ∧ GL w wr [] ∧ PTs wr [(.slice g5 d5 g5c, (Q 0)), (.slice g4 d4 g4c, (Q n)), (.slice g3 0 g3c, []), (.slice g2 d2 g2c, pa), (.slice g1 d1 g1c, pa)])
 case atStart => exact ⟨0, 0, _, Nat.zero_add n, rfl, by first | rfl | go_num, rfl, hq0, hL0, hT⟩
 case round =>
  clear hL0 hT hq0
  obtain ⟨k, zi, vs, hik, rfl, rfl, hzi, hq, hL0, hT⟩ := hrel
  subst hzi
  obtain ⟨g9, d9, c9, rfl, -⟩ := pt_form hq
  replace hT := hT.cons hq
  clear hq
  rcases Nat.lt_or_ge k n with hin | hin
  ·have k4 : (k : Int) < (n : Int) := Int.ofNat_lt.2 hin
   have HMk := Lib.hid (HM.out k hin)
   go_wp2_with fail
   with_reducible refine Calls.mono (HMk.out (.slice g9 d9 c9) (.slice g1 d1 g1c) _ (hT.get mZ) (hT.get (mK (mK (mK (mK (mK mZ))))))) ?_
   rintro e x12 ⟨v0, rfl, q0, hb⟩
   replace hL0 := hL0.call hb
   replace hT := hT.call hb
   clear hb
   obtain ⟨g6, d6, g6c, rfl, -⟩ := pt_form q0
   replace hT := hT.cons q0
   clear q0
   go_wp2_with fail
   go_roundg (gk - 1)
   case measure => omega
   case rel => exact ⟨k + 1, _, _, by omega, rfl, by first | rfl | go_num, by omega, (hT.get mZ), hL0, fun p hp => hT p (mK (mK (hp)))⟩
  ·have k4 : ¬ (n : Int) < (n : Int) := Int.lt_irrefl _
   have hkn : n = k := by omega
   subst hkn
   clear hin hik
   go_wp2_with fail
   with_reducible refine Calls.mono (S2.out (.slice g4 d4 g4c) (.slice g9 d9 c9) _ (hT.get (mK (mK mZ))) (hT.get mZ)) ?_
   rintro e x12 ⟨rfl, hb⟩
   replace hL0 := hL0.call hb
   replace hT := hT.call hb
   clear hb
   go_wp2_with fail
   with_reducible refine Calls.mono (HW.out _ (hKT.out.at hL0.bl kKT)) ?_
   rintro e x13 ⟨rfl, hb⟩
   replace hL0 := hL0.call hb
   replace hT := hT.call hb
   clear hb
   go_wp2_with fail
   exact bodyPost_ret (v := .bool true) (by simp [results, Tryz.results7, go_sem]) rfl ⟨rfl, hL0.bl⟩
theorem ptexts_d (al am : Option Addr) (nl cl nm cm : Nat) (n8 : Int) (n : Nat) (pa pb sb : List TI) (Q : Nat → List TI) (ta tb : ByteArray) (c1 : Rat) (KL : World → Prop) (hKL : Keeps KL) (HMa : ∀ (w : World), KL w → Calls Tryz.prog 22 #[.slice al nl cl, .int .i64 3] w fun e w' => ∃ pv, e = .returned pv ∧ PT w' pv pa ∧ Below w.heap.size w w') (KM : World → Prop) (hKM : Keeps KM) (HMb : ∀ (w : World), KM w → Calls Tryz.prog 22 #[.slice am nm cm, .int .i64 3] w fun e w' => ∃ pv, e = .returned pv ∧ PT w' pv pb ∧ Below w.heap.size w w') (S1 : ∀ (p0 p1 : Value) (w : World), PT w p0 pa → PT w p1 pb → Calls Tryz.prog 17 #[p0, p1] w fun e w' => e = .returned (.bool false) ∧ Below w.heap.size w w') (KT : World → Prop) (hKT : Keeps KT) (T1 : ∀ (p0 : Value) (w : World), KT w → PT w p0 pa → Calls Tryz.prog 13 #[p0] w fun e w' => e = .returned (.string ta) ∧ Below w.heap.size w w') (T2 : ∀ (p0 : Value) (w : World), KT w → PT w p0 pb → Calls Tryz.prog 13 #[p0] w fun e w' => e = .returned (.string tb) ∧ Below w.heap.size w w') (B1 : ∀ (p0 p1 : Value) (w : World), PT w p0 pa → PT w p1 pb → Calls Tryz.prog 25 #[p0, p1] w fun e w' => ∃ pv, e = .returned pv ∧ PT w' pv sb ∧ Below w.heap.size w w') (O1 : ∀ (p0 : Value) (w : World), PT w p0 pa → Calls Tryz.prog 18 #[p0] w fun e w' => e = .returned (.bool true) ∧ Below w.heap.size w w') (L1 : ∀ (p0 p1 : Value) (w : World), PT w p0 pa → PT w p1 pb → Calls Tryz.prog 19 #[p0, p1] w fun e w' => e = .returned (.bool false) ∧ Below w.heap.size w w') (HP : ∀ (p0 : Value) (w : World), PT w p0 pa → Calls Tryz.prog 40 #[p0, .int .i64 (n : Int)] w fun e w' => ∃ pv, e = .returned (.tuple #[pv, .int .i64 0]) ∧ PT w' pv ((Q n)) ∧ Below w.heap.size w w') (HI1 : ∀ w, Calls Tryz.prog 35 #[.int .i64 1] w fun xe w' => xe = .returned (fracV c1) ∧ Below w.heap.size w w') (HK : ∀ (w : World), Calls Tryz.prog 34 #[fracV c1] w fun e w' => ∃ pv, e = .returned pv ∧ PT w' pv ((Q 0)) ∧ Below w.heap.size w w') (S2 : ∀ (p0 p1 : Value) (w : World), PT w p0 ((Q n)) → PT w p1 ((Q n)) → Calls Tryz.prog 17 #[p0, p1] w fun e w' => e = .returned (.bool true) ∧ Below w.heap.size w w') (HW : ∀ w, KT w → Calls Tryz.prog 8 #[] w fun xe w' => xe = .returned (.bool true) ∧ Below w.heap.size w w') (l_nl : decide ((8 : Int) < ((nl : Nat) : Int)) = false) (k_nl : decide (8 < nl) = false) (l_nm : decide ((8 : Int) < ((nm : Nat) : Int)) = false) (k_nm : decide (8 < nm) = false) (hn : n8.tmod 5 = (n : Int)) (hw : IntKind.i64.wrap (n : Int) = (n : Int)) (hn4 : n ≤ 4) (HM : ∀ k, k < n → ∀ (p0 p1 : Value) (w : World), PT w p0 (Q k) → PT w p1 pa → Calls Tryz.prog 23 #[p0, p1] w fun e w' => ∃ pv, e = .returned (.tuple #[pv, .int .i64 0]) ∧ PT w' pv (Q (k + 1)) ∧ Below w.heap.size w w') (hsb : sb.length ≠ 0) (ht1 : ¬ ta.toList = tb.toList) (ht2 : (ta.toList == tb.toList) = false) (w : World) (kKL : KL w) (kKM : KM w) (kKT : KT w) :
  Calls Tryz.prog 7 #[.slice al nl cl, .slice am nm cm, .int .u8 n8] w fun e w' => e = .returned (.bool true) ∧ Below w.heap.size w w' := by
 replace hKL := Lib.hid hKL
 replace HMa := Lib.hid HMa
 replace hKM := Lib.hid hKM
 replace HMb := Lib.hid HMb
 replace S1 := Lib.hid S1
 replace hKT := Lib.hid hKT
 replace T1 := Lib.hid T1
 replace T2 := Lib.hid T2
 replace B1 := Lib.hid B1
 replace O1 := Lib.hid O1
 replace L1 := Lib.hid L1
 replace HP := Lib.hid HP
 replace HI1 := Lib.hid HI1
 replace HK := Lib.hid HK
 replace S2 := Lib.hid S2
 replace HW := Lib.hid HW
 have hL0 : GL w w [] := GL.start w
 have hT : PTs w [] := PTs.nil w
 replace HM := Lib.hid HM
 replace hsb := Lib.hid hsb
 go_enter Tryz.func7, Tryz.ntmps7
 go_wp2_with fail
 with_reducible refine Calls.mono (HMa.out _ (hKL.out.at (hL0.bl) kKL)) ?_
 rintro e x1 ⟨v0, rfl, q0, hb⟩
 replace hL0 := hL0.call hb
 replace hT := hT.call hb
 clear hb
 obtain ⟨g1, d1, g1c, rfl, -⟩ := pt_form q0
 replace hT := hT.cons q0
 clear q0
 go_wp2_with fail
 with_reducible refine Calls.mono (HMb.out _ (hKM.out.at (hL0.bl) kKM)) ?_
 rintro e x2 ⟨v0, rfl, q0, hb⟩
 replace hL0 := hL0.call hb
 replace hT := hT.call hb
 clear hb
 obtain ⟨g2, d2, g2c, rfl, -⟩ := pt_form q0
 replace hT := hT.cons q0
 clear q0
 go_wp2_with fail
 with_reducible refine Calls.mono (S1.out (.slice g1 d1 g1c) (.slice g2 d2 g2c) _ (hT.get (mK mZ)) (hT.get mZ)) ?_
 rintro e x3 ⟨rfl, hb⟩
 replace hL0 := hL0.call hb
 replace hT := hT.call hb
 clear hb
 go_wp2_with fail
 with_reducible refine Calls.mono (T1.out (.slice g1 d1 g1c) _ (hKT.out.at (hL0.bl) kKT) (hT.get (mK mZ))) ?_
 rintro e x4 ⟨rfl, hb⟩
 replace hL0 := hL0.call hb
 replace hT := hT.call hb
 clear hb
 go_wp2_with fail
 with_reducible refine Calls.mono (T2.out (.slice g2 d2 g2c) _ (hKT.out.at (hL0.bl) kKT) (hT.get mZ)) ?_
 rintro e x5 ⟨rfl, hb⟩
 replace hL0 := hL0.call hb
 replace hT := hT.call hb
 clear hb
 go_wp2_with fail
 with_reducible refine Calls.mono (B1.out (.slice g1 d1 g1c) (.slice g2 d2 g2c) _ (hT.get (mK mZ)) (hT.get mZ)) ?_
 rintro e x6 ⟨v0, rfl, q0, hb⟩
 replace hL0 := hL0.call hb
 replace hT := hT.call hb
 clear hb
 obtain ⟨g3, d3, g3c, rfl, d3h⟩ := pt_form q0
 have d3z : ¬ ((d3 : Int) = 0) := by rw [d3h]; have := hsb.out; omega
 clear d3h
 replace hT := hT.cons q0
 clear q0
 go_wp2_with fail
 with_reducible refine Calls.mono (O1.out (.slice g1 d1 g1c) _ (hT.get (mK (mK mZ)))) ?_
 rintro e x7 ⟨rfl, hb⟩
 replace hL0 := hL0.call hb
 replace hT := hT.call hb
 clear hb
 go_wp2_with fail
 with_reducible refine Calls.mono (L1.out (.slice g1 d1 g1c) (.slice g2 d2 g2c) _ (hT.get (mK (mK mZ))) (hT.get (mK mZ))) ?_
 rintro e x8 ⟨rfl, hb⟩
 replace hL0 := hL0.call hb
 replace hT := hT.call hb
 clear hb
 go_wp2_with fail
 with_reducible refine Calls.mono (HP.out (.slice g1 d1 g1c) _ (hT.get (mK (mK mZ)))) ?_
 rintro e x9 ⟨v0, rfl, q0, hb⟩
 replace hL0 := hL0.call hb
 replace hT := hT.call hb
 clear hb
 obtain ⟨g4, d4, g4c, rfl, -⟩ := pt_form q0
 replace hT := hT.cons q0
 clear q0
 go_wp2_with fail
 with_reducible refine Calls.mono (HI1.out _) ?_
 rintro e x10 ⟨rfl, hb⟩
 replace hL0 := hL0.call hb
 replace hT := hT.call hb
 clear hb
 go_wp2_with fail
 with_reducible refine Calls.mono (HK.out _) ?_
 rintro e x11 ⟨v0, rfl, q0, hb⟩
 replace hL0 := hL0.call hb
 replace hT := hT.call hb
 clear hb
 obtain ⟨g5, d5, g5c, rfl, -⟩ := pt_form q0
 replace hT := hT.cons q0
 clear q0
 go_wp2_with fail
 have hq0 := (hT.get mZ)
 go_loopg [12, 13] n (fun gk sv iv wr => ∃ (k : Nat) (zi : Int) (vs : Value), k + gk = n ∧ vs = sv ∧ iv = .int .i64 zi ∧ zi = (k : Int) ∧ PT wr vs (Q k) ∧ GL w wr [] ∧ PTs wr [(.slice g5 d5 g5c, (Q 0)), (.slice g4 d4 g4c, (Q n)), (.slice g3 d3 g3c, sb), (.slice g2 d2 g2c, pb), (.slice g1 d1 g1c, pa)])
 case atStart => exact ⟨0, 0, _, Nat.zero_add n, rfl, by first | rfl | go_num, rfl, hq0, hL0, hT⟩
 case round =>
  clear hL0 hT hq0
  obtain ⟨k, zi, vs, hik, rfl, rfl, hzi, hq, hL0, hT⟩ := hrel
  subst hzi
  obtain ⟨g9, d9, c9, rfl, -⟩ := pt_form hq
  replace hT := hT.cons hq
  clear hq
  rcases Nat.lt_or_ge k n with hin | hin
  ·have k4 : (k : Int) < (n : Int) := Int.ofNat_lt.2 hin
   have HMk := Lib.hid (HM.out k hin)
   go_wp2_with fail
   with_reducible refine Calls.mono (HMk.out (.slice g9 d9 c9) (.slice g1 d1 g1c) _ (hT.get mZ) (hT.get (mK (mK (mK (mK (mK mZ))))))) ?_
   rintro e x12 ⟨v0, rfl, q0, hb⟩
   replace hL0 := hL0.call hb
   replace hT := hT.call hb
   clear hb
   obtain ⟨g6, d6, g6c, rfl, -⟩ := pt_form q0
   replace hT := hT.cons q0
   clear q0
   go_wp2_with fail
   go_roundg (gk - 1)
   case measure => omega
   case rel => exact ⟨k + 1, _, _, by omega, rfl, by first | rfl | go_num, by omega, (hT.get mZ), hL0, fun p hp => hT p (mK (mK (hp)))⟩
  ·have k4 : ¬ (n : Int) < (n : Int) := Int.lt_irrefl _
   have hkn : n = k := by omega
   subst hkn
   clear hin hik
   go_wp2_with fail
   with_reducible refine Calls.mono (S2.out (.slice g4 d4 g4c) (.slice g9 d9 c9) _ (hT.get (mK (mK mZ))) (hT.get mZ)) ?_
   rintro e x12 ⟨rfl, hb⟩
   replace hL0 := hL0.call hb
   replace hT := hT.call hb
   clear hb
   go_wp2_with fail
   with_reducible refine Calls.mono (HW.out _ (hKT.out.at hL0.bl kKT)) ?_
   rintro e x13 ⟨rfl, hb⟩
   replace hL0 := hL0.call hb
   replace hT := hT.call hb
   clear hb
   go_wp2_with fail
   exact bodyPost_ret (v := .bool true) (by simp [results, Tryz.results7, go_sem]) rfl ⟨rfl, hL0.bl⟩
end Go.Proofs.YtkpghlnegbimdaaGreatDoor
namespace Go.Proofs.YtkpghlnegbimdaaGreatDoor
open Go.RowKit
theorem part_at {P : UInt8 → Prop} : ∀ {a b r s : List UInt8}, (∀ x ∈ a, P x) → (∀ x ∈ b, P x) → (∀ x, r.head? = some x → ¬ P x) → (∀ x, s.head? = some x → ¬ P x) → a ++ r = b ++ s → a = b ∧ r = s
 | [], [], _, _, _, _, _, _, h => ⟨rfl, h⟩
 | [], y :: b, r, s, _, hb, hr, _, h => absurd (hb y mZ) (hr y (by rw [show r = _ from h]; rfl))
 | x :: a, [], r, s, ha, _, _, hs, h => absurd (ha x mZ) (hs x (by rw [← show x :: a ++ r = s from h]; rfl))
 | x :: a, y :: b, r, s, ha, hb, hr, hs, h => by
  have h1 : x = y ∧ a ++ r = b ++ s := by simpa using h
  obtain ⟨h2, h3⟩ := part_at (fun z hz => ha z (mK hz)) (fun z hz => hb z (mK hz)) hr hs h1.2
  exact ⟨by rw [h1.1, h2], h3⟩
theorem tail_head (c : UInt8) (l : List (List UInt8)) : ∀ x, (Lib.joinTail [c] l).head? = some x → x = c := by
 intro x hx
 cases l with
 | nil => simp [Lib.joinTail] at hx
 | cons y l => simp [Lib.joinTail] at hx; exact hx.symm
theorem tail_inj {c : UInt8} : ∀ {l m : List (List UInt8)}, (∀ s ∈ l, c ∉ s) → (∀ s ∈ m, c ∉ s) → Lib.joinTail [c] l = Lib.joinTail [c] m → l = m
 | [], [], _, _, _ => rfl
 | [], y :: m, _, _, h => by simp [Lib.joinTail] at h
 | x :: l, [], _, _, h => by simp [Lib.joinTail] at h
 | x :: l, y :: m, hl, hm, h => by
  have h1 : x ++ Lib.joinTail [c] l = y ++ Lib.joinTail [c] m := by simpa [Lib.joinTail] using h
  obtain ⟨h2, h3⟩ := part_at (P := fun z => z ≠ c) (fun z hz e => hl x mZ (by rw [← e]; exact hz)) (fun z hz e => hm y mZ (by rw [← e]; exact hz)) (fun z hz e => e (tail_head c l z hz)) (fun z hz e => e (tail_head c m z hz)) h1
  rw [h2, tail_inj (fun s hs => hl s (mK hs)) (fun s hs => hm s (mK hs)) h3]
theorem join_inj {c : UInt8} {l m : List (List UInt8)} (h0 : l ≠ []) (g0 : m ≠ []) (hl : ∀ s ∈ l, c ∉ s) (hm : ∀ s ∈ m, c ∉ s) (h : Lib.join l [c] = Lib.join m [c]) : l = m := by
 match l, m, h0, g0 with
 | x :: l, y :: m, _, _ =>
  rw [Lib.join_cons, Lib.join_cons] at h
  obtain ⟨h2, h3⟩ := part_at (P := fun z => z ≠ c) (fun z hz e => hl x mZ (by rw [← e]; exact hz)) (fun z hz e => hm y mZ (by rw [← e]; exact hz)) (fun z hz e => e (tail_head c l z hz)) (fun z hz e => e (tail_head c m z hz)) h
  rw [h2, tail_inj (fun s hs => hl s (mK hs)) (fun s hs => hm s (mK hs)) h3]
/-- The bytes of a factor. -/
def Gd (c : UInt8) : Prop := isDig c ∨ c = 47 ∨ c = 94 ∨ c = 120 ∨ c = 121
theorem gd_no {c : UInt8} (h : Gd c) : c ≠ 32 ∧ c ≠ 42 ∧ c ≠ 45 := by
 rcases h with h | rfl | rfl | rfl | rfl
 ·refine ⟨?_, ?_, ?_⟩ <;> rintro rfl <;> exact absurd h.1 (by decide)
 all_goals decide
theorem dec_gd (n : Nat) : ∀ c ∈ Lib.decDigits n, Gd c := fun c h => Or.inl (dec_isDig n c h)
theorem dec_inj9 {m n : Nat} (h : Lib.decDigits m = Lib.decDigits n) : m = n := by rw [← dval_dec m, h, dval_dec]
theorem txt_list9 (n : Nat) : (txt n).data.toList = Lib.decDigits n := by unfold txt; simp
def qL (q : Rat) : List UInt8 := (qtxt q).data.toList
theorem qL_eq {q : Rat} (h : 0 ≤ q) : qL q = Lib.decDigits q.num.natAbs ++ if q.den = 1 then [] else 47 :: Lib.decDigits q.den := by
 have h1 : ¬ q.num < 0 := by have := Rat.num_nonneg.2 h; omega
 unfold qL qtxt ztxt
 rw [if_neg h1]
 split
 ·rw [txt_list9, List.append_nil]
 ·rw [ByteArray.data_append, ByteArray.data_append, Array.toList_append, Array.toList_append, txt_list9, txt_list9]
  simp
theorem qL_gd {q : Rat} (h : 0 ≤ q) : ∀ c ∈ qL q, Gd c := by
 rw [qL_eq h]
 intro c hc
 rcases List.mem_append.1 hc with hc | hc
 ·exact dec_gd _ c hc
 ·split at hc
  ·cases hc
  ·rcases List.mem_cons.1 hc with rfl | hc
   ·exact Or.inr (Or.inl rfl)
   ·exact dec_gd _ c hc
theorem qL_inj {q r : Rat} (h : 0 ≤ q) (g : 0 ≤ r) (e : qL q = qL r) : q = r := by
 rw [qL_eq h, qL_eq g] at e
 have hd : ∀ (n : Nat) (x : UInt8), (if n = 1 then [] else 47 :: Lib.decDigits n).head? = some x → ¬ isDig x := by
  intro n x hx hdig
  split at hx
  ·cases hx
  ·rw [← Option.some.inj hx] at hdig
   exact absurd hdig.1 (by decide)
 obtain ⟨h1, h2⟩ := part_at (P := isDig) (dec_isDig _) (dec_isDig _) (hd _) (hd _) e
 have h3 := dec_inj9 h1
 have hn : q.num = r.num := by have := Rat.num_nonneg.2 h; have := Rat.num_nonneg.2 g; omega
 have hden : q.den = r.den := by
  split at h2 <;> split at h2
  ·omega
  ·cases h2
  ·cases h2
  ·exact dec_inj9 (List.cons.inj h2).2
 exact Rat.ext hn hden
theorem qL_head {q : Rat} (h : 0 ≤ q) : ∃ c, (qL q).head? = some c ∧ isDig c := by
 rw [qL_eq h]
 have h0 := dec_ne_nil q.num.natAbs
 obtain ⟨c, l, e⟩ := List.exists_cons_of_ne_nil h0
 rw [e]
 exact ⟨c, rfl, dec_isDig q.num.natAbs c (by rw [e]; exact mZ)⟩
theorem pwL_inj {c : UInt8} {m n : Nat} (h : pwL c m = pwL c n) : m = n := by
 unfold pwL at h
 split at h <;> split at h
 ·omega
 ·cases h
 ·cases h
 ·exact dec_inj9 (List.cons.inj (List.cons.inj h).2).2
theorem pwL_head (c : UInt8) (n : Nat) : (pwL c n).head? = some c := by unfold pwL; split <;> rfl
theorem pwL_gd {c : UInt8} (hc : c = 120 ∨ c = 121) (n : Nat) : ∀ x ∈ pwL c n, Gd x := by
 intro x hx
 have h1 : ∀ y, y = c → Gd y := fun y e => by rw [e]; exact Or.inr (Or.inr (Or.inr hc))
 unfold pwL at hx
 split at hx
 ·exact h1 x (List.mem_singleton.1 hx)
 ·rcases List.mem_cons.1 hx with hx | hx
  ·exact h1 x hx
  ·rcases List.mem_cons.1 hx with rfl | hx
   ·exact Or.inr (Or.inr (Or.inl rfl))
   ·exact dec_gd n x hx
theorem abs_nn (q : Rat) : 0 ≤ absQ q := by unfold absQ; split <;> grind
/-- A term's factors as lists. -/
def facL (t : Nat × Nat × Rat) : List (List UInt8) := (if absQ t.2.2 = 1 ∧ t.1 + t.2.1 ≠ 0 then [] else [qL (absQ t.2.2)]) ++ (if 0 < t.1 then [pwL 120 t.1] else []) ++ (if 0 < t.2.1 then [pwL 121 t.2.1] else [])
theorem facL_eq (t : Nat × Nat × Rat) : (facS t).map (·.data.toList) = facL t := by
 unfold facS facL
 simp only [facK, List.map_append, show nkF t.1 t.2.1 0 = t.1 from rfl, show nkF t.1 t.2.1 1 = t.2.1 from rfl, show ckF 0 = 120 from rfl, show ckF 1 = 121 from rfl]
 congr 1
 ·congr 1
  ·split <;> rfl
  ·split <;> rfl
 ·split <;> rfl
theorem facL_gd (t : Nat × Nat × Rat) : ∀ s ∈ facL t, ∀ x ∈ s, Gd x := by
 intro s hs
 unfold facL at hs
 rcases List.mem_append.1 hs with hs | hs
 ·rcases List.mem_append.1 hs with hs | hs
  ·split at hs
   ·cases hs
   ·rw [List.mem_singleton.1 hs]; exact qL_gd (abs_nn _)
  ·split at hs
   ·rw [List.mem_singleton.1 hs]; exact pwL_gd (Or.inl rfl) _
   ·cases hs
 ·split at hs
  ·rw [List.mem_singleton.1 hs]; exact pwL_gd (Or.inr rfl) _
  ·cases hs
theorem facL_ne (t : Nat × Nat × Rat) : facL t ≠ [] := by
 intro h
 have := (facS_len t).1
 rw [← facL_eq] at h
 rw [List.map_eq_nil_iff.1 h] at this
 exact absurd this (by decide)
theorem num_f (b : UInt8) (hb : b = 120 ∨ b = 121) {q : Rat} (h : 0 ≤ q) : (qL q).head? ≠ some b := by
 obtain ⟨c, h1, h2⟩ := qL_head h
 rw [h1]
 intro e
 rw [Option.some.inj e] at h2
 rcases hb with rfl | rfl
 ·exact absurd h2.2 (by decide)
 ·exact absurd h2.2 (by decide)
theorem facL_x (t : Nat × Nat × Rat) : (facL t).filter (fun s => s.head? == some 120) = if 0 < t.1 then [pwL 120 t.1] else [] := by
 unfold facL
 rw [List.filter_append, List.filter_append]
 have h1 : (if absQ t.2.2 = 1 ∧ t.1 + t.2.1 ≠ 0 then [] else [qL (absQ t.2.2)]).filter (fun s => s.head? == some 120) = [] := by
  split
  ·rfl
  ·rw [List.filter_cons_of_neg (by rw [beq_eq_false_iff_ne.2 (num_f 120 (Or.inl rfl) (abs_nn _))]; simp)]; rfl
 have h2 : (if 0 < t.2.1 then [pwL 121 t.2.1] else []).filter (fun s => s.head? == some 120) = [] := by
  split
  ·rw [List.filter_cons_of_neg (by rw [pwL_head]; decide)]; rfl
  ·rfl
 have h3 : (if 0 < t.1 then [pwL 120 t.1] else []).filter (fun s => s.head? == some 120) = if 0 < t.1 then [pwL 120 t.1] else [] := by
  split
  ·rw [List.filter_cons_of_pos (by rw [pwL_head]; decide)]; rfl
  ·rfl
 rw [h1, h2, h3]; simp
theorem facL_y (t : Nat × Nat × Rat) : (facL t).filter (fun s => s.head? == some 121) = if 0 < t.2.1 then [pwL 121 t.2.1] else [] := by
 unfold facL
 rw [List.filter_append, List.filter_append]
 have h1 : (if absQ t.2.2 = 1 ∧ t.1 + t.2.1 ≠ 0 then [] else [qL (absQ t.2.2)]).filter (fun s => s.head? == some 121) = [] := by
  split
  ·rfl
  ·rw [List.filter_cons_of_neg (by rw [beq_eq_false_iff_ne.2 (num_f 121 (Or.inr rfl) (abs_nn _))]; simp)]; rfl
 have h2 : (if 0 < t.1 then [pwL 120 t.1] else []).filter (fun s => s.head? == some 121) = [] := by
  split
  ·rw [List.filter_cons_of_neg (by rw [pwL_head]; decide)]; rfl
  ·rfl
 have h3 : (if 0 < t.2.1 then [pwL 121 t.2.1] else []).filter (fun s => s.head? == some 121) = if 0 < t.2.1 then [pwL 121 t.2.1] else [] := by
  split
  ·rw [List.filter_cons_of_pos (by rw [pwL_head]; decide)]; rfl
  ·rfl
 rw [h1, h2, h3]; simp
theorem pw_if {c : UInt8} {m n : Nat} (h : (if 0 < m then [pwL c m] else []) = (if 0 < n then [pwL c n] else [])) : m = n := by
 split at h <;> split at h
 ·exact pwL_inj (List.cons.inj h).1
 ·cases h
 ·cases h
 ·omega
theorem facL_inj {s t : Nat × Nat × Rat} (h : facL s = facL t) : s.1 = t.1 ∧ s.2.1 = t.2.1 ∧ absQ s.2.2 = absQ t.2.2 := by
 have h1 : s.1 = t.1 := pw_if (c := 120) (by rw [← facL_x, ← facL_x, h])
 have h2 : s.2.1 = t.2.1 := pw_if (c := 121) (by rw [← facL_y, ← facL_y, h])
 refine ⟨h1, h2, ?_⟩
 unfold facL at h
 rw [h1, h2] at h
 have h3 := List.append_cancel_right (List.append_cancel_right h)
 split at h3 <;> split at h3
 ·next a b => rw [a.1, b.1]
 ·cases h3
 ·cases h3
 ·exact qL_inj (abs_nn _) (abs_nn _) (List.cons.inj h3).1
def bodyL (t : Nat × Nat × Rat) : List UInt8 := Lib.join (facL t) [42]
theorem bodyL_no (t : Nat × Nat × Rat) : ∀ x ∈ bodyL t, x ≠ 32 ∧ x ≠ 45 := by
 have hf := facL_gd t
 have h0 := facL_ne t
 unfold bodyL
 generalize facL t = l at hf h0
 match l, h0 with
 | y :: l, _ =>
  rw [Lib.join_cons]
  intro x hx
  rcases List.mem_append.1 hx with hx | hx
  ·have := gd_no (hf y mZ x hx); exact ⟨this.1, this.2.2⟩
  ·unfold Lib.joinTail at hx
   obtain ⟨z, hz, hxz⟩ := List.mem_flatten.1 hx
   obtain ⟨u, hu, rfl⟩ := List.mem_map.1 hz
   rcases List.mem_append.1 hxz with hx | hx
   ·rw [List.mem_singleton.1 hx]; decide
   ·have := gd_no (hf u (mK hu) x hx); exact ⟨this.1, this.2.2⟩
theorem bodyL_ne (t : Nat × Nat × Rat) : bodyL t ≠ [] := by
 have hf := facL_gd t
 intro h
 have h1 : ∀ s ∈ facL t, s ≠ [] := by
  intro s hs
  unfold facL at hs
  rcases List.mem_append.1 hs with hs | hs
  ·rcases List.mem_append.1 hs with hs | hs
   ·split at hs
    ·cases hs
    ·rw [List.mem_singleton.1 hs]
     obtain ⟨c, h1, _⟩ := qL_head (abs_nn t.2.2)
     intro e; rw [e] at h1; cases h1
   ·split at hs
    ·rw [List.mem_singleton.1 hs]; intro e; have := pwL_head 120 t.1; rw [e] at this; cases this
    ·cases hs
  ·split at hs
   ·rw [List.mem_singleton.1 hs]; intro e; have := pwL_head 121 t.2.1; rw [e] at this; cases this
   ·cases hs
 have h0 := facL_ne t
 unfold bodyL at h
 generalize facL t = l at h1 h h0
 match l, h0 with
 | y :: l, _ =>
  rw [Lib.join_cons] at h
  exact h1 y mZ (List.append_eq_nil_iff.1 h).1
theorem bodyL_inj {s t : Nat × Nat × Rat} (h : bodyL s = bodyL t) : s.1 = t.1 ∧ s.2.1 = t.2.1 ∧ absQ s.2.2 = absQ t.2.2 :=
 facL_inj (join_inj (facL_ne s) (facL_ne t) (fun x hx hc => (gd_no (facL_gd s x hx _ hc)).2.1 rfl) (fun x hx hc => (gd_no (facL_gd t x hx _ hc)).2.1 rfl) h)
def ngQ (t : Nat × Nat × Rat) : Bool := decide (sgnQ t.2.2 < 0)
theorem ngQ_eq (t : Nat × Nat × Rat) : ngQ t = decide (t.2.2 < 0) := by
 unfold ngQ sgnQ
 by_cases h : t.2.2 < 0
 ·rw [if_pos h, decide_eq_true h]; rfl
 ·rw [if_neg h, decide_eq_false h]; split <;> rfl
theorem term_ext {s t : Nat × Nat × Rat} (h : ngQ s = ngQ t) (g : bodyL s = bodyL t) : s = t := by
 obtain ⟨h1, h2, h3⟩ := bodyL_inj g
 rw [ngQ_eq, ngQ_eq] at h
 refine Prod.ext h1 (Prod.ext h2 ?_)
 unfold absQ at h3
 by_cases h4 : s.2.2 < 0
 ·have h5 : t.2.2 < 0 := by rw [decide_eq_true h4] at h; exact of_decide_eq_true h.symm
  rw [if_pos h4, if_pos h5] at h3
  grind
 ·have h5 : ¬ t.2.2 < 0 := by rw [decide_eq_false h4] at h; exact of_decide_eq_false h.symm
  rw [if_neg h4, if_neg h5] at h3
  exact h3
def segL (t : Nat × Nat × Rat) : List UInt8 := sgL (ngQ t) false ++ bodyL t
theorem seg_head (l : TL) : ∀ x, (l.flatMap segL).head? = some x → ¬ x ≠ 32 := by
 intro x hx
 cases l with
 | nil => cases hx
 | cons t l =>
  rw [List.flatMap_cons] at hx
  unfold segL sgL at hx
  revert hx
  cases ngQ t <;> simp <;> intro h <;> exact h.symm
theorem segs_inj : ∀ {l m : TL}, l.flatMap segL = m.flatMap segL → l = m
 | [], [], _ => rfl
 | [], t :: m, h => by
  rw [List.flatMap_cons] at h
  unfold segL sgL at h
  revert h
  cases ngQ t <;> simp
 | s :: l, [], h => by
  rw [List.flatMap_cons] at h
  unfold segL sgL at h
  revert h
  cases ngQ s <;> simp
 | s :: l, t :: m, h => by
  rw [List.flatMap_cons, List.flatMap_cons] at h
  have key : ngQ s = ngQ t ∧ bodyL s ++ l.flatMap segL = bodyL t ++ m.flatMap segL := by
   generalize l.flatMap segL = L at h ⊢
   generalize m.flatMap segL = M at h ⊢
   unfold segL sgL at h
   revert h
   cases ngQ s <;> cases ngQ t <;> simp
  obtain ⟨h2, h3⟩ := part_at (P := fun z => z ≠ 32) (fun z hz => (bodyL_no s z hz).1) (fun z hz => (bodyL_no t z hz).1) (seg_head l) (seg_head m) key.2
  rw [term_ext key.1 h2, segs_inj h3]
theorem txK_segs (t : Nat × Nat × Rat) (l : TL) : ∀ k, k ≤ l.length → txK facS (t :: l) (k + 1) = sgL (ngQ t) true ++ bodyL t ++ (l.take k).flatMap segL
 | 0, _ => by
  simp only [txK, List.getElem?_cons_zero, List.nil_append, List.take_zero, List.flatMap_nil, List.append_nil]
  unfold bodyL joinS
  rw [facL_eq]
  rfl
 | k + 1, hk => by
  rw [txK, txK_segs t l k (by omega)]
  have h1 : (t :: l)[k + 1]? = some l[k] := by rw [List.getElem?_cons_succ, List.getElem?_eq_getElem (by omega)]
  rw [h1]
  have h2 : l.take (k + 1) = l.take k ++ [l[k]] := by rw [List.take_add_one, List.getElem?_eq_getElem (by omega)]; rfl
  rw [h2, List.flatMap_append, List.append_assoc (sgL _ _ ++ bodyL t)]
  congr 2
  simp only [List.flatMap_cons, List.flatMap_nil, List.append_nil]
  unfold segL bodyL joinS
  rw [facL_eq]
  have e : ((((k + 1 : Nat) : Int)) == 0) = false := beq_eq_false_iff_ne.2 (by omega)
  rw [e]
  rfl
theorem textV_cons (t : Nat × Nat × Rat) (l : TL) : textV (t :: l) = sgL (ngQ t) true ++ bodyL t ++ l.flatMap segL := by
 unfold textV
 rw [if_neg (by simp), List.length_cons, txK_segs t l l.length (Nat.le_refl _), List.take_length]
theorem textV_cons_inj {s t : Nat × Nat × Rat} {l m : TL} (h : textV (s :: l) = textV (t :: m)) : s :: l = t :: m := by
 rw [textV_cons, textV_cons] at h
 have h45 : ∀ (u : Nat × Nat × Rat) (r : List UInt8) (x : List UInt8), bodyL u ++ r ≠ 45 :: x := by
  intro u r x e
  have h0 := bodyL_ne u
  have hn := bodyL_no u
  generalize bodyL u = b at *
  match b, h0 with
  | y :: b, _ =>
   have : y = 45 := (List.cons.inj e).1
   exact (hn y mZ).2 this
 have key : ngQ s = ngQ t ∧ bodyL s ++ l.flatMap segL = bodyL t ++ m.flatMap segL := by
  unfold sgL at h
  revert h
  cases ngQ s <;> cases ngQ t
  ·intro h; exact ⟨rfl, by simpa using h⟩
  ·intro h; exact absurd (by simpa using h) (h45 s (l.flatMap segL) _)
  ·intro h; exact absurd (by simpa using h.symm) (h45 t (m.flatMap segL) _)
  ·intro h; exact ⟨rfl, by simpa using h⟩
 obtain ⟨h2, h3⟩ := part_at (P := fun z => z ≠ 32) (fun z hz => (bodyL_no s z hz).1) (fun z hz => (bodyL_no t z hz).1) (seg_head l) (seg_head m) key.2
 rw [term_ext key.1 h2, segs_inj h3]
theorem textV_zero : textV [(0, 0, 0)] = [48] := by kernel_rfl
theorem textV_inj {p q : TL} (hp : NF p) (hq : NF q) (h : textV p = textV q) : p = q := by
 match p, q with
 | [], [] => rfl
 | [], t :: q =>
  have h1 : textV [(0, 0, 0)] = textV (t :: q) := by rw [textV_zero, ← h]; rfl
  have h2 := textV_cons_inj h1
  exact absurd (by rw [← (List.cons.inj h2).1]) (hq.nz t mZ)
 | s :: p, [] =>
  have h1 : textV [(0, 0, 0)] = textV (s :: p) := by rw [textV_zero, h]; rfl
  have h2 := textV_cons_inj h1
  exact absurd (by rw [← (List.cons.inj h2).1]) (hp.nz s mZ)
 | s :: p, t :: q => exact textV_cons_inj h
end Go.Proofs.YtkpghlnegbimdaaGreatDoor
namespace Go.Proofs.YtkpghlnegbimdaaGreatDoor
open Go.RowKit
attribute [local irreducible] lo hs sm s64 c64 d64 b64 mh ml pd pc qd qc val hiB str cmpI srD lz nb zl zh zs fe klT ordZ
theorem okG {p : TL} {d K : Nat} (h : GP p d K) (hd : d ≤ 12) (w : World) (v : Value) (hv : PT w v (ofL p)) : Calls Tryz.prog 18 #[v] w fun xe w' => xe = .returned (.bool true) ∧ Below w.heap.size w w' := by
 obtain ⟨ao, n, c, rfl, hn⟩ := pt_form hv
 have hl := h.len hd
 rw [ofL_length] at hn
 exact pok_w (ofL p) ao n c true 0 rfl ⟨fun _ => ⟨vd_ofL.2 (h.tb.mono hd), by rw [toL_ofL]; exact h.nf⟩, fun _ => rfl⟩ (by rw [ofL_length]; exact hn.symm) (by omega) (fun i hi w => pfault_any _ w) int0 (fun i hi h1 h2 w => (porder_any _ _ h1 h2 w).mono fun _ _ ⟨he, hb⟩ => ⟨he, hb.1⟩) w (pt_parts hv).2
theorem u8_mod {n8 : Int} {n : Nat} (h : n8 = (n : Int)) : n8.tmod 5 = ((n % 5 : Nat) : Int) := by subst h; rw [Int.tmod_eq_emod_of_nonneg (by omega)]; omega
theorem ptexts_any (l m : List RI) (hl : RO l) (hm : RO m) (n8 : Nat) (h8 : n8 < 256) (al am : Option Addr) (nl cl nm cm : Nat) (w : World) (hv : RW8 w (.slice al nl cl) l) (hu : RW8 w (.slice am nm cm) m) (ht : Tab w) :
  Calls Tryz.prog 7 #[.slice al nl cl, .slice am nm cm, .int .u8 (n8 : Int)] w fun e w' => e = .returned (.bool true) ∧ Below w.heap.size w w' := by
 have n1 := (rt_parts hv).1
 have n2 := (rt_parts hu).1
 by_cases g1 : 8 < nl
 ·exact ptexts_l1 al am nl cl nm cm _ Tab Keeps.tab lworks_any (decide_eq_true (by omega)) (decide_eq_true g1) w ht
 by_cases g2 : 8 < nm
 ·exact ptexts_l2 al am nl cl nm cm _ Tab Keeps.tab lworks_any (decide_eq_false (by omega)) (decide_eq_false g1) (decide_eq_true (by omega)) (decide_eq_true g2) w ht
 have ga := made_gp hl (by omega) (D := 3) (by omega)
 have gb := made_gp hm (by omega) (D := 3) (by omega)
 have hA := fun w hv => made_any hl (by omega) (D := 3) (by omega) al nl cl w hv
 have hB := fun w hv => made_any hm (by omega) (D := 3) (by omega) am nm cm w hv
 generalize nrm (madeL l 3) = A at ga hA
 generalize nrm (madeL m 3) = B at gb hB
 obtain ⟨n, hn⟩ : ∃ n, n = n8 % 5 := ⟨_, rfl⟩
 have hn5 : n ≤ 4 := by omega
 have e8 : (n8 : Int).tmod 5 = (n : Int) := by rw [hn]; exact u8_mod rfl
 have ew : IntKind.i64.wrap (n : Int) = (n : Int) := by simp [IntKind.wrap, IntKind.bits, IntKind.signed]; omega
 have hpw : ∀ k, k ≤ n → GP (powN A k) 12 100 := fun k hk => (ga.pow k).mono (by omega) (by omega)
 have hpq := (ga.pow n).mono (show n * 3 ≤ 12 by omega) (show n * 17 + 1 ≤ 100 by omega)
 have HM : ∀ k, k < n → ∀ (p0 p1 : Value) (w : World), PT w p0 (ofL (powN A k)) → PT w p1 (ofL A) → Calls Tryz.prog 23 #[p0, p1] w fun e w' => ∃ pv, e = .returned (.tuple #[pv, .int .i64 0]) ∧ PT w' pv (ofL (powN A (k + 1))) ∧ Below w.heap.size w w' := fun k hk p0 p1 w h g =>
  mulG (ga.pow k) ga (by omega) (by omega) w p0 p1 h g
 have hsub := ga.add (gb.scale sz_m1)
 by_cases hAB : A = B
 ·subst hAB
  exact ptexts_s al am nl cl nm cm _ n (ofL A) (fun k => ofL (powN A k)) ⟨(textV A).toArray⟩ 1
   (fun w => RW8 w (.slice al nl cl) l) (rtKeeps _ _) hA (fun w => RW8 w (.slice am nm cm) m) (rtKeeps _ _) hB
   (fun p q w h g => by have := sameG ga ga (by omega) (by omega) (by omega) (by omega) w p q h g; rwa [decide_eq_true (rfl)] at this)
   Tab Keeps.tab (fun p w ht h => textG ga (by omega) (by omega) (by omega) w ht p h)
   (fun p q w h g => by have := subG ga ga (by omega) (by omega) (by omega) w p q h g; rw [sub_self8] at this; exact this)
   (fun p w h => okG ga (by omega) w p h)
   (fun p q w h g => by have := alikeP (ofL A) (ofL A) (by rw [ofL_length]; have := ga.len (by omega); omega) w p q h g; rwa [decide_eq_true rfl] at this)
   (fun p w h => powG ga n (by omega) (by omega) (by omega) (by omega) w p h)
   (fun w => int1 w)
   (fun w => conG sz1 (by omega) (by omega) w)
   (fun p q w h g => by have := sameG hpq hpq (by omega) (by omega) (by omega) (by omega) w p q h g; rwa [decide_eq_true (rfl)] at this)
   lworks_any (decide_eq_false (by omega)) (decide_eq_false g1) (decide_eq_false (by omega)) (decide_eq_false g2) e8 ew hn5 HM
   w hv hu ht
 ·have hne : ofL A ≠ ofL B := fun e => hAB (by have := congrArg toL e; rwa [toL_ofL, toL_ofL] at this)
  have htx : ¬ (⟨(textV A).toArray⟩ : ByteArray).toList = (⟨(textV B).toArray⟩ : ByteArray).toList := fun e => hAB (textV_inj ga.nf gb.nf (by
   rw [ByteArray.toList_eq, ByteArray.toList_eq] at e
   simpa using e))
  exact ptexts_d al am nl cl nm cm _ n (ofL A) (ofL B) (ofL (addN A (scaleN (-1) B))) (fun k => ofL (powN A k)) ⟨(textV A).toArray⟩ ⟨(textV B).toArray⟩ 1
   (fun w => RW8 w (.slice al nl cl) l) (rtKeeps _ _) hA (fun w => RW8 w (.slice am nm cm) m) (rtKeeps _ _) hB
   (fun p q w h g => by have := sameG ga gb (by omega) (by omega) (by omega) (by omega) w p q h g; rwa [decide_eq_false hAB] at this)
   Tab Keeps.tab (fun p w ht h => textG ga (by omega) (by omega) (by omega) w ht p h)
   (fun p w ht h => textG gb (by omega) (by omega) (by omega) w ht p h)
   (fun p q w h g => subG ga gb (by omega) (by omega) (by omega) w p q h g)
   (fun p w h => okG ga (by omega) w p h)
   (fun p q w h g => by have := alikeP (ofL A) (ofL B) (by rw [ofL_length]; have := ga.len (by omega); omega) w p q h g; rwa [decide_eq_false hne] at this)
   (fun p w h => powG ga n (by omega) (by omega) (by omega) (by omega) w p h)
   (fun w => int1 w)
   (fun w => conG sz1 (by omega) (by omega) w)
   (fun p q w h g => by have := sameG hpq hpq (by omega) (by omega) (by omega) (by omega) w p q h g; rwa [decide_eq_true (rfl)] at this)
   lworks_any (decide_eq_false (by omega)) (decide_eq_false g1) (decide_eq_false (by omega)) (decide_eq_false g2) e8 ew hn5 HM
   (by rw [ofL_length]; intro h0; exact hAB ((sub_nil8 ga.nf gb.nf).1 (List.length_eq_zero_iff.1 h0))) htx (beq_eq_false_iff_ne.2 htx) w hv hu ht
end Go.Proofs.YtkpghlnegbimdaaGreatDoor
