/-
  The law answers true at every input, and leaves its arguments as they were: a part of the proof. CONDITIONS: the package-level tables start as the program's text lays them (the card ties them).
-/
import Derived.Test.YtdmoadfnogdfnaaGreatDoorZdb
import Derived.Test.YtdmoadfnogdfnaaGreatDoorTie
import Derived.Test.YtdmoadfnogdfnaaGreatDoorCards
set_option linter.unusedVariables false
set_option linter.unusedSimpArgs false
namespace Go.Proofs.YtdmoadfnogdfnaaGreatDoor
open Go.RowKit
attribute [local irreducible] lo hs sm s64 c64 d64 b64 mh ml pd pc qd qc val hiB str cmpI srD lz nb isq
set_option maxHeartbeats 2000000 in
set_option maxRecDepth 100000 in
theorem pow_over (a n : Nat) (h0 : 0 < n) (h : n ≤ 4096) (hg : 262144 / n < nb a) (hla : (digs a).length ≤ 1000000000) (w : World) :
  Calls Tryz.prog 115 #[natV a, .int .i64 (n : Int)] w fun e w' => e = .returned (.tuple #[natV 0, .int .i64 3]) ∧ Below w.heap.size w w' := by
 obtain ⟨w0, hw0, hA, hB, hbw, hsz⟩ := boxes2 w (.int .u64 ((lo a : Nat) : Int)) (.string (hs a)) (.int .u64 0) (.string ⟨#[]⟩) 32
 obtain ⟨a0, a1, af⟩ := id hA
 obtain ⟨q, hq⟩ : ∃ q, q = 262144 / n := ⟨_, rfl⟩
 have hqb : q ≤ 262144 := by rw [hq]; exact Nat.div_le_self _ _
 have htd : (262144 : Int).tdiv (n : Int) = (q : Int) := by
  rw [Int.tdiv_eq_ediv_of_nonneg (by omega), hq]; rfl
 have hed : (262144 : Int) / (n : Int) = (q : Int) := by rw [hq]; rfl
 have hnb := nb_len hla
 have HBt := Lib.hid (fun w => bits_any a (by omega) w)
 rw [← hq] at hg
 generalize nb a = B at *
 have h1 : decide ((4096 : Int) < (n : Int)) = false := decide_eq_false (by omega)
 have h2 : decide (4096 < n) = false := decide_eq_false (by omega)
 have h3 : decide ((0 : Int) < (n : Int)) = true := decide_eq_true (by omega)
 have h4 : ¬ n = 0 := by omega
 have h5 : decide (q < B) = true := decide_eq_true hg
 have h6 : decide ((q : Int) < (B : Int)) = true := decide_eq_true (by omega)
 have hwq : IntKind.i64.wrap (q : Int) = (q : Int) := IntWalk.i64_in _ (by omega)
 clear hq hnb hla hg
 go_enter Tryz.func115, Tryz.ntmps115
 go_wp2_with fail
 go_region_held3 (fun w' => w'.cell? ⟨w.heap.size, 0, none⟩ = some (.int .u64 ((lo a : Nat) : Int)) ∧ w'.cell? ⟨w.heap.size, 1, none⟩ = some (.string (hs a)))
  (first | exact ⟨a0, a1⟩ | exact ⟨a0', a1'⟩)
  (first
   | (go_at_call 114; ((with_reducible refine Calls.mono (HBt.out _) ?_); rintro e w1 ⟨rfl, hb1⟩; obtain ⟨a0', a1', af'⟩ := hA.below ((Below.refl w0.heap.size w0).drew.trans hb1) (by omega))))
 have hb01 := (Below.refl w0.heap.size w0).drew.trans hb1
 obtain ⟨c0, c1, cf⟩ := hB.below hb01 (by omega)
 have hB1 := hbw.trans (hb01.mono (by omega))
 go_wp2_with fail
 exact bodyPost_ret (v := .tuple #[natV 0, .int .i64 3]) (by rw [natV_zero]; simp [results, Tryz.results115, go_sem, c0, c1]) rfl ⟨rfl, (hB1.setCell (by simp <;> omega) _).setCell (by simp <;> omega) _⟩
end Go.Proofs.YtdmoadfnogdfnaaGreatDoor
namespace Go.Proofs.YtdmoadfnogdfnaaGreatDoor
open Go.RowKit
attribute [local irreducible] lo hs sm s64 c64 d64 b64 mh ml pd pc qd qc val hiB str cmpI srD lz nb isq decB
theorem made_lt {l : List Nat} (h : ∀ x ∈ l, x < 4294967296) : made l < Bs ^ l.length := by
 induction l with
 | nil => exact Nat.one_pos
 | cons x l ih =>
  have h1 := ih fun y hy => h y (List.mem_cons_of_mem _ hy)
  have h2 := h x (List.mem_cons_self)
  rw [made, List.length_cons, Nat.pow_succ]
  have hB : 4294967296 * 2 ≤ Bs := by unfold Bs; omega
  have h3 : Bs ^ l.length * (4294967296 * 2) ≤ Bs ^ l.length * Bs := Nat.mul_le_mul_left _ hB
  generalize Bs ^ l.length = X at *
  generalize X * Bs = Y at *
  omega
theorem made_digs {l : List Nat} (h : ∀ x ∈ l, x < 4294967296) : (digs (made l)).length ≤ l.length := digs_length_iff.2 (made_lt h)
set_option maxHeartbeats 2000000 in
set_option maxRecDepth 100000 in
theorem made_row (a : Addr) (c : Nat) (l : List Nat) (hl : l.length ≤ 1000) (w : World) (hw : Wd w a l) :
  Calls Tryz.prog 97 #[.slice (some a) l.length c] w fun e w' => e = .returned (natV (made l)) ∧ Below w.heap.size w w' := by
 obtain ⟨w0, hw0, hR, hO, hb0, hsz0⟩ := boxes2 w (.int .u64 0) (.string ⟨#[]⟩) (.int .u64 0) (.string ⟨#[]⟩) 32
 obtain ⟨n, hn⟩ : ∃ n, n = l.length := ⟨_, rfl⟩
 have hln := hl
 rw [← hn] at hl
 have hM0 : MS w w0 a l 0 := ⟨by rw [lo_small Bs_pos, hs_small Bs_pos]; exact hO, hR, hw.below hb0, hsz0, hb0⟩
 have hab := hw.blk
 have hlt := hw.lt
 clear hw hR hO hb0 hsz0
 go_enter Tryz.func97, Tryz.ntmps97
 simp only [← hn]
 have HNn := Lib.hid hn
 have hst : made (l.drop n) = 0 := by rw [List.drop_eq_nil_of_le (by omega)]; rfl
 replace hst := Lib.hid hst
 clear hn
 go_wp2_with fail
 go_loopw [4] (fun z wr => ∃ (j m : Nat), j ≤ n ∧ z = .int .i64 ((j : Int) - 1) ∧ m = made (l.drop j) ∧ MS w wr a l m) (fun z _ => (intOf z + 1).toNat)
 case atStart => exact ⟨n, 0, Nat.le_refl _, by first | rfl | go_num, hst.out.symm, hM0⟩
 case round =>
  obtain ⟨j, m, hj, rfl, hm, hS⟩ := hrel
  clear hw0 hM0
  have hn := HNn.out
  cases j with
  | zero =>
   rw [List.drop_zero] at hm
   have HM := Lib.hid hm
   obtain ⟨⟨o0, o1, of⟩, ⟨r0, r1, rf⟩, -, hsz, hB⟩ := id hS
   clear hm hS hn
   go_wp2_with fail
   exact bodyPost_ret (v := natV m) (by simp [results, Tryz.results97, go_sem, r0, r1]) rfl ⟨by rw [HM.out], (hB.setCell (by simp <;> omega) _).setCell (by simp <;> omega) _⟩
  | succ i =>
   have hi : i < l.length := by omega
   obtain ⟨x, hx⟩ : ∃ x, x = l[i] := ⟨_, rfl⟩
   have hx32 : x < 4294967296 := by rw [hx]; exact hlt _ (List.getElem_mem hi)
   have hlm : (digs m).length ≤ 1000 := by
    rw [hm]; exact Nat.le_trans (made_digs fun y hy => hlt y (List.mem_of_mem_drop hy)) (by rw [List.length_drop]; omega)
   have hmd : made (l.drop i) = m * 4294967296 + x := by
    rw [List.drop_eq_getElem_cons hi, made, ← hm, ← hx]; omega
   have hdm : ∀ k, (digs (made (l.drop k))).length ≤ 1000 := fun k => Nat.le_trans (made_digs fun y hy => hlt y (List.mem_of_mem_drop hy)) (by rw [List.length_drop]; omega)
   have hxB : x < Bs := by unfold Bs; omega
   have hlx : (digs x).length ≤ 1 := digs_length_iff.2 (by rw [Nat.pow_one]; exact hxB)
   obtain ⟨C, hC⟩ : ∃ C, C = 4294967296 := ⟨_, rfl⟩
   have hCB : C < Bs := by rw [hC]; unfold Bs; omega
   have hlC : (digs C).length ≤ 1 := digs_length_iff.2 (by rw [Nat.pow_one]; exact hCB)
   have HO1 := Lib.hid (fun w => of_val 4294967296 C (by rw [hC]; rfl) hCB w)
   have HO2 := Lib.hid (fun w => of_any x hxB w)
   have HM := Lib.hid (fun w => mul_any m C (by omega) (by omega) w)
   have hlmc : (digs (m * C)).length ≤ 1000 + 1 := digs_mul_le hlm hlC
   have HA := fun w => add_any (m * C) x (by omega) (by omega) w
   rw [show m * C + x = made (l.drop i) by rw [hmd, hC]] at HA
   obtain ⟨m2, hm2⟩ : ∃ m2, m2 = made (l.drop i) := ⟨_, rfl⟩
   rw [← hm2] at HA
   generalize m * C = mc at *
   replace HA := Lib.hid HA
   have HM2 := Lib.hid hm2
   have hS' := hS.drew
   have h0 := hS.cells i x hi hx
   have h0' := hS'.cells i x hi hx
   have HX := Lib.hid hx
   have e1 : (((i + 1 : Nat) : Int) - 1) = (i : Int) := by omega
   have hwx : IntKind.u64.wrap (x : Int) = (x : Int) := wrapN _ (by omega)
   have hin : (i : Int) < (n : Int) := by omega
   clear hn hx hm hm2 hmd hdm hlm hlmc hlx hlC hC hCB hxB hx32 hlt
   rw [e1]
   go_wp2_with fail
   obtain ⟨o0, o1, of⟩ := id hS'.O
   obtain ⟨g0, g1, g2⟩ := id h0'
   go_region_with
    (first
     | (go_at_call 81; ((with_reducible refine Calls.mono (HO1.out _) ?_); rintro e w1 ⟨rfl, hb1⟩; have hS1 : MS w w1 a l m := (by first | exact hS'.below hb1 | exact hS1.below hb1 | exact hS2.below hb1 | exact hS3.below hb1 | exact hS4.below hb1); obtain ⟨o01, o11, of1⟩ := id hS1.O; have h1 := (hS1.cells i x hi HX.out).2.2))
     | (go_at_call 81; ((with_reducible refine Calls.mono (HO2.out _) ?_); rintro e w2 ⟨rfl, hb2⟩; have hS2 : MS w w2 a l m := (by first | exact hS'.below hb2 | exact hS1.below hb2 | exact hS2.below hb2 | exact hS3.below hb2 | exact hS4.below hb2); obtain ⟨o02, o12, of2⟩ := id hS2.O; have h2 := (hS2.cells i x hi HX.out).2.2))
     | (go_at_call 107; ((with_reducible refine Calls.mono (HM.out _) ?_); rintro e w3 ⟨rfl, hb3⟩; have hS3 : MS w w3 a l m := (by first | exact hS'.below hb3 | exact hS1.below hb3 | exact hS2.below hb3 | exact hS3.below hb3 | exact hS4.below hb3); obtain ⟨o03, o13, of3⟩ := id hS3.O; have h3 := (hS3.cells i x hi HX.out).2.2))
     | (go_at_call 102; ((with_reducible refine Calls.mono (HA.out _) ?_); rintro e w4 ⟨rfl, hb4⟩; have hS4 : MS w w4 a l m := (by first | exact hS'.below hb4 | exact hS1.below hb4 | exact hS2.below hb4 | exact hS3.below hb4 | exact hS4.below hb4); obtain ⟨o04, o14, of4⟩ := id hS4.O; have h4 := (hS4.cells i x hi HX.out).2.2; have hS5 := hS4.put hab m2; have h5 := (hS5.cells i x hi HX.out).2.2)))
   all_goals (
    have HS5 := Lib.hid hS5
    clear hS5 h5 hS h0 h0' hS' o0 o1 of
    go_wp2_with fail
    go_roundw
    case rel => exact ⟨i, m2, by omega, by first | rfl | go_num, HM2.out, HS5.out⟩
    case measure => simp [intOf])
set_option maxHeartbeats 2000000 in
set_option maxRecDepth 100000 in
theorem made_nil (ao : Option Addr) (c : Nat) (w : World) :
  Calls Tryz.prog 97 #[.slice ao 0 c] w fun e w' => e = .returned (natV 0) ∧ Below w.heap.size w w' := by
 obtain ⟨w0, hw0, hR, hO, hb0, hsz0⟩ := boxes2 w (.int .u64 0) (.string ⟨#[]⟩) (.int .u64 0) (.string ⟨#[]⟩) 32
 obtain ⟨o0, o1, of⟩ := id hO
 obtain ⟨r0, r1, rf⟩ := id hR
 rw [natV_zero]
 go_enter Tryz.func97, Tryz.ntmps97
 go_wp2_with fail
 go_loopw [4] (fun z wr => z = .int .i64 (-1) ∧ wr = w0) (fun z _ => (intOf z + 1).toNat)
 case atStart => exact ⟨rfl, rfl⟩
 case round =>
  obtain ⟨rfl, rfl⟩ := hrel
  go_wp2_with fail
  exact bodyPost_ret (v := .agg #[.int .u64 0, .string ⟨#[]⟩]) (by simp [results, Tryz.results97, go_sem, r0, r1]) rfl ⟨rfl, (hb0.setCell (by simp <;> omega) _).setCell (by simp <;> omega) _⟩
theorem made_any (v : Value) (l : List Nat) (hl : l.length ≤ 1000) (w : World) (h : Ws w v l) :
  Calls Tryz.prog 97 #[v] w fun e w' => e = .returned (natV (made l)) ∧ Below w.heap.size w w' := by
 rcases h with ⟨ao, c, rfl, rfl⟩ | ⟨a, c, rfl, h2⟩
 ·exact made_nil ao c w
 ·exact made_row a c l hl w h2
end Go.Proofs.YtdmoadfnogdfnaaGreatDoor
namespace Go.Proofs.YtdmoadfnogdfnaaGreatDoor.Rx
open Go.RowKit
attribute [local irreducible] tv dg
theorem td_add_le {a b k : Nat} (ha : (td a).length ≤ k) (hb : (td b).length ≤ k) : (td (a + b)).length ≤ k + 1 := by
 have h1 := td_length.1 ha
 have h2 := td_length.1 hb
 refine td_length.2 ?_
 rw [Nat.pow_succ]
 omega
/-- The reference's digits of a number of few words. -/
theorem td_made {l : List Nat} (h : ∀ x ∈ l, x < 4294967296) : (td (made l)).length ≤ 3 * l.length := by
 refine td_length.2 ?_
 induction l with
 | nil => exact Nat.one_pos
 | cons x l ih =>
  have h1 := ih fun y hy => h y (List.mem_cons_of_mem _ hy)
  have h2 := h x List.mem_cons_self
  rw [made, List.length_cons, Nat.mul_add, Nat.pow_add]
  rw [show (10000 : Nat) ^ (3 * 1) = 1000000000000 by rfl]
  generalize 10000 ^ (3 * l.length) = X at *
  omega
set_option maxHeartbeats 4000000 in
set_option maxRecDepth 100000 in
theorem rofw_row (a : Addr) (cc : Nat) (l : List Nat) (hl : l.length ≤ 1000) (w : World) (hw : Wd w a l) :
    Calls Tryz.prog 98 #[.slice (some a) l.length cc] w fun e w' => ∃ v, e = .returned v ∧ Rn w' v (made l) ∧ Below w.heap.size w w' := by
  obtain ⟨n, hn⟩ : ∃ n, n = l.length := ⟨_, rfl⟩
  rw [← hn] at hl ⊢
  have HW := Lib.hid hw
  have hst : made (l.drop n) = 0 := by rw [List.drop_eq_nil_of_le (by omega)]; rfl
  replace hst := Lib.hid hst
  replace hn := Lib.hid hn
  clear hw
  go_enter Tryz.func98, Tryz.ntmps98
  go_wp2_with fail
  go_loopw [3, 4] (fun v z wr => ∃ (j : Nat), j ≤ n ∧ z = .int .i64 ((j : Int) - 1) ∧ Rn wr v (made (l.drop j)) ∧ Below w.heap.size w wr) (fun _ z _ => (intOf z + 1).toNat)
  case atStart => exact ⟨n, Nat.le_refl _, by first | rfl | go_num, by rw [hst.out]; exact rn_nil _, Below.refl _ _⟩
  case round =>
    obtain ⟨j, hj, rfl, hv, hbl⟩ := hrel
    replace hv := Lib.hid hv
    cases j with
    | zero =>
      rw [List.drop_zero] at hv
      go_wp2_with fail
      go_ret
      exact ⟨_, rfl, hv.out, hbl⟩
    | succ i =>
      have hi : i < l.length := by have := hn.out; omega
      obtain ⟨x, hx⟩ : ∃ x, x = l[i] := ⟨_, rfl⟩
      have hx32 : x < 4294967296 := by rw [hx]; exact HW.out.lt _ (List.getElem_mem hi)
      have hmd : made (l.drop i) = made (l.drop (i + 1)) * 4294967296 + x := by
        rw [List.drop_eq_getElem_cons hi, made, ← hx]; omega
      have hcell : wr.cell? (a.add i) = some (.int .u32 (x : Int)) := by rw [hx]; exact (HW.out.below hbl).cell i hi
      have hlt := fun (y : Nat) (hy : y ∈ l.drop (i + 1)) => HW.out.lt y (List.mem_of_mem_drop hy)
      have htd : (td (made (l.drop (i + 1)))).length ≤ 3000 := Nat.le_trans (td_made hlt) (by rw [List.length_drop]; have := hn.out; omega)
      have htd2 : (td (made (l.drop (i + 1)) * 4294967296)).length ≤ 3003 := td_mul_le htd (show (td 4294967296).length ≤ 3 from td_length.2 (by decide))
      generalize made (l.drop (i + 1)) = m at *
      obtain ⟨C, hC⟩ : ∃ C, C = 4294967296 := ⟨_, rfl⟩
      have O1 := fun w => rof_val 4294967296 C (by rw [hC]; rfl) (by omega) w
      have O2 := fun w => rof_any x (by omega) w
      have M := fun va vb w ha hb => rmul_any va vb m C (by omega) (by have : (td C).length ≤ 3 := by rw [hC]; exact td_length.2 (by decide)
                                                                       omega) w ha hb
      have A := fun va vb w ha hb => radd_any va vb (m * C) x (by rw [hC]; omega) (by have : (td x).length ≤ 3 := td_length.2 (by omega)
                                                                                      omega) w ha hb
      rw [hC, ← hmd, ← hC] at A
      rw [← hC] at hmd
      replace hmd := Lib.hid hmd
      replace O1 := Lib.hid O1
      replace O2 := Lib.hid O2
      replace M := Lib.hid M
      replace A := Lib.hid A
      have hin : (i : Int) < (n : Int) := by have := hn.out; omega
      have hib : (i : Int) ≤ 1000 := by omega
      have hwx : IntKind.u64.wrap (x : Int) = (x : Int) := wrapN _ (by omega)
      have e1 : (((i + 1 : Nat) : Int) - 1) = (i : Int) := by omega
      rw [e1]
      clear hx hC htd htd2 hlt hx32
      go_wp2_with fail
      have hcd : wr.drew.cell? (a.add i) = some (.int .u32 (x : Int)) := hcell
      have hak : (a.add i).block < wr.drew.heap.size := by rw [addB]; exact Nat.lt_of_lt_of_le HW.out.blk hbl.size
      have hv0 := Lib.hid hv.out.drew
      go_region_held3 (fun w' => w'.cell? (a.add i) = some (.int .u32 (x : Int)))
        (first | exact hcd | exact hc1 | exact hc2 | exact hc3 | exact hc4)
        (first
          | (go_at_call 152; ((with_reducible refine Calls.mono (O1.out _) ?_); rintro e w1 ⟨v1, rfl, hv1, hb1⟩; have hc1 := (hb1.cell (p := a.add i) hak).trans hcd; replace hv1 := Lib.hid hv1))
          | (go_at_call 108; ((with_reducible refine Calls.mono (M.out _ _ _ (hv0.out.below hb1) hv1.out) ?_); rintro e w2 ⟨v2, rfl, hv2, hb2⟩; have hc2 := (hb2.cell (p := a.add i) (Nat.lt_of_lt_of_le hak hb1.size)).trans hc1; replace hv2 := Lib.hid hv2))
          | (go_at_call 152; ((with_reducible refine Calls.mono (O2.out _) ?_); rintro e w3 ⟨v3, rfl, hv3, hb3⟩; have hc3 := (hb3.cell (p := a.add i) (Nat.lt_of_lt_of_le hak (Nat.le_trans hb1.size hb2.size))).trans hc2; replace hv3 := Lib.hid hv3))
          | (go_at_call 103; ((with_reducible refine Calls.mono (A.out _ _ _ (hv2.out.below hb3) hv3.out) ?_); rintro e w4 ⟨v4, rfl, hv4, hb4⟩; have hc4 := (hb4.cell (p := a.add i) (Nat.lt_of_lt_of_le hak (Nat.le_trans hb1.size (Nat.le_trans hb2.size hb3.size)))).trans hc3; replace hv4 := Lib.hid hv4)))
      go_wp2_with fail
      go_roundw
      case rel => exact ⟨i, by omega, by first | rfl | go_num, hv4.out, (((hbl.drew.trans (hb1.mono hbl.size)).trans (hb2.mono (Nat.le_trans hbl.size hb1.size))).trans (hb3.mono (Nat.le_trans hbl.size (Nat.le_trans hb1.size hb2.size)))).trans (hb4.mono (Nat.le_trans hbl.size (Nat.le_trans hb1.size (Nat.le_trans hb2.size hb3.size))))⟩
      case measure => simp [intOf]
end Go.Proofs.YtdmoadfnogdfnaaGreatDoor.Rx
namespace Go.Proofs.YtdmoadfnogdfnaaGreatDoor.Rx
open Go.RowKit
attribute [local irreducible] tv dg cmpI
theorem rofw_nil (ao : Option Addr) (c : Nat) (w : World) :
  Calls Tryz.prog 98 #[.slice ao 0 c] w fun e w' => ∃ v, e = .returned v ∧ Rn w' v 0 ∧ Below w.heap.size w w' := by
 go_enter Tryz.func98, Tryz.ntmps98
 go_wp2_with fail
 go_loopw [3, 4] (fun v z wr => v = .slice none 0 0 ∧ z = .int .i64 (-1) ∧ wr = w) (fun _ z _ => (intOf z + 1).toNat)
 case atStart => exact ⟨rfl, rfl, rfl⟩
 case round =>
  obtain ⟨rfl, rfl, rfl⟩ := hrel
  go_wp2_with fail
  go_ret
  exact ⟨_, rfl, rn_nil _, Below.refl _ _⟩
theorem rofw_any (v : Value) (l : List Nat) (hl : l.length ≤ 1000) (w : World) (h : Ws w v l) :
  Calls Tryz.prog 98 #[v] w fun e w' => ∃ v, e = .returned v ∧ Rn w' v (made l) ∧ Below w.heap.size w w' := by
 rcases h with ⟨ao, c, rfl, rfl⟩ | ⟨a, c, rfl, h2⟩
 ·exact rofw_nil ao c w
 ·exact rofw_row a c l hl w h2
end Go.Proofs.YtdmoadfnogdfnaaGreatDoor.Rx
namespace Go.Proofs.YtdmoadfnogdfnaaGreatDoor.Rx
open Go.RowKit
attribute [local irreducible] tv dg cmpI
end Go.Proofs.YtdmoadfnogdfnaaGreatDoor.Rx
namespace Go.Proofs.YtdmoadfnogdfnaaGreatDoor
open Go.RowKit Go.Proofs.YtdmoadfnogdfnaaGreatDoor.Rx
attribute [local irreducible] lo hs sm s64 c64 d64 b64 mh ml pd pc qd qc val hiB str cmpI srD lz nb isq decB dval
set_option maxHeartbeats 1000000 in
set_option maxRecDepth 100000 in
theorem rzadd_same (s : Bool) (va vb : Value) (a b : Nat) (la : (td a).length ≤ 1000000) (lb : (td b).length ≤ 1000000) (w : World) (ha : Rn w va a) (hb : Rn w vb b) :
  Calls Tryz.prog 29 #[.agg #[.bool s, va], .agg #[.bool s, vb]] w fun e w' => (∃ v, e = .returned (.agg #[.bool (s && decide (a + b ≠ 0)), v]) ∧ Rn w' v (a + b)) ∧ Below w.heap.size w w' := by
 have hL0 : GL w w [] := GL.start w
 have HA := Lib.hid (fun w h1 h2 => radd_any va vb a b la lb w h1 h2)
 obtain ⟨aa, ca, rfl⟩ := ha.form
 obtain ⟨ab, cb, rfl⟩ := hb.form
 generalize (td a).length = na at *
 generalize (td b).length = nb at *
 replace hL0 := (((hL0.new rfl [.bool s, .slice aa na ca] 44).new (K := w.heap.size + 1) (szA _ _) [.bool s, .slice ab nb cb] 44).new (K := w.heap.size + 1 + 1) (by simp only [World.size_alloc]) [.bool false, .slice none 0 0] 44)
 generalize hweq : (((w.alloc (.cells #[.bool s, .slice aa na ca] 44)).alloc (.cells #[.bool s, .slice ab nb cb] 44)).alloc (.cells #[.bool false, .slice none 0 0] 44)) = x1 at hL0
 replace ha := Lib.hid (ha.below hL0.bl)
 replace hb := Lib.hid (hb.below hL0.bl)
 clear la lb
 go_enter Tryz.func29, Tryz.ntmps29
 have hA := hL0.fc
 simp only [fcG, cellsF, neK, and_true, ne_eq, Nat.zero_add, Nat.reduceAdd] at hA
 go_upto_region 2 with fail
 clear hA
 clear hweq
 refine region_tl 8 [fun u _ => u = .pointer (some ⟨w.heap.size, 0, none⟩), fun u _ => u = .bool s, fun u _ => u = .pointer (some ⟨w.heap.size, 1, none⟩), fun u _ => u = .slice aa na ca, fun u _ => u = .pointer (some ⟨w.heap.size + 1, 1, none⟩), fun u _ => u = .slice ab nb cb, fun u w => Rn w u (a + b), fun u w => ∃ v, u = .agg #[.bool (s && decide (a + b ≠ 0)), v] ∧ Rn w v (a + b)] (by kernel_rfl) (by kernel_rfl) ?_ ?_ ?_
 ·exact stays_cons (stays_eq _) (stays_cons (stays_eq _) (stays_cons (stays_eq _) (stays_cons (stays_eq _) (stays_cons (stays_eq _) (stays_cons (stays_eq _) (stays_cons (fun _ _ _ hb h => h.below hb) (stays_cons (fun _ _ _ hb ⟨v, e, h⟩ => ⟨v, e, h.below hb⟩) (stays_nil))))))))
 ·simp only [List.take_succ_cons, List.take_zero, hopsR, and_true]
  refine ⟨?_, ?_, ?_, ?_, ?_, ?_, ?_, ?_⟩ <;> intro v w1 hb1 hp
  all_goals (simp only [putsV, Act.put, List.setIfInBounds_toArray, List.set_cons_succ, List.set_cons_zero, Nat.zero_add, Nat.reduceAdd])
  ·skip
   clear hp
   have hc := (hL0.call (below_drew hb1)).fc
   simp only [fcG, cellsF, neK, and_true, ne_eq, Nat.zero_add, Nat.reduceAdd] at hc
   refine tyAt_none rfl ?_
   simp [tyUpon, execOp, go_sem, Act.eval, hc, Below.refl]
  ·skip
   have h0 : (fun u _ => u = .pointer (some ⟨w.heap.size, 0, none⟩)) (v 0) w1 := hp 0 (List.contains_iff_mem.1 (by kernel_rfl))
   clear hp
   have hc := (hL0.call (below_drew hb1)).fc
   simp only [fcG, cellsF, neK, and_true, ne_eq, Nat.zero_add, Nat.reduceAdd] at hc
   refine tyAt_none rfl ?_
   simp [tyUpon, execOp, go_sem, Act.eval, hc, h0, Below.refl]
  ·skip
   clear hp
   have hc := (hL0.call (below_drew hb1)).fc
   simp only [fcG, cellsF, neK, and_true, ne_eq, Nat.zero_add, Nat.reduceAdd] at hc
   refine tyAt_none rfl ?_
   simp [tyUpon, execOp, go_sem, Act.eval, hc, Below.refl]
  ·skip
   have h2 : (fun u _ => u = .pointer (some ⟨w.heap.size, 1, none⟩)) (v 2) w1 := hp 2 (List.contains_iff_mem.1 (by kernel_rfl))
   clear hp
   have hc := (hL0.call (below_drew hb1)).fc
   simp only [fcG, cellsF, neK, and_true, ne_eq, Nat.zero_add, Nat.reduceAdd] at hc
   refine tyAt_none rfl ?_
   simp [tyUpon, execOp, go_sem, Act.eval, hc, h2, Below.refl]
  ·skip
   clear hp
   have hc := (hL0.call (below_drew hb1)).fc
   simp only [fcG, cellsF, neK, and_true, ne_eq, Nat.zero_add, Nat.reduceAdd] at hc
   refine tyAt_none rfl ?_
   simp [tyUpon, execOp, go_sem, Act.eval, hc, Below.refl]
  ·skip
   have h4 : (fun u _ => u = .pointer (some ⟨w.heap.size + 1, 1, none⟩)) (v 4) w1 := hp 4 (List.contains_iff_mem.1 (by kernel_rfl))
   clear hp
   have hc := (hL0.call (below_drew hb1)).fc
   simp only [fcG, cellsF, neK, and_true, ne_eq, Nat.zero_add, Nat.reduceAdd] at hc
   refine tyAt_none rfl ?_
   simp [tyUpon, execOp, go_sem, Act.eval, hc, h4, Below.refl]
  ·skip
   have h3 : (fun u _ => u = .slice aa na ca) (v 3) w1 := hp 3 (List.contains_iff_mem.1 (by kernel_rfl))
   have h5 : (fun u _ => u = .slice ab nb cb) (v 5) w1 := hp 5 (List.contains_iff_mem.1 (by kernel_rfl))
   clear hp
   refine tyAt_none rfl ?_
   refine ty_call (f := 103) (args := #[.slice aa na ca, .slice ab nb cb]) (by simp [execOp, go_sem, Act.eval, h3, h5]) ?_
   exact (HA.out w1 (ha.out.below (below_drew hb1)) (hb.out.below (below_drew hb1))).mono fun e w2 ⟨v, h1, h2, h3⟩ => ⟨v, h1, h2, h3⟩
  ·skip
   have h1 : (fun u _ => u = .bool s) (v 1) w1 := hp 1 (List.contains_iff_mem.1 (by kernel_rfl))
   have h6 : (fun u w => Rn w u (a + b)) (v 6) w1 := hp 6 (List.contains_iff_mem.1 (by kernel_rfl))
   clear hp
   refine tyAt_none rfl ?_
   refine ty_call (f := 123) (args := #[.bool s, v 6]) (by simp [execOp, go_sem, Act.eval, h1]) ?_
   have hF := rfrom_any s (v 6) (a + b) w1 h6
   exact hF.mono fun e w2 ⟨h1, h2⟩ => ⟨_, h1, ⟨v 6, rfl, Sl.below h6 h2⟩, h2⟩
 ·intro v w1 hb1 hv
  obtain ⟨u, hu, hru⟩ : ∃ u, v 7 = .agg #[.bool (s && decide (a + b ≠ 0)), u] ∧ Rn w1 u (a + b) := hv 7 (by omega)
  obtain ⟨ao, c, rfl⟩ := hru.form
  generalize hd : (s && decide (a + b ≠ 0)) = d at *
  replace hd := Lib.hid hd
  generalize hk : (td (a + b)).length = k at *
  replace hk := Lib.hid hk
  clear hv
  simp only [List.take_succ_cons, List.take_zero, putsV, Act.put, List.setIfInBounds_toArray, List.set_cons_succ, List.set_cons_zero, List.drop_succ_cons, List.drop_zero, Nat.zero_add, Nat.reduceAdd, hu]
  replace hL0 := hL0.call (below_drew hb1)
  have hHd := hL0.get _ _ List.mem_cons_self
  have hA := hL0.fc
  simp only [fcG, cellsF, neK, and_true, ne_eq, Nat.zero_add, Nat.reduceAdd] at hA
  have hP := hL0.put 0 (w.heap.size + 1 + 1) _ rfl [.bool d, .slice ao k c] rfl
  simp only [setAll, List.set_cons_zero, List.set_cons_succ] at hP
  generalize hput1 : ((w1.setCell ⟨w.heap.size + 1 + 1, 0, none⟩ (.bool d)).setCell ⟨w.heap.size + 1 + 1, 1, none⟩ (.slice ao k c)) = x2 at hP
  have hB1 := hP.fc
  simp only [fcG, cellsF, neK, and_true, ne_eq, Nat.zero_add, Nat.reduceAdd] at hB1
  replace hL0 := hP
  have hvF := sl_upd hru (show Upd (w.heap.size + 1 + 1) w1 x2 by rw [← hput1]; exact ((Upd.refl _ _).setCell 0 _).setCell 1 _) hHd (by intro v hv n; simp only [List.mem_cons, List.not_mem_nil, or_false] at hv; rcases hv with rfl | rfl <;> simp)
  replace hvF := Lib.hid hvF
  clear hru hHd hb1 ha hb HA
  generalize v 0 = y0 at *
  generalize v 1 = y1 at *
  generalize v 2 = y2 at *
  generalize v 3 = y3 at *
  generalize v 4 = y4 at *
  generalize v 5 = y5 at *
  generalize v 6 = y6 at *
  clear hu v
  go_wp2_with fail
  exact bodyPost_ret (v := .agg #[.bool d, .slice ao k c]) (by simp [results, Tryz.results29, go_sem, hB1]) rfl ⟨⟨_, by rw [hd.out], hvF.out⟩, hL0.bl⟩
set_option maxHeartbeats 1000000 in
set_option maxRecDepth 100000 in
theorem rzadd_ge (s t : Bool) (va vb : Value) (a b : Nat) (la : (td a).length ≤ 1000000) (lb : (td b).length ≤ 1000000) (hne : s ≠ t) (hab : b ≤ a) (w : World) (ha : Rn w va a) (hb : Rn w vb b) :
  Calls Tryz.prog 29 #[.agg #[.bool s, va], .agg #[.bool t, vb]] w fun e w' => (∃ v, e = .returned (.agg #[.bool (s && decide (a - b ≠ 0)), v]) ∧ Rn w' v (a - b)) ∧ Below w.heap.size w w' := by
 have hL0 : GL w w [] := GL.start w
 have HA := Lib.hid (fun w h1 h2 => rsub_any va vb a b la hab w h1 h2)
 have HC := Lib.hid (fun w h1 h2 => rcmp_any va vb a b la lb w h1 h2)
 have hcg : decide (cmpI a b ≥ 0) = true := decide_eq_true (by unfold cmpI; split <;> (try split) <;> omega)
 have hcg2 : decide (0 ≤ cmpI a b) = true := decide_eq_true (by unfold cmpI; split <;> (try split) <;> omega)
 have hst : (s == t) = false := beq_eq_false_iff_ne.2 hne
 generalize cmpI a b = cz at *
 obtain ⟨aa, ca, rfl⟩ := ha.form
 obtain ⟨ab, cb, rfl⟩ := hb.form
 generalize (td a).length = na at *
 generalize (td b).length = nb at *
 replace hL0 := (((hL0.new rfl [.bool s, .slice aa na ca] 44).new (K := w.heap.size + 1) (szA _ _) [.bool t, .slice ab nb cb] 44).new (K := w.heap.size + 1 + 1) (by simp only [World.size_alloc]) [.bool false, .slice none 0 0] 44)
 generalize hweq : (((w.alloc (.cells #[.bool s, .slice aa na ca] 44)).alloc (.cells #[.bool t, .slice ab nb cb] 44)).alloc (.cells #[.bool false, .slice none 0 0] 44)) = x1 at hL0
 replace ha := Lib.hid (ha.below hL0.bl)
 replace hb := Lib.hid (hb.below hL0.bl)
 clear la lb hab hne
 go_enter Tryz.func29, Tryz.ntmps29
 have hA := hL0.fc
 simp only [fcG, cellsF, neK, and_true, ne_eq, Nat.zero_add, Nat.reduceAdd] at hA
 go_wp2_with fail
 clear hA
 with_reducible refine Calls.mono (HC.out _ ha.out hb.out) ?_
 rintro e x2 ⟨rfl, hbc⟩
 replace hL0 := hL0.call hbc
 replace ha := Lib.hid (ha.out.below hbc)
 replace hb := Lib.hid (hb.out.below hbc)
 clear hbc hweq HC
 have hA := hL0.fc
 simp only [fcG, cellsF, neK, and_true, ne_eq, Nat.zero_add, Nat.reduceAdd] at hA
 go_upto_region 4 with fail
 clear hA
 refine region_tl 8 [fun u _ => u = .pointer (some ⟨w.heap.size, 0, none⟩), fun u _ => u = .bool s, fun u _ => u = .pointer (some ⟨w.heap.size, 1, none⟩), fun u _ => u = .slice aa na ca, fun u _ => u = .pointer (some ⟨w.heap.size + 1, 1, none⟩), fun u _ => u = .slice ab nb cb, fun u w => Rn w u (a - b), fun u w => ∃ v, u = .agg #[.bool (s && decide (a - b ≠ 0)), v] ∧ Rn w v (a - b)] (by kernel_rfl) (by kernel_rfl) ?_ ?_ ?_
 ·exact stays_cons (stays_eq _) (stays_cons (stays_eq _) (stays_cons (stays_eq _) (stays_cons (stays_eq _) (stays_cons (stays_eq _) (stays_cons (stays_eq _) (stays_cons (fun _ _ _ hb h => h.below hb) (stays_cons (fun _ _ _ hb ⟨v, e, h⟩ => ⟨v, e, h.below hb⟩) (stays_nil))))))))
 ·simp only [List.take_succ_cons, List.take_zero, hopsR, and_true]
  refine ⟨?_, ?_, ?_, ?_, ?_, ?_, ?_, ?_⟩ <;> intro v w1 hb1 hp
  all_goals (simp only [putsV, Act.put, List.setIfInBounds_toArray, List.set_cons_succ, List.set_cons_zero, Nat.zero_add, Nat.reduceAdd])
  ·skip
   clear hp
   have hc := (hL0.call (below_drew hb1)).fc
   simp only [fcG, cellsF, neK, and_true, ne_eq, Nat.zero_add, Nat.reduceAdd] at hc
   refine tyAt_none rfl ?_
   simp [tyUpon, execOp, go_sem, Act.eval, hc, Below.refl]
  ·skip
   have h0 : (fun u _ => u = .pointer (some ⟨w.heap.size, 0, none⟩)) (v 0) w1 := hp 0 (List.contains_iff_mem.1 (by kernel_rfl))
   clear hp
   have hc := (hL0.call (below_drew hb1)).fc
   simp only [fcG, cellsF, neK, and_true, ne_eq, Nat.zero_add, Nat.reduceAdd] at hc
   refine tyAt_none rfl ?_
   simp [tyUpon, execOp, go_sem, Act.eval, hc, h0, Below.refl]
  ·skip
   clear hp
   have hc := (hL0.call (below_drew hb1)).fc
   simp only [fcG, cellsF, neK, and_true, ne_eq, Nat.zero_add, Nat.reduceAdd] at hc
   refine tyAt_none rfl ?_
   simp [tyUpon, execOp, go_sem, Act.eval, hc, Below.refl]
  ·skip
   have h2 : (fun u _ => u = .pointer (some ⟨w.heap.size, 1, none⟩)) (v 2) w1 := hp 2 (List.contains_iff_mem.1 (by kernel_rfl))
   clear hp
   have hc := (hL0.call (below_drew hb1)).fc
   simp only [fcG, cellsF, neK, and_true, ne_eq, Nat.zero_add, Nat.reduceAdd] at hc
   refine tyAt_none rfl ?_
   simp [tyUpon, execOp, go_sem, Act.eval, hc, h2, Below.refl]
  ·skip
   clear hp
   have hc := (hL0.call (below_drew hb1)).fc
   simp only [fcG, cellsF, neK, and_true, ne_eq, Nat.zero_add, Nat.reduceAdd] at hc
   refine tyAt_none rfl ?_
   simp [tyUpon, execOp, go_sem, Act.eval, hc, Below.refl]
  ·skip
   have h4 : (fun u _ => u = .pointer (some ⟨w.heap.size + 1, 1, none⟩)) (v 4) w1 := hp 4 (List.contains_iff_mem.1 (by kernel_rfl))
   clear hp
   have hc := (hL0.call (below_drew hb1)).fc
   simp only [fcG, cellsF, neK, and_true, ne_eq, Nat.zero_add, Nat.reduceAdd] at hc
   refine tyAt_none rfl ?_
   simp [tyUpon, execOp, go_sem, Act.eval, hc, h4, Below.refl]
  ·skip
   have h3 : (fun u _ => u = .slice aa na ca) (v 3) w1 := hp 3 (List.contains_iff_mem.1 (by kernel_rfl))
   have h5 : (fun u _ => u = .slice ab nb cb) (v 5) w1 := hp 5 (List.contains_iff_mem.1 (by kernel_rfl))
   clear hp
   refine tyAt_none rfl ?_
   refine ty_call (f := 105) (args := #[.slice aa na ca, .slice ab nb cb]) (by simp [execOp, go_sem, Act.eval, h3, h5]) ?_
   exact (HA.out w1 (ha.out.below (below_drew hb1)) (hb.out.below (below_drew hb1))).mono fun e w2 ⟨v, h1, h2, h3⟩ => ⟨v, h1, h2, h3⟩
  ·skip
   have h1 : (fun u _ => u = .bool s) (v 1) w1 := hp 1 (List.contains_iff_mem.1 (by kernel_rfl))
   have h6 : (fun u w => Rn w u (a - b)) (v 6) w1 := hp 6 (List.contains_iff_mem.1 (by kernel_rfl))
   clear hp
   refine tyAt_none rfl ?_
   refine ty_call (f := 123) (args := #[.bool s, v 6]) (by simp [execOp, go_sem, Act.eval, h1]) ?_
   have hF := rfrom_any s (v 6) (a - b) w1 h6
   exact hF.mono fun e w2 ⟨h1, h2⟩ => ⟨_, h1, ⟨v 6, rfl, Sl.below h6 h2⟩, h2⟩
 ·intro v w1 hb1 hv
  obtain ⟨u, hu, hru⟩ : ∃ u, v 7 = .agg #[.bool (s && decide (a - b ≠ 0)), u] ∧ Rn w1 u (a - b) := hv 7 (by omega)
  obtain ⟨ao, c, rfl⟩ := hru.form
  generalize hd : (s && decide (a - b ≠ 0)) = d at *
  replace hd := Lib.hid hd
  generalize hk : (td (a - b)).length = k at *
  replace hk := Lib.hid hk
  clear hv
  simp only [List.take_succ_cons, List.take_zero, putsV, Act.put, List.setIfInBounds_toArray, List.set_cons_succ, List.set_cons_zero, List.drop_succ_cons, List.drop_zero, Nat.zero_add, Nat.reduceAdd, hu]
  replace hL0 := hL0.call (below_drew hb1)
  have hHd := hL0.get _ _ List.mem_cons_self
  have hA := hL0.fc
  simp only [fcG, cellsF, neK, and_true, ne_eq, Nat.zero_add, Nat.reduceAdd] at hA
  have hP := hL0.put 0 (w.heap.size + 1 + 1) _ rfl [.bool d, .slice ao k c] rfl
  simp only [setAll, List.set_cons_zero, List.set_cons_succ] at hP
  generalize hput1 : ((w1.setCell ⟨w.heap.size + 1 + 1, 0, none⟩ (.bool d)).setCell ⟨w.heap.size + 1 + 1, 1, none⟩ (.slice ao k c)) = x3 at hP
  have hB1 := hP.fc
  simp only [fcG, cellsF, neK, and_true, ne_eq, Nat.zero_add, Nat.reduceAdd] at hB1
  replace hL0 := hP
  have hvF := sl_upd hru (show Upd (w.heap.size + 1 + 1) w1 x3 by rw [← hput1]; exact ((Upd.refl _ _).setCell 0 _).setCell 1 _) hHd (by intro v hv n; simp only [List.mem_cons, List.not_mem_nil, or_false] at hv; rcases hv with rfl | rfl <;> simp)
  replace hvF := Lib.hid hvF
  clear hru hHd hb1 ha hb HA
  generalize v 0 = y0 at *
  generalize v 1 = y1 at *
  generalize v 2 = y2 at *
  generalize v 3 = y3 at *
  generalize v 4 = y4 at *
  generalize v 5 = y5 at *
  generalize v 6 = y6 at *
  clear hu v
  go_wp2_with fail
  exact bodyPost_ret (v := .agg #[.bool d, .slice ao k c]) (by simp [results, Tryz.results29, go_sem, hB1]) rfl ⟨⟨_, by rw [hd.out], hvF.out⟩, hL0.bl⟩
set_option maxHeartbeats 1000000 in
set_option maxRecDepth 100000 in
theorem rzadd_lt (s t : Bool) (va vb : Value) (a b : Nat) (la : (td a).length ≤ 1000000) (lb : (td b).length ≤ 1000000) (hne : s ≠ t) (hab : a < b) (w : World) (ha : Rn w va a) (hb : Rn w vb b) :
  Calls Tryz.prog 29 #[.agg #[.bool s, va], .agg #[.bool t, vb]] w fun e w' => (∃ v, e = .returned (.agg #[.bool (t && decide (b - a ≠ 0)), v]) ∧ Rn w' v (b - a)) ∧ Below w.heap.size w w' := by
 have hL0 : GL w w [] := GL.start w
 have HA := Lib.hid (fun w h1 h2 => rsub_any vb va b a lb (by omega) w h1 h2)
 have HC := Lib.hid (fun w h1 h2 => rcmp_any va vb a b la lb w h1 h2)
 have hcg : decide (cmpI a b ≥ 0) = false := decide_eq_false (by unfold cmpI; split <;> (try split) <;> omega)
 have hcg2 : decide (0 ≤ cmpI a b) = false := decide_eq_false (by unfold cmpI; split <;> (try split) <;> omega)
 have hst : (s == t) = false := beq_eq_false_iff_ne.2 hne
 generalize cmpI a b = cz at *
 obtain ⟨aa, ca, rfl⟩ := ha.form
 obtain ⟨ab, cb, rfl⟩ := hb.form
 generalize (td a).length = na at *
 generalize (td b).length = nb at *
 replace hL0 := (((hL0.new rfl [.bool s, .slice aa na ca] 44).new (K := w.heap.size + 1) (szA _ _) [.bool t, .slice ab nb cb] 44).new (K := w.heap.size + 1 + 1) (by simp only [World.size_alloc]) [.bool false, .slice none 0 0] 44)
 generalize hweq : (((w.alloc (.cells #[.bool s, .slice aa na ca] 44)).alloc (.cells #[.bool t, .slice ab nb cb] 44)).alloc (.cells #[.bool false, .slice none 0 0] 44)) = x1 at hL0
 replace ha := Lib.hid (ha.below hL0.bl)
 replace hb := Lib.hid (hb.below hL0.bl)
 clear la lb hab hne
 go_enter Tryz.func29, Tryz.ntmps29
 have hA := hL0.fc
 simp only [fcG, cellsF, neK, and_true, ne_eq, Nat.zero_add, Nat.reduceAdd] at hA
 go_wp2_with fail
 clear hA
 with_reducible refine Calls.mono (HC.out _ ha.out hb.out) ?_
 rintro e x2 ⟨rfl, hbc⟩
 replace hL0 := hL0.call hbc
 replace ha := Lib.hid (ha.out.below hbc)
 replace hb := Lib.hid (hb.out.below hbc)
 clear hbc hweq HC
 have hA := hL0.fc
 simp only [fcG, cellsF, neK, and_true, ne_eq, Nat.zero_add, Nat.reduceAdd] at hA
 go_upto_region 5 with fail
 clear hA
 refine region_tl 8 [fun u _ => u = .pointer (some ⟨w.heap.size + 1, 0, none⟩), fun u _ => u = .bool t, fun u _ => u = .pointer (some ⟨w.heap.size + 1, 1, none⟩), fun u _ => u = .slice ab nb cb, fun u _ => u = .pointer (some ⟨w.heap.size, 1, none⟩), fun u _ => u = .slice aa na ca, fun u w => Rn w u (b - a), fun u w => ∃ v, u = .agg #[.bool (t && decide (b - a ≠ 0)), v] ∧ Rn w v (b - a)] (by kernel_rfl) (by kernel_rfl) ?_ ?_ ?_
 ·exact stays_cons (stays_eq _) (stays_cons (stays_eq _) (stays_cons (stays_eq _) (stays_cons (stays_eq _) (stays_cons (stays_eq _) (stays_cons (stays_eq _) (stays_cons (fun _ _ _ hb h => h.below hb) (stays_cons (fun _ _ _ hb ⟨v, e, h⟩ => ⟨v, e, h.below hb⟩) (stays_nil))))))))
 ·simp only [List.take_succ_cons, List.take_zero, hopsR, and_true]
  refine ⟨?_, ?_, ?_, ?_, ?_, ?_, ?_, ?_⟩ <;> intro v w1 hb1 hp
  all_goals (simp only [putsV, Act.put, List.setIfInBounds_toArray, List.set_cons_succ, List.set_cons_zero, Nat.zero_add, Nat.reduceAdd])
  ·skip
   clear hp
   have hc := (hL0.call (below_drew hb1)).fc
   simp only [fcG, cellsF, neK, and_true, ne_eq, Nat.zero_add, Nat.reduceAdd] at hc
   refine tyAt_none rfl ?_
   simp [tyUpon, execOp, go_sem, Act.eval, hc, Below.refl]
  ·skip
   have h0 : (fun u _ => u = .pointer (some ⟨w.heap.size + 1, 0, none⟩)) (v 0) w1 := hp 0 (List.contains_iff_mem.1 (by kernel_rfl))
   clear hp
   have hc := (hL0.call (below_drew hb1)).fc
   simp only [fcG, cellsF, neK, and_true, ne_eq, Nat.zero_add, Nat.reduceAdd] at hc
   refine tyAt_none rfl ?_
   simp [tyUpon, execOp, go_sem, Act.eval, hc, h0, Below.refl]
  ·skip
   clear hp
   have hc := (hL0.call (below_drew hb1)).fc
   simp only [fcG, cellsF, neK, and_true, ne_eq, Nat.zero_add, Nat.reduceAdd] at hc
   refine tyAt_none rfl ?_
   simp [tyUpon, execOp, go_sem, Act.eval, hc, Below.refl]
  ·skip
   have h2 : (fun u _ => u = .pointer (some ⟨w.heap.size + 1, 1, none⟩)) (v 2) w1 := hp 2 (List.contains_iff_mem.1 (by kernel_rfl))
   clear hp
   have hc := (hL0.call (below_drew hb1)).fc
   simp only [fcG, cellsF, neK, and_true, ne_eq, Nat.zero_add, Nat.reduceAdd] at hc
   refine tyAt_none rfl ?_
   simp [tyUpon, execOp, go_sem, Act.eval, hc, h2, Below.refl]
  ·skip
   clear hp
   have hc := (hL0.call (below_drew hb1)).fc
   simp only [fcG, cellsF, neK, and_true, ne_eq, Nat.zero_add, Nat.reduceAdd] at hc
   refine tyAt_none rfl ?_
   simp [tyUpon, execOp, go_sem, Act.eval, hc, Below.refl]
  ·skip
   have h4 : (fun u _ => u = .pointer (some ⟨w.heap.size, 1, none⟩)) (v 4) w1 := hp 4 (List.contains_iff_mem.1 (by kernel_rfl))
   clear hp
   have hc := (hL0.call (below_drew hb1)).fc
   simp only [fcG, cellsF, neK, and_true, ne_eq, Nat.zero_add, Nat.reduceAdd] at hc
   refine tyAt_none rfl ?_
   simp [tyUpon, execOp, go_sem, Act.eval, hc, h4, Below.refl]
  ·skip
   have h3 : (fun u _ => u = .slice ab nb cb) (v 3) w1 := hp 3 (List.contains_iff_mem.1 (by kernel_rfl))
   have h5 : (fun u _ => u = .slice aa na ca) (v 5) w1 := hp 5 (List.contains_iff_mem.1 (by kernel_rfl))
   clear hp
   refine tyAt_none rfl ?_
   refine ty_call (f := 105) (args := #[.slice ab nb cb, .slice aa na ca]) (by simp [execOp, go_sem, Act.eval, h3, h5]) ?_
   exact (HA.out w1 (hb.out.below (below_drew hb1)) (ha.out.below (below_drew hb1))).mono fun e w2 ⟨v, h1, h2, h3⟩ => ⟨v, h1, h2, h3⟩
  ·skip
   have h1 : (fun u _ => u = .bool t) (v 1) w1 := hp 1 (List.contains_iff_mem.1 (by kernel_rfl))
   have h6 : (fun u w => Rn w u (b - a)) (v 6) w1 := hp 6 (List.contains_iff_mem.1 (by kernel_rfl))
   clear hp
   refine tyAt_none rfl ?_
   refine ty_call (f := 123) (args := #[.bool t, v 6]) (by simp [execOp, go_sem, Act.eval, h1]) ?_
   have hF := rfrom_any t (v 6) (b - a) w1 h6
   exact hF.mono fun e w2 ⟨h1, h2⟩ => ⟨_, h1, ⟨v 6, rfl, Sl.below h6 h2⟩, h2⟩
 ·intro v w1 hb1 hv
  obtain ⟨u, hu, hru⟩ : ∃ u, v 7 = .agg #[.bool (t && decide (b - a ≠ 0)), u] ∧ Rn w1 u (b - a) := hv 7 (by omega)
  obtain ⟨ao, c, rfl⟩ := hru.form
  generalize hd : (t && decide (b - a ≠ 0)) = d at *
  replace hd := Lib.hid hd
  generalize hk : (td (b - a)).length = k at *
  replace hk := Lib.hid hk
  clear hv
  simp only [List.take_succ_cons, List.take_zero, putsV, Act.put, List.setIfInBounds_toArray, List.set_cons_succ, List.set_cons_zero, List.drop_succ_cons, List.drop_zero, Nat.zero_add, Nat.reduceAdd, hu]
  replace hL0 := hL0.call (below_drew hb1)
  have hHd := hL0.get _ _ List.mem_cons_self
  have hA := hL0.fc
  simp only [fcG, cellsF, neK, and_true, ne_eq, Nat.zero_add, Nat.reduceAdd] at hA
  have hP := hL0.put 0 (w.heap.size + 1 + 1) _ rfl [.bool d, .slice ao k c] rfl
  simp only [setAll, List.set_cons_zero, List.set_cons_succ] at hP
  generalize hput1 : ((w1.setCell ⟨w.heap.size + 1 + 1, 0, none⟩ (.bool d)).setCell ⟨w.heap.size + 1 + 1, 1, none⟩ (.slice ao k c)) = x3 at hP
  have hB1 := hP.fc
  simp only [fcG, cellsF, neK, and_true, ne_eq, Nat.zero_add, Nat.reduceAdd] at hB1
  replace hL0 := hP
  have hvF := sl_upd hru (show Upd (w.heap.size + 1 + 1) w1 x3 by rw [← hput1]; exact ((Upd.refl _ _).setCell 0 _).setCell 1 _) hHd (by intro v hv n; simp only [List.mem_cons, List.not_mem_nil, or_false] at hv; rcases hv with rfl | rfl <;> simp)
  replace hvF := Lib.hid hvF
  clear hru hHd hb1 ha hb HA
  generalize v 0 = y0 at *
  generalize v 1 = y1 at *
  generalize v 2 = y2 at *
  generalize v 3 = y3 at *
  generalize v 4 = y4 at *
  generalize v 5 = y5 at *
  generalize v 6 = y6 at *
  clear hu v
  go_wp2_with fail
  exact bodyPost_ret (v := .agg #[.bool d, .slice ao k c]) (by simp [results, Tryz.results29, go_sem, hB1]) rfl ⟨⟨_, by rw [hd.out], hvF.out⟩, hL0.bl⟩
end Go.Proofs.YtdmoadfnogdfnaaGreatDoor
namespace Go.Proofs.YtdmoadfnogdfnaaGreatDoor
open Go.RowKit Go.Proofs.YtdmoadfnogdfnaaGreatDoor.Rx
theorem rzaddI (vx vy : Value) (x y : Int) (lx : (td x.natAbs).length ≤ 1000000) (ly : (td y.natAbs).length ≤ 1000000) (w : World) (hx : RZ w vx x) (hy : RZ w vy y) :
  Calls Tryz.prog 29 #[vx, vy] w fun e w' => ∃ v, e = .returned v ∧ RZ w' v (x + y) ∧ Below w.heap.size w w' := by
 obtain ⟨va, rfl, ha⟩ := hx
 obtain ⟨vb, rfl, hb⟩ := hy
 by_cases hs : decide (x < 0) = decide (y < 0)
 ·have hxy : x < 0 ↔ y < 0 := by simpa using hs
  rw [← hs]
  refine (rzadd_same _ va vb _ _ lx ly w ha hb).mono fun e w' ⟨⟨v, h1, h2⟩, h3⟩ => ⟨_, h1, RZ.of h2 ?_ ?_, h3⟩
  ·by_cases h0 : x < 0
   ·rw [decide_eq_true h0, decide_eq_true (p := x + y < 0) (by omega), Bool.true_and]; exact decide_eq_true (by omega)
   ·rw [decide_eq_false h0, Bool.false_and]; exact (decide_eq_false (by omega)).symm
  ·omega
 ·have hxy : ¬ (x < 0 ↔ y < 0) := fun h => hs (by simpa using h)
  rcases Nat.lt_or_ge x.natAbs y.natAbs with hl | hl
  ·refine (rzadd_lt _ _ va vb _ _ lx ly hs hl w ha hb).mono fun e w' ⟨⟨v, h1, h2⟩, h3⟩ => ⟨_, h1, RZ.of h2 ?_ ?_, h3⟩
   ·by_cases h0 : y < 0
    ·rw [decide_eq_true h0, decide_eq_true (p := x + y < 0) (by omega), Bool.true_and]; exact decide_eq_true (by omega)
    ·rw [decide_eq_false h0, Bool.false_and]; exact (decide_eq_false (by omega)).symm
   ·omega
  ·refine (rzadd_ge _ _ va vb _ _ lx ly hs hl w ha hb).mono fun e w' ⟨⟨v, h1, h2⟩, h3⟩ => ⟨_, h1, RZ.of h2 ?_ ?_, h3⟩
   ·by_cases h0 : x < 0
    ·rw [decide_eq_true h0, Bool.true_and]
     by_cases h4 : x + y < 0
     ·rw [decide_eq_true h4]; exact decide_eq_true (by omega)
     ·rw [decide_eq_false h4]; exact decide_eq_false (by omega)
    ·rw [decide_eq_false h0, Bool.false_and]; exact (decide_eq_false (by omega)).symm
   ·omega
end Go.Proofs.YtdmoadfnogdfnaaGreatDoor
namespace Go.Proofs.YtdmoadfnogdfnaaGreatDoor
open Go.RowKit Go.Proofs.YtdmoadfnogdfnaaGreatDoor.Rx
theorem stays_rz (z : Int) : Stays (fun u w => RZ w u z) := fun _ _ _ hb h => h.below hb
theorem tyAt_yes {P : Program} {ops : Array Oper} {o : Oper} {a : Act} {w : World} {T : Value → World → Prop} (hg : Region.wanted o (yielded ops a.tmps) = true) (h : tyUpon P w T ((execOp a.eval o).run P w)) : TyAt P ops o a w T := by
 unfold TyAt
 rw [if_pos hg]; exact h
abbrev PZ (x : Int) : Value → World → Prop := fun u w => RZ w u x
end Go.Proofs.YtdmoadfnogdfnaaGreatDoor
namespace Go.Proofs.YtdmoadfnogdfnaaGreatDoor
open Go.RowKit Go.Proofs.YtdmoadfnogdfnaaGreatDoor.Rx
attribute [local irreducible] lo hs sm s64 c64 d64 b64 mh ml pd pc qd qc val hiB str cmpI srD lz nb isq decB zl zh zs dval tln
set_option maxHeartbeats 4000000 in
set_option maxRecDepth 100000 in
theorem rzof_pos (v d z : Int) (n : Nat) (HO : ∀ (w : World), Calls Tryz.prog 152 #[.int .u64 d] w fun e w' => ∃ pv, e = .returned pv ∧ Rn w' pv n ∧ Below w.heap.size w w') (HF : ∀ (p1 : Value) (w : World), Rn w p1 n → Calls Tryz.prog 123 #[.bool false, p1] w fun e w' => ∃ pv, e = .returned pv ∧ RZ w' pv z ∧ Below w.heap.size w w') (h0 : decide (v < 0) = false) (h3 : IntKind.u64.wrap v = d) (w : World) :
  Calls Tryz.prog 135 #[.int .i64 v] w fun e w' => ∃ pv, e = .returned pv ∧ RZ w' pv z ∧ Below w.heap.size w w' := by
 replace HO := Lib.hid HO
 replace HF := Lib.hid HF
 have hL0 : GL w w [] := GL.start w
 have hS : SS w [] := SS.nil w
 replace hS := (hS.new (.cells #[.bool false, .slice none 0 0] 44))
 replace hL0 := (hL0.new rfl [.bool false, .slice none 0 0] 44)
 generalize hweq : (w.alloc (.cells #[.bool false, .slice none 0 0] 44)) = x1 at hL0 hS
 go_enter Tryz.func135, Tryz.ntmps135
 go_wp2_with fail
 with_reducible refine Calls.mono (HO.out _) ?_
 rintro e x2 ⟨v0, rfl, q0, hb⟩
 replace hL0 := hL0.call hb
 replace hS := hS.call hb
 clear hb hweq
 obtain ⟨g1, d1, rfl⟩ := rn_form q0
 replace hS := hS.cons q0
 clear q0
 go_wp2_with fail
 with_reducible refine Calls.mono (HF.out (.slice g1 (tln n) d1) _ (hS.get List.mem_cons_self)) ?_
 rintro e x3 ⟨v0, rfl, q0, hb⟩
 replace hL0 := hL0.call hb
 replace hS := hS.call hb
 clear hb
 obtain ⟨g2, d2, rfl⟩ := rz_form q0
 replace hS := hS.cons (rz_rn q0)
 clear q0
 have hS1 := hS.put (((Upd.refl w.heap.size x3).setCell 0 (.bool (zs z))).setCell 1 (.slice g2 (tln z.natAbs) d2)) (hL0.get _ _ List.mem_cons_self) (by intro v hv n; simp only [List.mem_cons, List.not_mem_nil, or_false] at hv; rcases hv with rfl | rfl <;> simp)
 have hA := hL0.fc
 simp only [fcG, cellsF, neK, and_true, ne_eq, Nat.zero_add, Nat.reduceAdd] at hA
 have hP := hL0.put 0 (w.heap.size) _ rfl [.bool (zs z), .slice g2 (tln z.natAbs) d2] rfl
 simp only [setAll, List.set_cons_zero, List.set_cons_succ] at hP
 generalize hput1 : ((x3.setCell ⟨w.heap.size, 0, none⟩ (.bool (zs z))).setCell ⟨w.heap.size, 1, none⟩ (.slice g2 (tln z.natAbs) d2)) = x4 at hP hS1
 have hB1 := hP.fc
 simp only [fcG, cellsF, neK, and_true, ne_eq, Nat.zero_add, Nat.reduceAdd] at hB1
 replace hL0 := hP
 replace hS := hS1
 clear hS1
 go_wp2_with fail
 exact bodyPost_ret (v := .agg #[.bool (zs z), .slice g2 (tln z.natAbs) d2]) (by simp [results, Tryz.results135, go_sem, hB1]) rfl ⟨_, rfl, (rz_of (hS.get List.mem_cons_self)), hL0.bl⟩
end Go.Proofs.YtdmoadfnogdfnaaGreatDoor
namespace Go.Proofs.YtdmoadfnogdfnaaGreatDoor
open Go.RowKit
theorem den_one' {a : Rat} : a.den = 1 ↔ (a.floor : Rat) = a := by
 constructor
 ·intro h; rw [rfloor, h]; refine Rat.ext ?_ h.symm; simp
 ·intro h; rw [← h]; rfl
theorem ceil_ge (a : Rat) : a ≤ (rceil a : Rat) := by
 have := Rat.floor_le (-a)
 unfold rceil
 rw [Rat.intCast_neg]
 grind
theorem ceil_lt (a : Rat) : (rceil a : Rat) - 1 < a := by
 have := Rat.lt_floor_add_one (-a)
 unfold rceil
 rw [Rat.intCast_add] at this
 rw [Rat.intCast_neg]
 simp at this ⊢
 grind
theorem frV_inj {m n : Int} {d e : Nat} (h : frV m d = frV n e) : m = n ∧ d = e := by
 simp only [frV, Value.agg.injEq, Array.mk.injEq, List.cons.injEq, Value.int.injEq, Value.string.injEq, Value.bool.injEq, and_true, true_and] at h
 obtain ⟨h1, h2, h3, h4, h5⟩ := h
 exact ⟨intV_inj (by unfold intV; rw [h1, h2, h3]), natV_inj (by unfold natV; rw [h4, h5])⟩
theorem fracV_inj {p q : Rat} (h : fracV p = fracV q) : p = q := by
 obtain ⟨h1, h2⟩ := frV_inj h
 refine Rat.ext h1 ?_
 unfold fe at h2
 have := p.den_nz
 have := q.den_nz
 split at h2 <;> split at h2 <;> omega
theorem Keeps.ws (v : Value) (l : List Nat) : Keeps (fun w => Ws w v l) := fun _ _ hb h => h.below hb
theorem seg_callK {α : Type} {F : α → World} {x : World} {K : World → Prop} (hK : Keeps K) (h1 : ∀ y, Below x.drew.heap.size x.drew (F y)) (h2 : ∀ x W, Below (F x).heap.size (F x) W → ∃ y, W = F y) (hk : K x) {P : Program} {f : FuncId} {args : Array Value} {v : Value}
  (h : ∀ w, K w → Calls P f args w fun e w' => e = .returned v ∧ Below w.heap.size w w') (y : α) : Calls P f args (F y) fun e w'' => e = .returned v ∧ ∃ y, w'' = F y :=
 (h (F y) (hK _ _ (below_drew (h1 y)) hk)).mono fun _ _ ⟨he, hb⟩ => ⟨he, h2 y _ hb⟩
end Go.Proofs.YtdmoadfnogdfnaaGreatDoor
namespace Go.Proofs.YtdmoadfnogdfnaaGreatDoor
open Go.RowKit Go.Proofs.YtdmoadfnogdfnaaGreatDoor.Rx
attribute [local irreducible] lo hs sm s64 c64 d64 b64 mh ml pd pc qd qc val hiB str cmpI srD lz nb isq decB zl zh zs dval tln fd
abbrev PF (q : Rat) : Value → World → Prop := fun u w => RF w u q
theorem stays_rf (q : Rat) : Stays (fun u w => RF w u q) := fun _ _ _ hb h => h.below hb
end Go.Proofs.YtdmoadfnogdfnaaGreatDoor
namespace Go.Proofs.YtdmoadfnogdfnaaGreatDoor
open Go.RowKit
attribute [local irreducible] lo hs sm s64 c64 d64 b64 mh ml pd pc qd qc val hiB str cmpI srD lz nb isq decB zl zh zs
theorem cls_callW {α : Type} {F : α → World} {w0 : World} (h1 : ∀ x, Below w0.heap.size w0 (F x)) (h2 : ∀ W, Below w0.heap.size w0 W → ∃ x, W = F x) {v0 : Value} {l : List Nat} (hw : Ws w0 v0 l) {P : Program} {f : FuncId} {args : Array Value} {v : Value}
  (h : ∀ w, Ws w v0 l → Calls P f args w fun e w' => e = .returned v ∧ Below w.heap.size w w') (x : α) : Calls P f args (F x) fun e w'' => e = .returned v ∧ ∃ y, w'' = F y :=
 (h (F x) (hw.below (h1 x))).mono fun _ _ ⟨he, hb⟩ => ⟨he, h2 _ ((h1 x).trans (hb.mono (h1 x).size))⟩
/-- An integer as plain data. -/
def zmade (s : Bool) (l : List Nat) : Int := if s then -(made l : Int) else (made l : Int)
theorem zmade_dI {s : Bool} {l : List Nat} (h : ∀ x ∈ l, x < 4294967296) : dI (zmade s l) ≤ l.length := by
 unfold zmade
 cases s
 ·simp only [Bool.false_eq_true, if_false, dI_nat]; exact made_digs h
 ·simp only [if_true, dI_neg, dI_nat]; exact made_digs h
set_option maxHeartbeats 4000000 in
set_option maxRecDepth 100000 in
theorem zof_any (s : Bool) (a : Option Addr) (n c : Nat) (l : List Nat) (hl : l.length ≤ 1000) (w : World) (hw : Ws w (.slice a n c) l) :
  Calls Tryz.prog 24 #[.agg #[.bool s, .slice a n c]] w fun e w' => e = .returned (intV (zmade s l)) ∧ Below w.heap.size w w' := by
 have hL0 : GL w w [] := GL.start w
 have HM := Lib.hid (fun w h => made_any (.slice a n c) l hl w h)
 have HF := Lib.hid (fun w => fromI s (made l) (zmade s l) rfl w)
 generalize hz : zmade s l = z at *
 replace hz := Lib.hid hz
 generalize made l = m at *
 clear hl
 replace hL0 := ((hL0.new rfl [.bool s, .slice a n c] 36).new (K := w.heap.size + 1) (szA _ _) [.int .u64 0, .string ⟨#[]⟩, .bool false] 39)
 generalize hweq : ((w.alloc (.cells #[.bool s, .slice a n c] 36)).alloc (.cells #[.int .u64 0, .string ⟨#[]⟩, .bool false] 39)) = x1 at hL0
 have hW := Lib.hid (hw.below hL0.bl)
 clear hw
 go_enter Tryz.func24, Tryz.ntmps24
 have hA := hL0.fc
 simp only [fcG, cellsF, neK, and_true, ne_eq, Nat.zero_add, Nat.reduceAdd] at hA
 go_upto_region 1 with fail
 clear hA
 clear hweq
 obtain ⟨α, iα, F, hF1, hF2⟩ := cls x1
 have hq := GL.fcC hF1 hL0
 simp only [fcC, cellsC, and_true, Nat.zero_add, Nat.reduceAdd] at hq
 refine region_qs 6 (C := fun w' => ∃ x, w' = F x) (by kernel_rfl) (by kernel_rfl) (cls_drew hF2) ?_
 simp only [List.take_succ_cons, List.take_zero, List.drop_succ_cons, List.drop_zero, List.take_nil, List.drop_nil]
 repeat (go_big_quiet_step (first | fail | (go_at_call 97; with_reducible exact cls_callW hF1 hF2 hW.out HM.out _) | (go_at_call 122; with_reducible exact cls_call hF1 hF2 HF.out _)))
 refine wpQuiet_nil ?_
 rintro wq ⟨xq, rfl⟩
 replace hL0 := hL0.call (hF1 xq)
 clear hq hF2
 generalize F xq = x2 at hL0 ⊢
 clear hF1 xq iα F α
 have hA := hL0.fc
 simp only [fcG, cellsF, neK, and_true, ne_eq, Nat.zero_add, Nat.reduceAdd] at hA
 have hP := hL0.put 0 (w.heap.size + 1) _ rfl [.int .u64 ((zl z : Nat) : Int), .string (zh z), .bool (zs z)] rfl
 simp only [setAll, List.set_cons_zero, List.set_cons_succ] at hP
 generalize hput1 : (((x2.setCell ⟨w.heap.size + 1, 0, none⟩ (.int .u64 ((zl z : Nat) : Int))).setCell ⟨w.heap.size + 1, 1, none⟩ (.string (zh z))).setCell ⟨w.heap.size + 1, 2, none⟩ (.bool (zs z))) = x3 at hP
 have hB1 := hP.fc
 simp only [fcG, cellsF, neK, and_true, ne_eq, Nat.zero_add, Nat.reduceAdd] at hB1
 replace hL0 := hP
 go_wp2_with fail
 exact bodyPost_ret (v := intV z) (by simp [results, Tryz.results24, go_sem, hB1]) rfl ⟨rfl, hL0.bl⟩
end Go.Proofs.YtdmoadfnogdfnaaGreatDoor
namespace Go.Proofs.YtdmoadfnogdfnaaGreatDoor
open Go.RowKit
attribute [local irreducible] lo hs sm s64 c64 d64 b64 mh ml pd pc qd qc val hiB str cmpI srD lz nb isq decB zl zh zs dval
end Go.Proofs.YtdmoadfnogdfnaaGreatDoor
namespace Go.Proofs.YtdmoadfnogdfnaaGreatDoor
open Go.RowKit
attribute [local irreducible] lo hs zl zh zs
end Go.Proofs.YtdmoadfnogdfnaaGreatDoor
namespace Go.Proofs.YtdmoadfnogdfnaaGreatDoor
open Go.RowKit
attribute [local irreducible] lo hs sm s64 c64 d64 b64 mh ml pd pc qd qc val hiB str cmpI srD lz nb isq decB zl zh zs
set_option maxHeartbeats 4000000 in
set_option maxRecDepth 100000 in
theorem fpower_num (n : Int) (e a x : Nat) (k : Int) (HA : RT 40 #[intV n] (natV a)) (HP : RT 115 #[natV a, .int .i64 k] (.tuple #[natV x, .int .i64 3])) (w : World) :
  Calls Tryz.prog 154 #[frV n e, .int .i64 k] w fun xe w' => xe = .returned (.tuple #[.agg #[.int .u64 0, .string ⟨#[]⟩, .bool false, .int .u64 0, .string ⟨#[]⟩], .int .i64 3]) ∧ Below w.heap.size w w' := by
 have hL0 : GL w w [] := GL.start w
 replace HA := Lib.hid HA
 replace HP := Lib.hid HP
 replace hL0 := ((hL0.new rfl [.int .u64 ((zl n : Nat) : Int), .string (zh n), .bool (zs n), .int .u64 ((lo e : Nat) : Int), .string (hs e)] 79).new (K := w.heap.size + 1) (szA _ _) [.int .u64 0, .string ⟨#[]⟩, .bool false, .int .u64 0, .string ⟨#[]⟩] 79)
 generalize hweq : ((w.alloc (.cells #[.int .u64 ((zl n : Nat) : Int), .string (zh n), .bool (zs n), .int .u64 ((lo e : Nat) : Int), .string (hs e)] 79)).alloc (.cells #[.int .u64 0, .string ⟨#[]⟩, .bool false, .int .u64 0, .string ⟨#[]⟩] 79)) = x1 at hL0
 go_enter Tryz.func154, Tryz.ntmps154
 have hN0 := cells_of _ 0 [] rfl (hL0.get _ _ (List.mem_cons_of_mem _ List.mem_cons_self))
 simp only [cellsF, and_true, Nat.zero_add, Nat.reduceAdd] at hN0
 go_wp2_with fail
 clear hN0
 with_reducible refine Calls.mono (HA.out _) ?_
 rintro e x2 ⟨rfl, hb⟩
 replace hL0 := hL0.call hb
 clear hb hweq
 go_wp2_with fail
 with_reducible refine Calls.mono (HP.out _) ?_
 rintro e x3 ⟨rfl, hb⟩
 replace hL0 := hL0.call hb
 clear hb
 replace hL0 := (hL0.new rfl [.int .u64 ((lo x : Nat) : Int), .string (hs x)] 32)
 generalize hweq : (x3.alloc (.cells #[.int .u64 ((lo x : Nat) : Int), .string (hs x)] 32)) = x4 at hL0
 have hA := hL0.fc
 simp only [fcG, cellsF, neK, and_true, ne_eq, Nat.zero_add, Nat.reduceAdd] at hA
 have hP := hL0.put 1 (w.heap.size + 1) _ rfl [.int .u64 0, .string ⟨#[]⟩, .bool false, .int .u64 0, .string ⟨#[]⟩] rfl
 simp only [setAll, List.set_cons_zero, List.set_cons_succ] at hP
 generalize hput1 : (((((x4.setCell ⟨w.heap.size + 1, 0, none⟩ (.int .u64 0)).setCell ⟨w.heap.size + 1, 1, none⟩ (.string ⟨#[]⟩)).setCell ⟨w.heap.size + 1, 2, none⟩ (.bool false)).setCell ⟨w.heap.size + 1, 3, none⟩ (.int .u64 0)).setCell ⟨w.heap.size + 1, 4, none⟩ (.string ⟨#[]⟩)) = x5 at hP
 have hB1 := hP.fc
 simp only [fcG, cellsF, neK, and_true, ne_eq, Nat.zero_add, Nat.reduceAdd] at hB1
 replace hL0 := hP
 go_wp2_with fail
 exact bodyPost_ret (v := .tuple #[.agg #[.int .u64 0, .string ⟨#[]⟩, .bool false, .int .u64 0, .string ⟨#[]⟩], .int .i64 3]) (by simp [results, Tryz.results154, go_sem, hB1]) rfl ⟨rfl, hL0.bl⟩
set_option maxHeartbeats 4000000 in
set_option maxRecDepth 100000 in
theorem fpower_den (n : Int) (e a d x y : Nat) (k : Int) (HA : RT 40 #[intV n] (natV a)) (HP : RT 115 #[natV a, .int .i64 k] (.tuple #[natV x, .int .i64 0])) (HD : RT 148 #[frV n e] (natV d)) (HQ : RT 115 #[natV d, .int .i64 k] (.tuple #[natV y, .int .i64 3])) (w : World) :
  Calls Tryz.prog 154 #[frV n e, .int .i64 k] w fun xe w' => xe = .returned (.tuple #[.agg #[.int .u64 0, .string ⟨#[]⟩, .bool false, .int .u64 0, .string ⟨#[]⟩], .int .i64 3]) ∧ Below w.heap.size w w' := by
 have hL0 : GL w w [] := GL.start w
 replace HA := Lib.hid HA
 replace HP := Lib.hid HP
 replace HD := Lib.hid HD
 replace HQ := Lib.hid HQ
 replace hL0 := ((hL0.new rfl [.int .u64 ((zl n : Nat) : Int), .string (zh n), .bool (zs n), .int .u64 ((lo e : Nat) : Int), .string (hs e)] 79).new (K := w.heap.size + 1) (szA _ _) [.int .u64 0, .string ⟨#[]⟩, .bool false, .int .u64 0, .string ⟨#[]⟩] 79)
 generalize hweq : ((w.alloc (.cells #[.int .u64 ((zl n : Nat) : Int), .string (zh n), .bool (zs n), .int .u64 ((lo e : Nat) : Int), .string (hs e)] 79)).alloc (.cells #[.int .u64 0, .string ⟨#[]⟩, .bool false, .int .u64 0, .string ⟨#[]⟩] 79)) = x1 at hL0
 go_enter Tryz.func154, Tryz.ntmps154
 have hN0 := cells_of _ 0 [] rfl (hL0.get _ _ (List.mem_cons_of_mem _ List.mem_cons_self))
 simp only [cellsF, and_true, Nat.zero_add, Nat.reduceAdd] at hN0
 go_wp2_with fail
 clear hN0
 with_reducible refine Calls.mono (HA.out _) ?_
 rintro e x2 ⟨rfl, hb⟩
 replace hL0 := hL0.call hb
 clear hb hweq
 go_wp2_with fail
 with_reducible refine Calls.mono (HP.out _) ?_
 rintro e x3 ⟨rfl, hb⟩
 replace hL0 := hL0.call hb
 clear hb
 replace hL0 := (hL0.new rfl [.int .u64 ((lo x : Nat) : Int), .string (hs x)] 32)
 generalize hweq : (x3.alloc (.cells #[.int .u64 ((lo x : Nat) : Int), .string (hs x)] 32)) = x4 at hL0
 have hN0 := cells_of _ 0 [] rfl (hL0.get _ _ (List.mem_cons_of_mem _ (List.mem_cons_of_mem _ List.mem_cons_self)))
 simp only [cellsF, and_true, Nat.zero_add, Nat.reduceAdd] at hN0
 go_wp2_with fail
 clear hN0
 with_reducible refine Calls.mono (HD.out _) ?_
 rintro e x5 ⟨rfl, hb⟩
 replace hL0 := hL0.call hb
 clear hb hweq
 go_wp2_with fail
 with_reducible refine Calls.mono (HQ.out _) ?_
 rintro e x6 ⟨rfl, hb⟩
 replace hL0 := hL0.call hb
 clear hb
 replace hL0 := (hL0.new rfl [.int .u64 ((lo y : Nat) : Int), .string (hs y)] 32)
 generalize hweq : (x6.alloc (.cells #[.int .u64 ((lo y : Nat) : Int), .string (hs y)] 32)) = x7 at hL0
 have hA := hL0.fc
 simp only [fcG, cellsF, neK, and_true, ne_eq, Nat.zero_add, Nat.reduceAdd] at hA
 have hP := hL0.put 2 (w.heap.size + 1) _ rfl [.int .u64 0, .string ⟨#[]⟩, .bool false, .int .u64 0, .string ⟨#[]⟩] rfl
 simp only [setAll, List.set_cons_zero, List.set_cons_succ] at hP
 generalize hput1 : (((((x7.setCell ⟨w.heap.size + 1, 0, none⟩ (.int .u64 0)).setCell ⟨w.heap.size + 1, 1, none⟩ (.string ⟨#[]⟩)).setCell ⟨w.heap.size + 1, 2, none⟩ (.bool false)).setCell ⟨w.heap.size + 1, 3, none⟩ (.int .u64 0)).setCell ⟨w.heap.size + 1, 4, none⟩ (.string ⟨#[]⟩)) = x8 at hP
 have hB1 := hP.fc
 simp only [fcG, cellsF, neK, and_true, ne_eq, Nat.zero_add, Nat.reduceAdd] at hB1
 replace hL0 := hP
 go_wp2_with fail
 exact bodyPost_ret (v := .tuple #[.agg #[.int .u64 0, .string ⟨#[]⟩, .bool false, .int .u64 0, .string ⟨#[]⟩], .int .i64 3]) (by simp [results, Tryz.results154, go_sem, hB1]) rfl ⟨rfl, hL0.bl⟩
end Go.Proofs.YtdmoadfnogdfnaaGreatDoor
namespace Go.Proofs.YtdmoadfnogdfnaaGreatDoor
open Go.RowKit
attribute [local irreducible] lo hs sm s64 c64 d64 b64 mh ml pd pc qd qc val hiB str cmpI srD lz nb isq decB zl zh zs
theorem wholeF (q : Rat) (w : World) : Calls Tryz.prog 83 #[fracV q] w fun x w' => x = .returned (.bool (decide (q.den = 1))) ∧ Below w.heap.size w w' := by
 have h := whole_raw q.num (fe q) w
 have e : (fe q = 0) = (q.den = 1) := by
  unfold fe
  have := q.den_nz
  split <;> simp_all
 rw [decide_eq_decide.2 (Iff.of_eq e)] at h
 exact h
end Go.Proofs.YtdmoadfnogdfnaaGreatDoor
namespace Go.Proofs.YtdmoadfnogdfnaaGreatDoor
open Go.RowKit
attribute [local irreducible] lo hs sm s64 c64 d64 b64 mh ml pd pc qd qc val hiB str cmpI srD lz nb isq decB zl zh zs
set_option maxHeartbeats 4000000 in
set_option maxRecDepth 100000 in
theorem gden_w (s : Bool) (a b : Option Addr) (n c m d : Nat) (w : World) :
  Calls Tryz.prog 140 #[.agg #[.bool s, .slice a n c, .slice b m d]] w fun xe w' => xe = .returned (.agg #[.bool false, .slice b m d]) ∧ Below w.heap.size w w' := by
 have hL0 : GL w w [] := GL.start w
 replace hL0 := ((hL0.new rfl [.bool s, .slice a n c, .slice b m d] 76).new (K := w.heap.size + 1) (szA _ _) [.bool false, .slice b m d] 36)
 generalize hweq : ((w.alloc (.cells #[.bool s, .slice a n c, .slice b m d] 76)).alloc (.cells #[.bool false, .slice b m d] 36)) = x1 at hL0
 go_enter Tryz.func140, Tryz.ntmps140
 have hN0 := cells_of _ 0 [] rfl (hL0.get _ _ List.mem_cons_self)
 simp only [cellsF, and_true, Nat.zero_add, Nat.reduceAdd] at hN0
 have hN1 := cells_of _ 0 [] rfl (hL0.get _ _ (List.mem_cons_of_mem _ List.mem_cons_self))
 simp only [cellsF, and_true, Nat.zero_add, Nat.reduceAdd] at hN1
 go_wp2_with fail
 exact bodyPost_ret (v := .agg #[.bool false, .slice b m d]) (by simp [results, Tryz.results140, go_sem, hN0 ,hN1]) rfl ⟨rfl, hL0.bl⟩
set_option maxHeartbeats 4000000 in
set_option maxRecDepth 100000 in
theorem gof_w (s : Bool) (a b : Option Addr) (n c m d : Nat) (y z x : Int) (p q e : Nat) (K : World → Prop) (hK : Keeps K) (HZ : RK K 24 #[.agg #[.bool s, .slice a n c]] (intV z)) (HD : RT 140 #[.agg #[.bool s, .slice a n c, .slice b m d]] (.agg #[.bool false, .slice b m d])) (L : World → Prop) (hL : Keeps L) (HY : RK L 24 #[.agg #[.bool false, .slice b m d]] (intV y)) (HA : RT 40 #[intV y] (natV p)) (HO : RT 81 #[.int .u64 1] (natV 1)) (HP : RT 102 #[natV p, natV 1] (natV q)) (HF : RT 80 #[intV z, natV q] (.tuple #[frV x e, .int .i64 0])) (w : World) (kK : K w) (kL : L w) :
  Calls Tryz.prog 55 #[.agg #[.bool s, .slice a n c, .slice b m d]] w fun xe w' => xe = .returned (frV x e) ∧ Below w.heap.size w w' := by
 have hL0 : GL w w [] := GL.start w
 replace hK := Lib.hid hK
 replace HZ := Lib.hid HZ
 replace HD := Lib.hid HD
 replace hL := Lib.hid hL
 replace HY := Lib.hid HY
 replace HA := Lib.hid HA
 replace HO := Lib.hid HO
 replace HP := Lib.hid HP
 replace HF := Lib.hid HF
 replace hL0 := ((hL0.new rfl [.bool s, .slice a n c, .slice b m d] 76).new (K := w.heap.size + 1) (szA _ _) [.int .u64 0, .string ⟨#[]⟩, .bool false, .int .u64 0, .string ⟨#[]⟩] 79)
 generalize hweq : ((w.alloc (.cells #[.bool s, .slice a n c, .slice b m d] 76)).alloc (.cells #[.int .u64 0, .string ⟨#[]⟩, .bool false, .int .u64 0, .string ⟨#[]⟩] 79)) = x1 at hL0
 go_enter Tryz.func55, Tryz.ntmps55
 go_upto_region 1 with fail
 have kK1 := hK.out.at hL0.bl kK
 have kL1 := hL.out.at hL0.bl kL
 clear hweq
 refine region_gh (by kernel_rfl) (by kernel_rfl) ?_
 refine lex_seg (gl := []) 13 (by kernel_rfl) ?_
 intro α iα F hF1 hF2
 have hq := GL.seg hF1 hL0
 simp only [fcC, cellsC, and_true, Nat.zero_add, Nat.reduceAdd] at hq
 simp only [List.take_succ_cons, List.take_zero, List.drop_succ_cons, List.drop_zero, List.take_nil, List.drop_nil]
 repeat (go_big_quiet_step (first | fail | (go_at_call 24; with_reducible exact seg_callK hK.out hF1 hF2 kK1 HZ.out _) | (go_at_call 140; with_reducible exact seg_call hF2 HD.out _) | (go_at_call 24; with_reducible exact seg_callK hL.out hF1 hF2 kL1 HY.out _) | (go_at_call 40; with_reducible exact seg_call hF2 HA.out _) | (go_at_call 81; with_reducible exact seg_call hF2 HO.out _) | (go_at_call 102; with_reducible exact seg_call hF2 HP.out _) | (go_at_call 80; with_reducible exact seg_call hF2 HF.out _)))
 refine wpQuiet_nil ?_
 clear hq hF1 hF2 iα F α
 refine lex_new [.int .u64 0, .string ⟨#[]⟩, .bool false, .int .u64 0, .string ⟨#[]⟩] 3 79 79 rfl rfl (of_decide_eq_true (by kernel_rfl)) (by kernel_rfl) rfl new_frac ?_
 simp only [Act.put, List.setIfInBounds_toArray, List.set_cons_succ, List.set_cons_zero]
 refine lex_put [.int .u64 ((zl x : Nat) : Int), .string (zh x), .bool (zs x), .int .u64 ((lo e : Nat) : Int), .string (hs e)] [.int .u64 0, .string ⟨#[]⟩, .bool false, .int .u64 0, .string ⟨#[]⟩] 3 79 (.tmp 16) rfl (by kernel_rfl) (by simp [toG, upd]) rfl (fun w k h => put_frac _ _ _ _ _ _ _ _ _ _ w k h) ?_
 simp only [Act.put]
 refine lex_seg (gl := [(3, [.int .u64 ((zl x : Nat) : Int), .string (zh x), .bool (zs x), .int .u64 ((lo e : Nat) : Int), .string (hs e)], true), (3, [.int .u64 0, .string ⟨#[]⟩, .bool false, .int .u64 0, .string ⟨#[]⟩], false)]) 1 (by kernel_rfl) ?_
 intro α iα F hF1 hF2
 have hq := GL.seg hF1 hL0
 simp only [fcC, cellsC, and_true, Nat.zero_add, Nat.reduceAdd] at hq
 simp only [List.take_succ_cons, List.take_zero, List.drop_succ_cons, List.drop_zero, List.take_nil, List.drop_nil]
 repeat (go_big_quiet_step (first | fail | (go_at_call 24; with_reducible exact seg_callK hK.out hF1 hF2 kK1 HZ.out _) | (go_at_call 140; with_reducible exact seg_call hF2 HD.out _) | (go_at_call 24; with_reducible exact seg_callK hL.out hF1 hF2 kL1 HY.out _) | (go_at_call 40; with_reducible exact seg_call hF2 HA.out _) | (go_at_call 81; with_reducible exact seg_call hF2 HO.out _) | (go_at_call 102; with_reducible exact seg_call hF2 HP.out _) | (go_at_call 80; with_reducible exact seg_call hF2 HF.out _)))
 refine wpQuiet_nil ?_
 clear hq hF1 hF2 iα F α
 refine lexG_nil ?_
 intro κ x2 hS
 replace hL0 := hL0.ghs hS [(3, [.int .u64 ((zl x : Nat) : Int), .string (zh x), .bool (zs x), .int .u64 ((lo e : Nat) : Int), .string (hs e)])] (by simp) (by intro p hp; simp only [List.mem_cons, List.not_mem_nil, or_false] at hp; rcases hp with rfl <;> exact ⟨_, by simp only [toG, upd]; rfl⟩)
 simp only [List.map_cons, List.map_nil, List.cons_append, List.nil_append] at hL0
 simp only [over_toG, over_nil, Act.put, List.setIfInBounds_toArray, List.set_cons_succ, List.set_cons_zero]
 clear hS
 generalize κ 3 = k2_3 at *
 clear kK1 kL1
 have hA := hL0.fc
 simp only [fcG, cellsF, neK, and_true, ne_eq, Nat.zero_add, Nat.reduceAdd] at hA
 have hP := hL0.put 1 (w.heap.size + 1) _ rfl [.int .u64 ((zl x : Nat) : Int), .string (zh x), .bool (zs x), .int .u64 ((lo e : Nat) : Int), .string (hs e)] rfl
 simp only [setAll, List.set_cons_zero, List.set_cons_succ] at hP
 generalize hput1 : (((((x2.setCell ⟨w.heap.size + 1, 0, none⟩ (.int .u64 ((zl x : Nat) : Int))).setCell ⟨w.heap.size + 1, 1, none⟩ (.string (zh x))).setCell ⟨w.heap.size + 1, 2, none⟩ (.bool (zs x))).setCell ⟨w.heap.size + 1, 3, none⟩ (.int .u64 ((lo e : Nat) : Int))).setCell ⟨w.heap.size + 1, 4, none⟩ (.string (hs e))) = x3 at hP
 have hB1 := hP.fc
 simp only [fcG, cellsF, neK, and_true, ne_eq, Nat.zero_add, Nat.reduceAdd] at hB1
 replace hL0 := hP
 go_wp2_with fail
 exact bodyPost_ret (v := frV x e) (by simp [results, Tryz.results55, go_sem, hB1]) rfl ⟨rfl, hL0.bl⟩
end Go.Proofs.YtdmoadfnogdfnaaGreatDoor
namespace Go.Proofs.YtdmoadfnogdfnaaGreatDoor
open Go.RowKit
attribute [local irreducible] lo hs sm s64 c64 d64 b64 mh ml pd pc qd qc val hiB str cmpI srD lz nb isq decB zl zh zs
theorem powerF_over (q : Rat) (k : Nat) (h0 : 0 < k) (hk : k ≤ 4096) (hg : 262144 / k < nb q.num.natAbs ∨ 262144 / k < nb q.den) (m : Nat) (hq : Sz q m) (hm : m ≤ 100000000) (w : World) :
  Calls Tryz.prog 154 #[fracV q, .int .i64 (k : Int)] w fun x w' => x = .returned (.tuple #[fracV 0, .int .i64 3]) ∧ Below w.heap.size w w' := by
 rw [show fracV 0 = frV 0 0 from rfl, frV_00]
 by_cases hn : 262144 / k < nb q.num.natAbs
 ·exact fpower_num q.num (fe q) _ 0 _ (fun w => absI q.num w) (fun w => pow_over q.num.natAbs k h0 hk hn (Nat.le_trans hq.1 (by omega)) w) w
 ·exact fpower_den q.num (fe q) _ q.den _ 0 _ (fun w => absI q.num w) (fun w => pow_ok q.num.natAbs k hk (.inr (by omega)) (Nat.le_trans hq.1 (by omega)) w) (denF q) (fun w => pow_over q.den k h0 hk (hg.resolve_left hn) (Nat.le_trans hq.2 (by omega)) w) w
end Go.Proofs.YtdmoadfnogdfnaaGreatDoor
namespace Go.Proofs.YtdmoadfnogdfnaaGreatDoor.Rx
open Go.RowKit
attribute [local irreducible] tv dg cmpI txt decB nb
set_option maxHeartbeats 4000000 in
set_option maxRecDepth 100000 in
theorem rbits_any (v : Value) (a : Nat) (hl : (td a).length ≤ 1000) (hnb : nb a ≤ 1000000) (w : World) (ha : Rn w v a) :
  Calls Tryz.prog 84 #[v] w fun e w' => e = .returned (.int .i64 ((nb a : Nat) : Int)) ∧ Below w.heap.size w w' := by
 have O1 := Lib.hid (fun w => rof_val 1 1 rfl (by omega) w)
 have ht : ∀ i, i ≤ nb a → (td (2 ^ i)).length ≤ 1001 := fun i hi => by
  rcases Nat.eq_zero_or_pos i with h0 | h0
  ·rw [h0, Nat.pow_zero, td_one]; omega
  ·have hne : a ≠ 0 := fun e => by rw [e, nb_zero] at hi; omega
   obtain ⟨k, h1, h2, -⟩ := nb_spec hne
   have h3 : 2 ^ i ≤ a + a := by
    have : 2 ^ i ≤ 2 ^ (k + 1) := Nat.pow_le_pow_right (by omega) (by omega)
    rw [Nat.pow_succ] at this; omega
   exact Nat.le_trans (td_mono h3) (td_add_le hl hl)
 have A := Lib.hid (fun i (hi : i ≤ nb a) vx w' (hx : Rn w' vx (2 ^ i)) => radd_any vx vx (2 ^ i) (2 ^ i) (Nat.le_trans (ht i hi) (by omega)) (Nat.le_trans (ht i hi) (by omega)) w' hx hx)
 have C := Lib.hid (fun i (hi : i ≤ nb a) vx w' (hx : Rn w' vx (2 ^ i)) (hv : Rn w' v a) => rcmp_any vx v (2 ^ i) a (Nat.le_trans (ht i hi) (by omega)) (by omega) w' hx hv)
 have hlow : ∀ i, i < nb a → 2 ^ i ≤ a := fun i hi => by
  have hne : a ≠ 0 := fun e => by rw [e, nb_zero] at hi; omega
  obtain ⟨k, h1, h2, -⟩ := nb_spec hne
  exact Nat.le_trans (Nat.pow_le_pow_right (by omega) (show i ≤ k by omega)) h2
 have hhigh := nb_lt a
 replace hlow := Lib.hid hlow
 replace hhigh := Lib.hid hhigh
 replace ha := Lib.hid ha
 clear ht
 obtain ⟨n, hn⟩ : ∃ n, n = nb a := ⟨_, rfl⟩
 rw [← hn] at A C hlow hhigh hnb ⊢
 clear hn
 go_enter Tryz.func84, Tryz.ntmps84
 go_wp2_with fail
 with_reducible refine Calls.mono (O1.out _) ?_
 rintro e w1 ⟨v1, rfl, hv1, hb1⟩
 have hv1' := Lib.hid hv1
 clear hv1
 go_wp2_with fail
 go_loopw [3, 4] (fun j u wr => ∃ i : Nat, i ≤ n ∧ j = .int .i64 (i : Int) ∧ Rn wr u (2 ^ i) ∧ Below w.heap.size w wr) (fun j _ _ => n - (intOf j).toNat)
 case atStart => exact ⟨0, Nat.zero_le _, rfl, by rw [Nat.pow_zero]; exact hv1'.out, hb1⟩
 case round =>
  obtain ⟨i, hi, rfl, hu, hbl⟩ := hrel
  replace hu := Lib.hid hu
  have hib : (i : Int) ≤ 1000000 := by omega
  rcases Nat.lt_or_ge i n with hlt | hge
  ·have k1 : decide (cmpI (2 ^ i) a ≤ 0) = true := decide_eq_true (by have := hlow.out i hlt; unfold cmpI; split <;> (try split) <;> omega)
   have C1 := Lib.hid (fun vx w' hx hv => C.out i hi vx w' hx hv)
   generalize cmpI (2 ^ i) a = z at *
   go_wp2_with fail
   with_reducible refine Calls.mono (C1.out _ _ hu.out (ha.out.below hbl)) ?_
   rintro e w2 ⟨rfl, hb2⟩
   have hu2 := Lib.hid (hu.out.below hb2)
   have hbl2 := hbl.trans (hb2.mono hbl.size)
   clear hb2
   go_wp2_with fail
   with_reducible refine Calls.mono (A.out i hi _ _ hu2.out) ?_
   rintro e w3 ⟨v3, rfl, hv3, hb3⟩
   replace hv3 := Lib.hid hv3
   go_wp2_with fail
   go_roundw
   case rel => exact ⟨i + 1, hlt, by first | rfl | go_num, by rw [Nat.pow_succ, Nat.mul_two]; exact hv3.out, hbl2.trans (hb3.mono hbl2.size)⟩
   case measure => simp [intOf]; omega
  ·obtain rfl : i = n := by omega
   have k1 : decide (cmpI (2 ^ i) a ≤ 0) = false := decide_eq_false (by rw [cmpI_gt hhigh.out]; omega)
   have C1 := Lib.hid (fun vx w' hx hv => C.out i hi vx w' hx hv)
   generalize cmpI (2 ^ i) a = z at *
   go_wp2_with fail
   with_reducible refine Calls.mono (C1.out _ _ hu.out (ha.out.below hbl)) ?_
   rintro e w2 ⟨rfl, hb2⟩
   have hbl2 := hbl.trans (hb2.mono hbl.size)
   clear hb2
   go_wp2_with fail
   go_ret
   exact ⟨rfl, hbl2⟩
end Go.Proofs.YtdmoadfnogdfnaaGreatDoor.Rx
namespace Go.Proofs.YtdmoadfnogdfnaaGreatDoor.Rx
open Go.RowKit
attribute [local irreducible] tv dg cmpI txt decB nb isq
end Go.Proofs.YtdmoadfnogdfnaaGreatDoor.Rx
namespace Go.Proofs.YtdmoadfnogdfnaaGreatDoor
open Go.RowKit Go.Proofs.YtdmoadfnogdfnaaGreatDoor.Rx
attribute [local irreducible] lo hs sm s64 c64 d64 b64 mh ml pd pc qd qc val hiB str cmpI srD lz nb isq decB zl zh zs dval
theorem rzof_one (w : World) : Calls Tryz.prog 135 #[.int .i64 1] w fun e w' => ∃ v, e = .returned v ∧ RZ w' v 1 ∧ Below w.heap.size w w' :=
 rzof_pos 1 1 1 1 one_r (rz_from false 1 1 rfl rfl) (by decide) (by decide) w
end Go.Proofs.YtdmoadfnogdfnaaGreatDoor
namespace Go.Proofs.YtdmoadfnogdfnaaGreatDoor
open Go.RowKit Go.Proofs.YtdmoadfnogdfnaaGreatDoor.Rx
attribute [local irreducible] lo hs sm s64 c64 d64 b64 mh ml pd pc qd qc val hiB str cmpI srD lz nb isq decB zl zh dval txt
theorem dI_le {a b : Int} {k : Nat} (h : a.natAbs ≤ b.natAbs) (hb : dI b ≤ k) : dI a ≤ k := digs_length_iff.2 (Nat.lt_of_le_of_lt h (digs_length_iff.1 hb))
end Go.Proofs.YtdmoadfnogdfnaaGreatDoor
namespace Go.Proofs.YtdmoadfnogdfnaaGreatDoor
open Go.RowKit
attribute [local irreducible] lo hs zl zh zs
/-- few: its slice's structs. -/
structure GW (w : World) (g n : Nat) (len len2 : Nat → Nat) : Prop where
 cell : ∀ i, i < n → ∃ a c, w.cell? ⟨g, i * 3 + 1, none⟩ = some (.slice a (len i) c)
 cell2 : ∀ i, i < n → ∃ a c, w.cell? ⟨g, i * 3 + 2, none⟩ = some (.slice a (len2 i) c)
 lt : n ≤ 1000
set_option maxHeartbeats 4000000 in
set_option maxRecDepth 100000 in
theorem gfew_yes (most : Nat) (g n c : Nat) (len len2 : Nat → Nat) (w : World) (hF : GW w g n len len2) (hn : 0 < n) (hm : most < 1000) (h : ∀ i, i < n → len i ≤ most ∧ len2 i ≤ most) :
  Calls Tryz.prog 53 #[.int .i64 (most : Int), .slice (some ⟨g, 0, none⟩) n c] w fun e w' => e = .returned (.bool true) ∧ w' = w := by
 have hlt := hF.lt
 have hc := Lib.hid hF.cell
 have hd := Lib.hid hF.cell2
 have h := Lib.hid h
 clear hF
 go_enter Tryz.func53, Tryz.ntmps53
 go_wp2_with fail
 go_loopw [5] (fun z wr => ∃ i : Nat, i ≤ n ∧ z = .int .i64 (i : Int) ∧ wr = w) (fun z _ => n - (intOf z).toNat)
 case atStart => exact ⟨0, Nat.zero_le _, rfl, rfl⟩
 case round =>
  obtain ⟨i, hi, rfl, rfl⟩ := hrel
  rcases Nat.lt_or_ge i n with hin | hin
  ·obtain ⟨a, c1, hci⟩ := hc.out i hin
   obtain ⟨a2, c2, hdi⟩ := hd.out i hin
   obtain ⟨hle, hle2⟩ := h.out i hin
   have k1 : (i : Int) < (n : Int) := by omega
   have k2 : decide ((i : Int) < (n : Int)) = true := decide_eq_true k1
   have k3 : decide ((most : Int) < (len i : Int)) = false := decide_eq_false (by omega)
   have k4 : decide ((most : Int) < (len2 i : Int)) = false := decide_eq_false (by omega)
   generalize len i = m at *
   generalize len2 i = m2 at *
   go_wp2_with fail
   go_roundw
   case rel => exact ⟨i + 1, by omega, by first | rfl | go_num, by first | trivial | rfl⟩
   case measure => simp [intOf]; omega
  ·obtain rfl : i = n := by omega
   have k2 : decide ((i : Int) < (i : Int)) = false := decide_eq_false (by omega)
   go_wp2_with fail
   go_ret
   exact ⟨rfl, rfl⟩
set_option maxHeartbeats 4000000 in
set_option maxRecDepth 100000 in
theorem gfew_no (most : Nat) (g n c k : Nat) (len len2 : Nat → Nat) (w : World) (hF : GW w g n len len2) (hk : k < n) (hm : most < 1000) (h : ∀ i, i < k → len i ≤ most ∧ len2 i ≤ most) (hg : most < len k ∨ len k ≤ most ∧ most < len2 k) :
  Calls Tryz.prog 53 #[.int .i64 (most : Int), .slice (some ⟨g, 0, none⟩) n c] w fun e w' => e = .returned (.bool false) ∧ w' = w := by
 have hlt := hF.lt
 have hc := Lib.hid hF.cell
 have hd := Lib.hid hF.cell2
 have h := Lib.hid h
 replace hg := Lib.hid hg
 clear hF
 go_enter Tryz.func53, Tryz.ntmps53
 go_wp2_with fail
 go_loopw [5] (fun z wr => ∃ i : Nat, i ≤ k ∧ z = .int .i64 (i : Int) ∧ wr = w) (fun z _ => n - (intOf z).toNat)
 case atStart => exact ⟨0, Nat.zero_le _, rfl, rfl⟩
 case round =>
  obtain ⟨i, hi, rfl, rfl⟩ := hrel
  have hin : i < n := by omega
  obtain ⟨a, c1, hci⟩ := hc.out i hin
  obtain ⟨a2, c2, hdi⟩ := hd.out i hin
  have k1 : (i : Int) < (n : Int) := by omega
  have k2 : decide ((i : Int) < (n : Int)) = true := decide_eq_true k1
  rcases Nat.lt_or_ge i k with hik | hik
  ·obtain ⟨hle, hle2⟩ := h.out i hik
   have k3 : decide ((most : Int) < (len i : Int)) = false := decide_eq_false (by omega)
   have k4 : decide ((most : Int) < (len2 i : Int)) = false := decide_eq_false (by omega)
   generalize len i = m at *
   generalize len2 i = m2 at *
   go_wp2_with fail
   go_roundw
   case rel => exact ⟨i + 1, by omega, by first | rfl | go_num, by first | trivial | rfl⟩
   case measure => simp [intOf]; omega
  ·obtain rfl : i = k := by omega
   rcases hg.out with hg1 | ⟨hg1, hg2⟩
   ·have k3 : decide ((most : Int) < (len i : Int)) = true := decide_eq_true (by omega)
    generalize len i = m at *
    go_wp2_with fail
    go_ret
    exact ⟨rfl, rfl⟩
   ·have k3 : decide ((most : Int) < (len i : Int)) = false := decide_eq_false (by omega)
    have k4 : decide ((most : Int) < (len2 i : Int)) = true := decide_eq_true (by omega)
    generalize len i = m at *
    generalize len2 i = m2 at *
    go_wp2_with fail
    go_ret
    exact ⟨rfl, rfl⟩
theorem gfew_any (z : Int) (most : Nat) (hz : z = (most : Int)) (g n c : Nat) (len len2 : Nat → Nat) (w : World) (hF : GW w g n len len2) (hn : 0 < n) (hm : most < 1000) (B : Bool) (hB : B = true ↔ ∀ i, i < n → len i ≤ most ∧ len2 i ≤ most) :
  Calls Tryz.prog 53 #[.int .i64 z, .slice (some ⟨g, 0, none⟩) n c] w fun e w' => e = .returned (.bool B) ∧ w' = w := by
 subst hz
 by_cases h : ∀ i, i < n → len i ≤ most ∧ len2 i ≤ most
 ·rw [hB.2 h]; exact gfew_yes most g n c len len2 w hF hn hm h
 ·have hf : B = false := Bool.eq_false_iff.2 fun e => h (hB.1 e)
  rw [hf]
  have ex : ∃ k, k < n ∧ ¬ (len k ≤ most ∧ len2 k ≤ most) := Classical.byContradiction fun hc => h fun i hi => Classical.byContradiction fun hh => hc ⟨i, hi, hh⟩
  have key : ∀ m k, k ≤ m → k < n → ¬ (len k ≤ most ∧ len2 k ≤ most) → ∃ k, k < n ∧ ¬ (len k ≤ most ∧ len2 k ≤ most) ∧ ∀ i, i < k → len i ≤ most ∧ len2 i ≤ most := by
   intro m
   induction m with
   | zero => intro k hk h1 h2; exact ⟨k, h1, h2, fun i hi => by omega⟩
   | succ m ih =>
    intro k hk h1 h2
    by_cases hx : ∀ i, i < k → len i ≤ most ∧ len2 i ≤ most
    ·exact ⟨k, h1, h2, hx⟩
    ·have : ∃ i, i < k ∧ ¬ (len i ≤ most ∧ len2 i ≤ most) := Classical.byContradiction fun hc => hx fun i hi => Classical.byContradiction fun hh => hc ⟨i, hi, hh⟩
     obtain ⟨i, hi, hl⟩ := this
     exact ih i (by omega) (by omega) hl
  obtain ⟨k, h1, h2⟩ := ex
  obtain ⟨k, h1, h2, h3⟩ := key k k (Nat.le_refl _) h1 h2
  exact gfew_no most g n c k len len2 w hF h1 hm h3 (by omega)
theorem gfew1 (z : Int) (most : Nat) (hz : z = (most : Int)) (hm : most < 1000) {w : World} {g : Nat} {s0 : Bool} {a0 b0 : Option Addr} {n0 c0 m0 d0 : Nat} (h : Hd w g [.bool s0, .slice a0 n0 c0, .slice b0 m0 d0]) :
  Calls Tryz.prog 53 #[.int .i64 z, .slice (some ⟨g, 0, none⟩) 1 1] w fun e w' => e = .returned (.bool (decide (n0 ≤ most ∧ m0 ≤ most))) ∧ w' = w :=
 gfew_any z most hz g 1 1 (fun _ => n0) (fun _ => m0) w
  ⟨fun i hi => ⟨a0, c0, by
   obtain rfl : i = 0 := by omega
   exact h.cell 1 (by simp)⟩, fun i hi => ⟨b0, d0, by
   obtain rfl : i = 0 := by omega
   exact h.cell 2 (by simp)⟩, by omega⟩ (by omega) hm _ ⟨fun hb i hi => of_decide_eq_true hb, fun hb => decide_eq_true (hb 0 (by omega))⟩
end Go.Proofs.YtdmoadfnogdfnaaGreatDoor
namespace Go.Proofs.YtdmoadfnogdfnaaGreatDoor
open Go.RowKit
attribute [local irreducible] lo hs sm s64 c64 d64 b64 mh ml pd pc qd qc val hiB str cmpI srD lz nb isq decB zl zh zs
/-- A Great as plain data. -/
def gmade (s : Bool) (l k : List Nat) : Rat := mkRat (zmade s l) (made k + 1)
theorem gof_any (s : Bool) (a b : Option Addr) (n c m d : Nat) (l k : List Nat) (hl : l.length ≤ 1000) (hk : k.length ≤ 1000) (w : World) (h1 : Ws w (.slice a n c) l) (h2 : Ws w (.slice b m d) k) :
  Calls Tryz.prog 55 #[.agg #[.bool s, .slice a n c, .slice b m d]] w fun xe w' => xe = .returned (fracV (gmade s l k)) ∧ Below w.heap.size w w' := by
 have d1 := zmade_dI (s := s) h1.lt
 have d2 := made_digs h2.lt
 have dz1 : (digs 1).length ≤ 1 := digs_length_iff.2 (by rw [Nat.pow_one]; exact Bs_gt)
 have d3 : (digs (made k + 1)).length ≤ 1001 := Nat.le_trans (digs_add_le (k := 1000) (by omega) (Nat.le_trans dz1 (by omega))) (by omega)
 refine gof_w s a b n c m d (zmade false k) (zmade s l) _ (made k) (made k + 1) _ _ (Keeps.ws _ l) (fun w h => zof_any s a n c l hl w h) (fun w => gden_w s a b n c m d w) _ (Keeps.ws _ k) (fun w h => zof_any false b m d k hk w h) (fun w => ?_) one_o (fun w => add_any (made k) 1 (by omega) (by omega) w) (fromF (zmade s l) (made k + 1) (by omega) (by omega) (by omega)) w h1 h2
 have h := absI (zmade false k) w
 rw [show (zmade false k).natAbs = made k from rfl] at h
 exact h
theorem gmade_sz {s : Bool} {w : World} {a b : Option Addr} {n c m d : Nat} {l k : List Nat} {most : Nat} (hp : 0 < most) (h1 : Ws w (.slice a n c) l) (h2 : Ws w (.slice b m d) k) (hn : n ≤ most) (hm : m ≤ most) : Sz (gmade s l k) (most + 1) := by
 have e1 := h1.len
 have e2 := h2.len
 have d1 := zmade_dI (s := s) h1.lt
 have d2 := made_digs h2.lt
 refine Sz.mk (by omega) ?_ (by omega)
 have dz1 : (digs 1).length ≤ 1 := digs_length_iff.2 (by rw [Nat.pow_one]; exact Bs_gt)
 exact digs_add_le (k := most) (by omega) (by omega)
end Go.Proofs.YtdmoadfnogdfnaaGreatDoor
namespace Go.Proofs.YtdmoadfnogdfnaaGreatDoor
open Go.RowKit Go.Proofs.YtdmoadfnogdfnaaGreatDoor.Rx
attribute [local irreducible] lo hs sm s64 c64 d64 b64 mh ml pd pc qd qc val hiB str cmpI srD lz nb isq decB zl zh zs dval tln fd qtxt
theorem z_field (b : Bool) (a : Option Addr) (n c : Nat) (w : World) : (Instr.field 44 (.agg #[.bool b, .slice a n c]) 1).run Tryz.prog w = .ok (.slice a n c) w := by
 simp [go_sem, Instr.field, asAgg]
set_option maxHeartbeats 4000000 in
set_option maxRecDepth 100000 in
theorem zref_w (s : Bool) (a : Option Addr) (n c m : Nat) (z : Int) (K : World → Prop) (hK : Keeps K) (HO : ∀ (w : World), K w → Calls Tryz.prog 98 #[.slice a n c] w fun e w' => ∃ pv, e = .returned pv ∧ Rn w' pv m ∧ Below w.heap.size w w') (HF : ∀ (p1 : Value) (w : World), Rn w p1 m → Calls Tryz.prog 123 #[.bool s, p1] w fun e w' => ∃ pv, e = .returned pv ∧ RZ w' pv z ∧ Below w.heap.size w w') (w : World) (kK : K w) :
  Calls Tryz.prog 25 #[.agg #[.bool s, .slice a n c]] w fun e w' => ∃ pv, e = .returned pv ∧ RZ w' pv z ∧ Below w.heap.size w w' := by
 replace hK := Lib.hid hK
 replace HO := Lib.hid HO
 replace HF := Lib.hid HF
 have hL0 : GL w w [] := GL.start w
 have hS : SS w [] := SS.nil w
 replace hS := ((hS.new (.cells #[.bool s, .slice a n c] 36)).new (.cells #[.bool false, .slice none 0 0] 44))
 replace hL0 := ((hL0.new rfl [.bool s, .slice a n c] 36).new (K := w.heap.size + 1) (szA _ _) [.bool false, .slice none 0 0] 44)
 generalize hweq : ((w.alloc (.cells #[.bool s, .slice a n c] 36)).alloc (.cells #[.bool false, .slice none 0 0] 44)) = x1 at hL0 hS
 go_enter Tryz.func25, Tryz.ntmps25
 go_upto_region 1 with fail
 clear hweq
 refine region_tl 6 [EV (.pointer (some ⟨w.heap.size, 0, none⟩)), EV (.bool s), EV (.pointer (some ⟨w.heap.size, 1, none⟩)), EV (.slice a n c), PN m, PZ z] (by kernel_rfl) (by kernel_rfl) ?_ ?_ ?_
 ·exact stays_cons (stays_eq _) (stays_cons (stays_eq _) (stays_cons (stays_eq _) (stays_cons (stays_eq _) (stays_cons (stays_rn _) (stays_cons (stays_rz _) (stays_nil))))))
 ·simp only [List.take_succ_cons, List.take_zero, hopsR, and_true]
  refine ⟨?_, ?_, ?_, ?_, ?_, ?_⟩ <;> intro fv w1 hb1 hp
  all_goals (simp only [putsV, Act.put, List.setIfInBounds_toArray, List.set_cons_succ, List.set_cons_zero, Nat.zero_add, Nat.reduceAdd])
  ·refine tyAt_none rfl ?_
   simp [tyUpon, execOp, go_sem, Act.eval, Below.refl]
  ·have h0 : EV _ (fv 0) w1 := hp 0 (LC (by kernel_rfl))
   refine tyAt_none rfl ?_
   have hc := (hL0.call (below_drew hb1)).fc
   simp only [fcG, cellsF, neK, and_true, ne_eq, Nat.zero_add, Nat.reduceAdd] at hc
   simp [tyUpon, execOp, go_sem, Act.eval, hc, h0, Below.refl]
  ·refine tyAt_none rfl ?_
   simp [tyUpon, execOp, go_sem, Act.eval, Below.refl]
  ·have h2 : EV _ (fv 2) w1 := hp 2 (LC (by kernel_rfl))
   refine tyAt_none rfl ?_
   have hc := (hL0.call (below_drew hb1)).fc
   simp only [fcG, cellsF, neK, and_true, ne_eq, Nat.zero_add, Nat.reduceAdd] at hc
   simp [tyUpon, execOp, go_sem, Act.eval, hc, h2, Below.refl]
  ·have h3 : EV _ (fv 3) w1 := hp 3 (LC (by kernel_rfl))
   refine tyAt_none rfl ?_
   refine ty_call (f := 98) (args := #[.slice a n c]) (by simp [execOp, go_sem, Act.eval, h3]) ?_
   exact (HO.out w1 (hK.out.at ((hL0.call (below_drew hb1)).bl) kK)).mono fun e w2 ⟨pv, h1, h2, h3⟩ => ⟨pv, h1, h2, h3⟩
  ·have h1 : EV _ (fv 1) w1 := hp 1 (LC (by kernel_rfl))
   have h4 : PN _ (fv 4) w1 := hp 4 (LC (by kernel_rfl))
   refine tyAt_none rfl ?_
   refine ty_call (f := 123) (args := #[.bool s, fv 4]) (by simp [execOp, go_sem, Act.eval, h1]) ?_
   exact (HF.out (fv 4) w1 h4).mono fun e w2 ⟨pv, h1, h2, h3⟩ => ⟨pv, h1, h2, h3⟩
 ·intro fv x2 hb1 hv
  have e0 : fv 0 = _ := hv 0 (by omega)
  have e1 : fv 1 = _ := hv 1 (by omega)
  have e2 : fv 2 = _ := hv 2 (by omega)
  have e3 : fv 3 = _ := hv 3 (by omega)
  have q4 : Rn x2 (fv 4) m := hv 4 (by omega)
  obtain ⟨g1, d1, e4⟩ := rn_form q4
  rw [e4] at q4
  have q5 : RZ x2 (fv 5) z := hv 5 (by omega)
  obtain ⟨g2, d2, e5⟩ := rz_form q5
  rw [e5] at q5
  simp only [List.take_succ_cons, List.take_zero, putsV, Act.put, List.setIfInBounds_toArray, List.set_cons_succ, List.set_cons_zero, List.drop_succ_cons, List.drop_zero, Nat.zero_add, Nat.reduceAdd, e0, e1, e2, e3, e4, e5]
  replace hL0 := hL0.call (below_drew hb1)
  replace hS := hS.call (below_drew hb1)
  replace hS := hS.cons q4
  replace hS := hS.cons (rz_rn q5)
  clear e0 e1 e2 e3 e4 e5 hb1 hv q4 q5 fv
  have hS1 := hS.put (((Upd.refl (w.heap.size + 1) x2).setCell 0 (.bool (zs z))).setCell 1 (.slice g2 (tln z.natAbs) d2)) (hL0.get _ _ List.mem_cons_self) (by intro v hv n; simp only [List.mem_cons, List.not_mem_nil, or_false] at hv; rcases hv with rfl | rfl <;> simp)
  have hA := hL0.fc
  simp only [fcG, cellsF, neK, and_true, ne_eq, Nat.zero_add, Nat.reduceAdd] at hA
  have hP := hL0.put 0 (w.heap.size + 1) _ rfl [.bool (zs z), .slice g2 (tln z.natAbs) d2] rfl
  simp only [setAll, List.set_cons_zero, List.set_cons_succ] at hP
  generalize hput1 : ((x2.setCell ⟨w.heap.size + 1, 0, none⟩ (.bool (zs z))).setCell ⟨w.heap.size + 1, 1, none⟩ (.slice g2 (tln z.natAbs) d2)) = x3 at hP hS1
  have hB1 := hP.fc
  simp only [fcG, cellsF, neK, and_true, ne_eq, Nat.zero_add, Nat.reduceAdd] at hB1
  replace hL0 := hP
  replace hS := hS1
  clear hS1
  go_wp2_with fail
  exact bodyPost_ret (v := .agg #[.bool (zs z), .slice g2 (tln z.natAbs) d2]) (by simp [results, Tryz.results25, go_sem, hB1]) rfl ⟨_, rfl, (rz_of (hS.get List.mem_cons_self)), hL0.bl⟩
set_option maxHeartbeats 4000000 in
set_option maxRecDepth 100000 in
theorem gref_w (s : Bool) (a b : Option Addr) (n c m d : Nat) (z y k x : Int) (q : Rat) (K : World → Prop) (hK : Keeps K) (HZ : ∀ (w : World), K w → Calls Tryz.prog 25 #[.agg #[.bool s, .slice a n c]] w fun e w' => ∃ pv, e = .returned pv ∧ RZ w' pv z ∧ Below w.heap.size w w') (HD : RT 140 #[.agg #[.bool s, .slice a n c, .slice b m d]] (.agg #[.bool false, .slice b m d])) (L : World → Prop) (hL : Keeps L) (HE : ∀ (w : World), L w → Calls Tryz.prog 25 #[.agg #[.bool false, .slice b m d]] w fun e w' => ∃ pv, e = .returned pv ∧ RZ w' pv y ∧ Below w.heap.size w w') (HO : ∀ (w : World), Calls Tryz.prog 135 #[.int .i64 1] w fun e w' => ∃ pv, e = .returned pv ∧ RZ w' pv k ∧ Below w.heap.size w w') (HA : ∀ (p0 p1 : Value) (w : World), RZ w p0 y → RZ w p1 k → Calls Tryz.prog 29 #[p0, p1] w fun e w' => ∃ pv, e = .returned pv ∧ RZ w' pv x ∧ Below w.heap.size w w') (HF : ∀ (p0 p1 : Value) (w : World), RZ w p0 z → Rn w p1 x.natAbs → Calls Tryz.prog 141 #[p0, p1] w fun e w' => ∃ pv, e = .returned pv ∧ RF w' pv q ∧ Below w.heap.size w w') (w : World) (kK : K w) (kL : L w) :
  Calls Tryz.prog 56 #[.agg #[.bool s, .slice a n c, .slice b m d]] w fun e w' => ∃ pv, e = .returned pv ∧ RF w' pv q ∧ Below w.heap.size w w' := by
 replace hK := Lib.hid hK
 replace HZ := Lib.hid HZ
 replace HD := Lib.hid HD
 replace hL := Lib.hid hL
 replace HE := Lib.hid HE
 replace HO := Lib.hid HO
 replace HA := Lib.hid HA
 replace HF := Lib.hid HF
 have hL0 : GL w w [] := GL.start w
 have hS : SS w [] := SS.nil w
 replace hS := ((hS.new (.cells #[.bool s, .slice a n c, .slice b m d] 76)).new (.cells #[.bool false, .slice none 0 0, .slice none 0 0] 82))
 replace hL0 := ((hL0.new rfl [.bool s, .slice a n c, .slice b m d] 76).new (K := w.heap.size + 1) (szA _ _) [.bool false, .slice none 0 0, .slice none 0 0] 82)
 generalize hweq : ((w.alloc (.cells #[.bool s, .slice a n c, .slice b m d] 76)).alloc (.cells #[.bool false, .slice none 0 0, .slice none 0 0] 82)) = x1 at hL0 hS
 go_enter Tryz.func56, Tryz.ntmps56
 go_upto_region 1 with fail
 clear hweq
 refine region_tl 10 [EV (.pointer (some ⟨w.heap.size, 0, none⟩)), EV (.agg #[.bool s, .slice a n c]), PZ z, EV (.agg #[.bool s, .slice a n c, .slice b m d]), EV (.agg #[.bool false, .slice b m d]), PZ y, PZ k, PZ x, PN x.natAbs, PF q] (by kernel_rfl) (by kernel_rfl) ?_ ?_ ?_
 ·exact stays_cons (stays_eq _) (stays_cons (stays_eq _) (stays_cons (stays_rz _) (stays_cons (stays_eq _) (stays_cons (stays_eq _) (stays_cons (stays_rz _) (stays_cons (stays_rz _) (stays_cons (stays_rz _) (stays_cons (stays_rn _) (stays_cons (stays_rf _) (stays_nil))))))))))
 ·simp only [List.take_succ_cons, List.take_zero, hopsR, and_true]
  refine ⟨?_, ?_, ?_, ?_, ?_, ?_, ?_, ?_, ?_, ?_⟩ <;> intro fv w1 hb1 hp
  all_goals (simp only [putsV, Act.put, List.setIfInBounds_toArray, List.set_cons_succ, List.set_cons_zero, Nat.zero_add, Nat.reduceAdd])
  ·refine tyAt_none rfl ?_
   simp [tyUpon, execOp, go_sem, Act.eval, Below.refl]
  ·have h0 : EV _ (fv 0) w1 := hp 0 (LC (by kernel_rfl))
   refine tyAt_none rfl ?_
   have hc := (hL0.call (below_drew hb1)).fc
   simp only [fcG, cellsF, neK, and_true, ne_eq, Nat.zero_add, Nat.reduceAdd] at hc
   simp [tyUpon, execOp, go_sem, Act.eval, hc, h0, Below.refl]
  ·have h1 : EV _ (fv 1) w1 := hp 1 (LC (by kernel_rfl))
   refine tyAt_none rfl ?_
   refine ty_call (f := 25) (args := #[.agg #[.bool s, .slice a n c]]) (by simp [execOp, go_sem, Act.eval, h1]) ?_
   exact (HZ.out w1 (hK.out.at ((hL0.call (below_drew hb1)).bl) kK)).mono fun e w2 ⟨pv, h1, h2, h3⟩ => ⟨pv, h1, h2, h3⟩
  ·refine tyAt_none rfl ?_
   have hc := (hL0.call (below_drew hb1)).fc
   simp only [fcG, cellsF, neK, and_true, ne_eq, Nat.zero_add, Nat.reduceAdd] at hc
   simp [tyUpon, execOp, go_sem, Act.eval, hc, Below.refl]
  ·have h3 : EV _ (fv 3) w1 := hp 3 (LC (by kernel_rfl))
   refine tyAt_none rfl ?_
   refine ty_call (f := 140) (args := #[.agg #[.bool s, .slice a n c, .slice b m d]]) (by simp [execOp, go_sem, Act.eval, h3]) ?_
   exact (HD.out w1).mono fun e w2 ⟨h1, h2⟩ => ⟨_, h1, rfl, h2⟩
  ·have h4 : EV _ (fv 4) w1 := hp 4 (LC (by kernel_rfl))
   refine tyAt_none rfl ?_
   refine ty_call (f := 25) (args := #[.agg #[.bool false, .slice b m d]]) (by simp [execOp, go_sem, Act.eval, h4]) ?_
   exact (HE.out w1 (hL.out.at ((hL0.call (below_drew hb1)).bl) kL)).mono fun e w2 ⟨pv, h1, h2, h3⟩ => ⟨pv, h1, h2, h3⟩
  ·refine tyAt_none rfl ?_
   refine ty_call (f := 135) (args := #[.int .i64 1]) (by simp [execOp, go_sem, Act.eval]) ?_
   exact (HO.out w1).mono fun e w2 ⟨pv, h1, h2, h3⟩ => ⟨pv, h1, h2, h3⟩
  ·have h5 : PZ _ (fv 5) w1 := hp 5 (LC (by kernel_rfl))
   have h6 : PZ _ (fv 6) w1 := hp 6 (LC (by kernel_rfl))
   refine tyAt_none rfl ?_
   refine ty_call (f := 29) (args := #[fv 5, fv 6]) (by simp [execOp, go_sem, Act.eval]) ?_
   exact (HA.out (fv 5) (fv 6) w1 h5 h6).mono fun e w2 ⟨pv, h1, h2, h3⟩ => ⟨pv, h1, h2, h3⟩
  ·have h7 : PZ _ (fv 7) w1 := hp 7 (LC (by kernel_rfl))
   refine tyAt_none rfl ?_
   obtain ⟨pg, pd, pe⟩ := rz_form h7
   rw [pe] at h7
   simp [tyUpon, execOp, go_sem, Act.eval, pe, z_field, Below.refl]
   exact rz_rn h7
  ·have h2 : PZ _ (fv 2) w1 := hp 2 (LC (by kernel_rfl))
   have h8 : PN _ (fv 8) w1 := hp 8 (LC (by kernel_rfl))
   refine tyAt_none rfl ?_
   refine ty_call (f := 141) (args := #[fv 2, fv 8]) (by simp [execOp, go_sem, Act.eval]) ?_
   exact (HF.out (fv 2) (fv 8) w1 h2 h8).mono fun e w2 ⟨pv, h1, h2, h3⟩ => ⟨pv, h1, h2, h3⟩
 ·intro fv x2 hb1 hv
  have e0 : fv 0 = _ := hv 0 (by omega)
  have e1 : fv 1 = _ := hv 1 (by omega)
  have q2 : RZ x2 (fv 2) z := hv 2 (by omega)
  obtain ⟨g1, d1, e2⟩ := rz_form q2
  rw [e2] at q2
  have e3 : fv 3 = _ := hv 3 (by omega)
  have e4 : fv 4 = _ := hv 4 (by omega)
  have q5 : RZ x2 (fv 5) y := hv 5 (by omega)
  obtain ⟨g2, d2, e5⟩ := rz_form q5
  rw [e5] at q5
  have q6 : RZ x2 (fv 6) k := hv 6 (by omega)
  obtain ⟨g3, d3, e6⟩ := rz_form q6
  rw [e6] at q6
  have q7 : RZ x2 (fv 7) x := hv 7 (by omega)
  obtain ⟨g4, d4, e7⟩ := rz_form q7
  rw [e7] at q7
  have q8 : Rn x2 (fv 8) x.natAbs := hv 8 (by omega)
  obtain ⟨g5, d5, e8⟩ := rn_form q8
  rw [e8] at q8
  have q9 : RF x2 (fv 9) q := hv 9 (by omega)
  obtain ⟨g6, d6, g7, d7, e9⟩ := rf_form q9
  rw [e9] at q9
  simp only [List.take_succ_cons, List.take_zero, putsV, Act.put, List.setIfInBounds_toArray, List.set_cons_succ, List.set_cons_zero, List.drop_succ_cons, List.drop_zero, Nat.zero_add, Nat.reduceAdd, e0, e1, e2, e3, e4, e5, e6, e7, e8, e9]
  replace hL0 := hL0.call (below_drew hb1)
  replace hS := hS.call (below_drew hb1)
  replace hS := hS.cons (rz_rn q2)
  replace hS := hS.cons (rz_rn q5)
  replace hS := hS.cons (rz_rn q6)
  replace hS := hS.cons (rz_rn q7)
  replace hS := hS.cons q8
  replace hS := hS.cons (rf_rn1 q9)
  replace hS := hS.cons (rf_rn2 q9)
  clear e0 e1 e2 e3 e4 e5 e6 e7 e8 e9 hb1 hv q2 q5 q6 q7 q8 q9 fv
  have hS1 := hS.put ((((Upd.refl (w.heap.size + 1) x2).setCell 0 (.bool (zs q.num))).setCell 1 (.slice g6 (tln q.num.natAbs) d6)).setCell 2 (.slice g7 (tln (fd q)) d7)) (hL0.get _ _ List.mem_cons_self) (by intro v hv n; simp only [List.mem_cons, List.not_mem_nil, or_false] at hv; rcases hv with rfl | rfl | rfl <;> simp)
  have hA := hL0.fc
  simp only [fcG, cellsF, neK, and_true, ne_eq, Nat.zero_add, Nat.reduceAdd] at hA
  have hP := hL0.put 0 (w.heap.size + 1) _ rfl [.bool (zs q.num), .slice g6 (tln q.num.natAbs) d6, .slice g7 (tln (fd q)) d7] rfl
  simp only [setAll, List.set_cons_zero, List.set_cons_succ] at hP
  generalize hput1 : (((x2.setCell ⟨w.heap.size + 1, 0, none⟩ (.bool (zs q.num))).setCell ⟨w.heap.size + 1, 1, none⟩ (.slice g6 (tln q.num.natAbs) d6)).setCell ⟨w.heap.size + 1, 2, none⟩ (.slice g7 (tln (fd q)) d7)) = x3 at hP hS1
  have hB1 := hP.fc
  simp only [fcG, cellsF, neK, and_true, ne_eq, Nat.zero_add, Nat.reduceAdd] at hB1
  replace hL0 := hP
  replace hS := hS1
  clear hS1
  go_wp2_with fail
  exact bodyPost_ret (v := .agg #[.bool (zs q.num), .slice g6 (tln q.num.natAbs) d6, .slice g7 (tln (fd q)) d7]) (by simp [results, Tryz.results56, go_sem, hB1]) rfl ⟨_, rfl, (rf_of (hS.get (List.mem_cons_of_mem _ List.mem_cons_self)) (hS.get List.mem_cons_self)), hL0.bl⟩
end Go.Proofs.YtdmoadfnogdfnaaGreatDoor
namespace Go.Proofs.YtdmoadfnogdfnaaGreatDoor
open Go.RowKit Go.Proofs.YtdmoadfnogdfnaaGreatDoor.Rx
attribute [local irreducible] lo hs sm s64 c64 d64 b64 mh ml pd pc qd qc val hiB str cmpI srD lz nb isq decB zl zh dval txt
theorem zref_any (s : Bool) (a : Option Addr) (n c : Nat) (l : List Nat) (hl : l.length ≤ 1000) (w : World) (h : Ws w (.slice a n c) l) :
  Calls Tryz.prog 25 #[.agg #[.bool s, .slice a n c]] w fun e w' => ∃ v, e = .returned v ∧ RZ w' v (zmade s l) ∧ Below w.heap.size w w' :=
 zref_w s a n c (made l) (zmade s l) _ (Keeps.ws _ l) (fun w h => rofw_any _ l hl w h) (rz_from s (made l) (zmade s l) (by rw [Bool.eq_iff_iff]; unfold zmade; cases s <;> simp <;> omega) (by unfold zmade; split <;> simp)) w h
theorem gref_any (s : Bool) (a b : Option Addr) (n c m d : Nat) (l k : List Nat) (hl : l.length ≤ 300) (hk : k.length ≤ 300) (w : World) (h1 : Ws w (.slice a n c) l) (h2 : Ws w (.slice b m d) k) :
  Calls Tryz.prog 56 #[.agg #[.bool s, .slice a n c, .slice b m d]] w fun e w' => ∃ v, e = .returned v ∧ RF w' v (gmade s l k) ∧ Below w.heap.size w w' := by
 have t1 := td_made h1.lt
 have t2 := td_made h2.lt
 have e1 : (zmade s l).natAbs = made l := by unfold zmade; split <;> simp
 have e2 : (zmade false k).natAbs = made k := by unfold zmade; simp
 have e3 : (zmade false k + 1).natAbs = made k + 1 := by unfold zmade; simp; omega
 have t3 : (Rx.td (made k + 1)).length ≤ 901 := Nat.le_trans (td_add_le (k := 900) (by omega) (Nat.le_trans td_one (by omega))) (by omega)
 unfold gmade
 refine gref_w s a b n c m d (zmade s l) (zmade false k) 1 (zmade false k + 1) _ _ (Keeps.ws _ l) (fun w h => zref_any s a n c l (by omega) w h) (fun w => gden_w s a b n c m d w) _ (Keeps.ws _ k) (fun w h => zref_any false b m d k (by omega) w h) rzof_one (fun v1 v2 w g1 g2 => rzaddI v1 v2 _ _ (by rw [e2]; omega) (Nat.le_trans td_one (by omega)) w g1 g2) ?_ w h1 h2
 rw [e3]
 exact rfrom (zmade s l) (made k + 1) (by omega) (by rw [e1]; omega) (by omega)
end Go.Proofs.YtdmoadfnogdfnaaGreatDoor
namespace Go.Proofs.YtdmoadfnogdfnaaGreatDoor
open Go.ChangeShapes Go.WideShapes Go.ChangeAt Go.RowKit
theorem laidOut : laidOutB Tryz.prog = true := by kernel_rfl
theorem cells62 : Tryz.prog.cellsOf 22 = 1 := by kernel_rfl
theorem wide_u32 {n : Int} (h : (Lit.int .u32 n).wf = true) : 0 ≤ n ∧ n ≤ 4294967295 := bounds_u32 h
end Go.Proofs.YtdmoadfnogdfnaaGreatDoor
namespace Go.Proofs.YtdmoadfnogdfnaaGreatDoor
open Go.ChangeShapes Go.WideShapes Go.ChangeAt Go.RowKit Go.Joins
theorem cellsZ : Tryz.prog.cellsOf 36 = 2 := by kernel_rfl
theorem ws_of_trod {H : Type} {enc : TypeId × Value → H} {W : World} {v : Value} {y : DataW H × List MemPlace} {fuel : Nat} (hf : DataW.trod enc Tryz.prog W 0 (fun _ => true) true fuel 23 [v] = some y) : ∃ a n c l, v = .slice a n c ∧ Ws W v l := by
 rcases open_ints Tryz.underlying23 Tryz.underlying22 cells62 hf with ⟨hcs, hx⟩ | ⟨a, len', cap', zs, hcs, _, hl, hm, hz, hx, hcell, hwz⟩
 ·simp only [List.cons.injEq, and_true] at hcs
  subst hcs
  exact ⟨none, 0, 0, [], rfl, .inl ⟨_, _, rfl, rfl⟩⟩
 ·simp only [List.cons.injEq, and_true] at hcs
  subst hcs
  simp only [if_true] at hz
  refine ⟨some a, len', cap', ?_⟩
  by_cases h0 : len' = 0
  ·subst h0
   exact ⟨[], rfl, .inl ⟨_, _, rfl, rfl⟩⟩
  ·have hll : ((zs.take len').map Int.toNat).length = len' := by simp; omega
   refine ⟨(zs.take len').map Int.toNat, rfl, .inr ⟨a, cap', by rw [hll], ?_, ?_, ?_⟩⟩
   ·intro x hx
    obtain ⟨z, hz1, rfl⟩ := List.mem_map.1 hx
    have := wide_u32 (hwz z (List.mem_of_mem_take hz1))
    omega
   ·intro i hi
    rw [hll] at hi
    have hi2 : i < zs.length := by omega
    have e := hcell i hi2
    rw [show zs.getD i 0 = zs[i] by simp [List.getD, hi2]] at e
    have hw := wide_u32 (hwz zs[i] (List.getElem_mem hi2))
    rw [e]
    simp only [List.getElem_map, List.getElem_take]
    rw [Int.toNat_of_nonneg hw.1]
   ·have e := hcell 0 (by omega)
    have := World.block_lt_of_cell? W _ e
    rw [show (a.add 0).block = a.block from by unfold Addr.add; split <;> rfl] at this
    exact this
end Go.Proofs.YtdmoadfnogdfnaaGreatDoor
namespace Go.Proofs.YtdmoadfnogdfnaaGreatDoor
open Go.RowKit
attribute [local irreducible] lo hs sm s64 c64 d64 b64 mh ml pd pc qd qc val hiB str cmpI srD lz nb isq decB zl zh zs
theorem ne_fr {p q : Rat} (h : p ≠ q) : (((zl p.num : Nat) : Int) == ((zl q.num : Nat) : Int)) = false ∨
  ((((zl p.num : Nat) : Int) == ((zl q.num : Nat) : Int)) = true ∧ ((zh p.num).toList == (zh q.num).toList) = false) ∨
  ((((zl p.num : Nat) : Int) == ((zl q.num : Nat) : Int)) = true ∧ ((zh p.num).toList == (zh q.num).toList) = true ∧ (zs p.num == zs q.num) = false) ∨
  ((((zl p.num : Nat) : Int) == ((zl q.num : Nat) : Int)) = true ∧ ((zh p.num).toList == (zh q.num).toList) = true ∧ (zs p.num == zs q.num) = true ∧ (((lo (fe p) : Nat) : Int) == ((lo (fe q) : Nat) : Int)) = false) ∨
  ((((zl p.num : Nat) : Int) == ((zl q.num : Nat) : Int)) = true ∧ ((zh p.num).toList == (zh q.num).toList) = true ∧ (zs p.num == zs q.num) = true ∧ (((lo (fe p) : Nat) : Int) == ((lo (fe q) : Nat) : Int)) = true ∧ ((hs (fe p)).toList == (hs (fe q)).toList) = false) := by
 by_cases hn : p.num = q.num
 ·have he : fe p ≠ fe q := fun e => h (fracV_inj (by unfold fracV; rw [hn, e]))
  rw [hn]
  rcases ne_nat he with h1 | ⟨h1, h2⟩
  ·exact .inr (.inr (.inr (.inl ⟨by simp, by simp, by simp, h1⟩)))
  ·exact .inr (.inr (.inr (.inr ⟨by simp, by simp, by simp, h1, h2⟩)))
 ·rcases ne_int hn with h1 | h1 | h1
  ·exact .inl h1
  ·exact .inr (.inl h1)
  ·exact .inr (.inr (.inl h1))
end Go.Proofs.YtdmoadfnogdfnaaGreatDoor
namespace Go.Proofs.YtdmoadfnogdfnaaGreatDoor
open Go.ChangeShapes Go.WideShapes Go.ChangeAt Go.RowKit Go.Joins
theorem cellsG : Tryz.prog.cellsOf 76 = 3 := by kernel_rfl
theorem cellsW : Tryz.prog.cellsOf 23 = 1 := by kernel_rfl
theorem cellsB : Tryz.prog.cellsOf 4 = 1 := by kernel_rfl
set_option maxRecDepth 100000 in
theorem great_of {H : Type} {enc : TypeId × Value → H} {W : World} {base : Nat} {v : Value} {d : DataW H} {p : List MemPlace} (hv : Value.okWide Tryz.prog W .any base 76 v)
  (h : DataW.Trod enc Tryz.prog W 0 (fun _ => true) true 76 v d p) : ∃ s a q n c m d l k, v = .agg #[.bool s, .slice a n c, .slice q m d] ∧ Ws W (.slice a n c) l ∧ Ws W (.slice q m d) k := by
 obtain ⟨cs, rfl, hsz⟩ := okWide_struct Tryz.underlying76 hv
 obtain ⟨c0, c1, c2, rfl⟩ := array3 (hsz.trans cellsG)
 obtain ⟨fuel, hf⟩ := h
 obtain ⟨y0, y1, n, hx, _, h0, h1⟩ := trod_struct2 Tryz.underlying76 hf
 simp only [cellsZ, cellsW] at h0 h1
 obtain ⟨z0, z1, m, hz, _, g0, g1⟩ := trod_struct2 Tryz.underlying36 h0
 simp only [cellsB, cellsW] at g0 g1
 obtain ⟨s, e0, -⟩ := DataW.trod_bool Tryz.underlying4 g0
 obtain ⟨a1, n1, k1, l1, r1, w1⟩ := ws_of_trod g1
 obtain ⟨a2, n2, k2, l2, r2, w2⟩ := ws_of_trod h1
 simp [Value.cells] at e0 r1 r2
 subst e0 r1 r2
 exact ⟨s, a1, a2, n1, k1, n2, k2, l1, l2, rfl, w1, w2⟩
end Go.Proofs.YtdmoadfnogdfnaaGreatDoor
namespace Go.Proofs.YtdmoadfnogdfnaaGreatDoor
open Go.RowKit Go.Proofs.YtdmoadfnogdfnaaGreatDoor.Rx
attribute [local irreducible] lo hs sm s64 c64 d64 b64 mh ml pd pc qd qc val hiB str cmpI srD lz nb isq decB zl zh zs dval tln ztxt txt fd fe
set_option maxHeartbeats 4000000 in
set_option maxRecDepth 100000 in
theorem ffloors_big (sx : Bool) (ax qx : Option Addr) (nx cx mx dx : Nat) (KT : World → Prop) (hKT : Keeps KT) (HW : RK KT 54 #[] (.bool true)) (hfew : decide (nx ≤ 10 ∧ mx ≤ 10) = false) (w : World) (kKT : KT w) :
  Calls Tryz.prog 9 #[.agg #[.bool sx, .slice ax nx cx, .slice qx mx dx]] w fun e w' => e = .returned (.bool true) ∧ Below w.heap.size w w' := by
 replace hKT := Lib.hid hKT
 replace HW := Lib.hid HW
 have hL0 : GL w w [] := GL.start w
 have hS : SS w [] := SS.nil w
 replace hS := ((hS.new (.cells #[.bool sx, .slice ax nx cx, .slice qx mx dx] 76)).new (.cells #[.bool sx, .slice ax nx cx, .slice qx mx dx] 76))
 replace hL0 := ((hL0.new rfl [.bool sx, .slice ax nx cx, .slice qx mx dx] 76).new (K := w.heap.size + 1) (szA _ _) [.bool sx, .slice ax nx cx, .slice qx mx dx] 76)
 generalize hweq : ((w.alloc (.cells #[.bool sx, .slice ax nx cx, .slice qx mx dx] 76)).alloc (.cells #[.bool sx, .slice ax nx cx, .slice qx mx dx] 76)) = x1 at hL0 hS
 go_enter Tryz.func9, Tryz.ntmps9
 have hN0 := cells_of _ 0 [] rfl (hL0.get _ _ (List.mem_cons_of_mem _ List.mem_cons_self))
 simp only [cellsF, and_true, Nat.zero_add, Nat.reduceAdd] at hN0
 have HFw := gfew1 10 10 rfl (by omega) (hL0.get _ _ List.mem_cons_self)
 rw [hfew] at HFw
 replace HFw := Lib.hid HFw
 go_wp2_with fail
 with_reducible refine Calls.mono (HFw.out) ?_
 rintro e x2 ⟨rfl, rfl⟩
 clear HFw
 clear hN0
 go_wp2_with fail
 with_reducible refine Calls.mono (HW.out _ (hKT.out.at (hL0.bl) kKT)) ?_
 rintro e x3 ⟨rfl, hb⟩
 replace hL0 := hL0.call hb
 replace hS := hS.call hb
 clear hb hweq
 go_wp2_with fail
 exact bodyPost_ret (v := .bool true) (by simp [results, Tryz.results9, go_sem]) rfl ⟨rfl, hL0.bl⟩
set_option maxHeartbeats 4000000 in
set_option maxRecDepth 100000 in
theorem ffloors_ws (sx : Bool) (ax qx : Option Addr) (nx cx mx dx : Nat) (a o s t : Rat) (dn : Nat) (u v i j x c2 c4 : Int) (Kx : World → Prop) (hKx : Keeps Kx) (GX : RK Kx 55 #[.agg #[.bool sx, .slice ax nx cx, .slice qx mx dx]] (fracV a)) (HFl : RT 75 #[fracV a] (intV u)) (HO : RT 81 #[.int .u64 1] (natV 1)) (HFr : RT 80 #[intV u, natV 1] (.tuple #[fracV a, .int .i64 0])) (HCe : RT 82 #[fracV a] (intV v)) (HFs : RT 80 #[intV v, natV 1] (.tuple #[fracV a, .int .i64 0])) (HWh : RT 83 #[fracV a] (.bool true)) (RX : ∀ (w : World), Kx w → Calls Tryz.prog 56 #[.agg #[.bool sx, .slice ax nx cx, .slice qx mx dx]] w fun e w' => ∃ pv, e = .returned pv ∧ RF w' pv a ∧ Below w.heap.size w w') (HB1 : ∀ (p0 : Value) (w : World), Rn w p0 a.num.natAbs → Calls Tryz.prog 84 #[p0] w fun e w' => e = .returned (.int .i64 i) ∧ Below w.heap.size w w') (HDn : ∀ (p0 : Value) (w : World), RF w p0 a → Calls Tryz.prog 85 #[p0] w fun e w' => ∃ pv, e = .returned pv ∧ Rn w' pv dn ∧ Below w.heap.size w w') (HB2 : ∀ (p0 : Value) (w : World), Rn w p0 dn → Calls Tryz.prog 84 #[p0] w fun e w' => e = .returned (.int .i64 j) ∧ Below w.heap.size w w') (HC1 : RT 73 #[fracV a, fracV a] (.int .i64 0)) (HI : RT 87 #[.int .i64 1] (fracV o)) (HA : RT 61 #[fracV a, fracV o] (fracV s)) (HC2 : RT 73 #[fracV s, fracV a] (.int .i64 c2)) (HS : RT 63 #[fracV a, fracV o] (fracV t)) (HC4 : RT 73 #[fracV t, fracV a] (.int .i64 c4)) (KT : World → Prop) (hKT : Keeps KT) (HW : RK KT 54 #[] (.bool true)) (hfew : decide (nx ≤ 10 ∧ mx ≤ 10) = true) (hcb : decide (0 < c2) = true) (hcd : decide (c4 < 0) = true) (hmx : max i j = x) (hbig : decide (64 < x) = false) (w : World) (kKx : Kx w) (kKT : KT w) :
  Calls Tryz.prog 9 #[.agg #[.bool sx, .slice ax nx cx, .slice qx mx dx]] w fun e w' => e = .returned (.bool true) ∧ Below w.heap.size w w' := by
 replace hKx := Lib.hid hKx
 replace GX := Lib.hid GX
 replace HFl := Lib.hid HFl
 replace HO := Lib.hid HO
 replace HFr := Lib.hid HFr
 replace HCe := Lib.hid HCe
 replace HFs := Lib.hid HFs
 replace HWh := Lib.hid HWh
 replace RX := Lib.hid RX
 replace HB1 := Lib.hid HB1
 replace HDn := Lib.hid HDn
 replace HB2 := Lib.hid HB2
 replace HC1 := Lib.hid HC1
 replace HI := Lib.hid HI
 replace HA := Lib.hid HA
 replace HC2 := Lib.hid HC2
 replace HS := Lib.hid HS
 replace HC4 := Lib.hid HC4
 replace hKT := Lib.hid hKT
 replace HW := Lib.hid HW
 have hL0 : GL w w [] := GL.start w
 have hS : SS w [] := SS.nil w
 replace hS := ((hS.new (.cells #[.bool sx, .slice ax nx cx, .slice qx mx dx] 76)).new (.cells #[.bool sx, .slice ax nx cx, .slice qx mx dx] 76))
 replace hL0 := ((hL0.new rfl [.bool sx, .slice ax nx cx, .slice qx mx dx] 76).new (K := w.heap.size + 1) (szA _ _) [.bool sx, .slice ax nx cx, .slice qx mx dx] 76)
 generalize hweq : ((w.alloc (.cells #[.bool sx, .slice ax nx cx, .slice qx mx dx] 76)).alloc (.cells #[.bool sx, .slice ax nx cx, .slice qx mx dx] 76)) = x1 at hL0 hS
 go_enter Tryz.func9, Tryz.ntmps9
 have hN0 := cells_of _ 0 [] rfl (hL0.get _ _ (List.mem_cons_of_mem _ List.mem_cons_self))
 simp only [cellsF, and_true, Nat.zero_add, Nat.reduceAdd] at hN0
 have HFw := gfew1 10 10 rfl (by omega) (hL0.get _ _ List.mem_cons_self)
 rw [hfew] at HFw
 replace HFw := Lib.hid HFw
 go_wp2_with fail
 with_reducible refine Calls.mono (HFw.out) ?_
 rintro e x2 ⟨rfl, rfl⟩
 clear HFw
 clear hN0
 have hN0 := cells_of _ 0 [] rfl (hL0.get _ _ (List.mem_cons_of_mem _ List.mem_cons_self))
 simp only [cellsF, and_true, Nat.zero_add, Nat.reduceAdd] at hN0
 go_wp2_with fail
 clear hN0
 with_reducible refine Calls.mono (GX.out _ (hKx.out.at (hL0.bl) kKx)) ?_
 rintro e x3 ⟨rfl, hb⟩
 replace hL0 := hL0.call hb
 replace hS := hS.call hb
 clear hb hweq
 replace hS := (hS.new (.cells #[.int .u64 ((zl a.num : Nat) : Int), .string (zh a.num), .bool (zs a.num), .int .u64 ((lo (fe a) : Nat) : Int), .string (hs (fe a))] 79))
 replace hL0 := (hL0.new rfl [.int .u64 ((zl a.num : Nat) : Int), .string (zh a.num), .bool (zs a.num), .int .u64 ((lo (fe a) : Nat) : Int), .string (hs (fe a))] 79)
 generalize hweq : (x3.alloc (.cells #[.int .u64 ((zl a.num : Nat) : Int), .string (zh a.num), .bool (zs a.num), .int .u64 ((lo (fe a) : Nat) : Int), .string (hs (fe a))] 79)) = x4 at hL0 hS
 have hN0 := cells_of _ 0 [] rfl (hL0.get _ _ List.mem_cons_self)
 simp only [cellsF, and_true, Nat.zero_add, Nat.reduceAdd] at hN0
 go_wp2_with fail
 clear hN0
 with_reducible refine Calls.mono (HFl.out _) ?_
 rintro e x5 ⟨rfl, hb⟩
 replace hL0 := hL0.call hb
 replace hS := hS.call hb
 clear hb hweq
 go_wp2_with fail
 with_reducible refine Calls.mono (HO.out _) ?_
 rintro e x6 ⟨rfl, hb⟩
 replace hL0 := hL0.call hb
 replace hS := hS.call hb
 clear hb
 go_wp2_with fail
 with_reducible refine Calls.mono (HFr.out _) ?_
 rintro e x7 ⟨rfl, hb⟩
 replace hL0 := hL0.call hb
 replace hS := hS.call hb
 clear hb
 replace hS := (hS.new (.cells #[.int .u64 ((zl a.num : Nat) : Int), .string (zh a.num), .bool (zs a.num), .int .u64 ((lo (fe a) : Nat) : Int), .string (hs (fe a))] 79))
 replace hL0 := (hL0.new rfl [.int .u64 ((zl a.num : Nat) : Int), .string (zh a.num), .bool (zs a.num), .int .u64 ((lo (fe a) : Nat) : Int), .string (hs (fe a))] 79)
 generalize hweq : (x7.alloc (.cells #[.int .u64 ((zl a.num : Nat) : Int), .string (zh a.num), .bool (zs a.num), .int .u64 ((lo (fe a) : Nat) : Int), .string (hs (fe a))] 79)) = x8 at hL0 hS
 have hN0 := cells_of _ 0 [] rfl (hL0.get _ _ (List.mem_cons_of_mem _ List.mem_cons_self))
 simp only [cellsF, and_true, Nat.zero_add, Nat.reduceAdd] at hN0
 go_wp2_with fail
 clear hN0
 with_reducible refine Calls.mono (HCe.out _) ?_
 rintro e x9 ⟨rfl, hb⟩
 replace hL0 := hL0.call hb
 replace hS := hS.call hb
 clear hb hweq
 go_wp2_with fail
 with_reducible refine Calls.mono (HO.out _) ?_
 rintro e x10 ⟨rfl, hb⟩
 replace hL0 := hL0.call hb
 replace hS := hS.call hb
 clear hb
 go_wp2_with fail
 with_reducible refine Calls.mono (HFs.out _) ?_
 rintro e x11 ⟨rfl, hb⟩
 replace hL0 := hL0.call hb
 replace hS := hS.call hb
 clear hb
 replace hS := (hS.new (.cells #[.int .u64 ((zl a.num : Nat) : Int), .string (zh a.num), .bool (zs a.num), .int .u64 ((lo (fe a) : Nat) : Int), .string (hs (fe a))] 79))
 replace hL0 := (hL0.new rfl [.int .u64 ((zl a.num : Nat) : Int), .string (zh a.num), .bool (zs a.num), .int .u64 ((lo (fe a) : Nat) : Int), .string (hs (fe a))] 79)
 generalize hweq : (x11.alloc (.cells #[.int .u64 ((zl a.num : Nat) : Int), .string (zh a.num), .bool (zs a.num), .int .u64 ((lo (fe a) : Nat) : Int), .string (hs (fe a))] 79)) = x12 at hL0 hS
 have hN0 := cells_of _ 0 [] rfl (hL0.get _ _ (List.mem_cons_of_mem _ (List.mem_cons_of_mem _ List.mem_cons_self)))
 simp only [cellsF, and_true, Nat.zero_add, Nat.reduceAdd] at hN0
 go_wp2_with fail
 clear hN0
 with_reducible refine Calls.mono (HWh.out _) ?_
 rintro e x13 ⟨rfl, hb⟩
 replace hL0 := hL0.call hb
 replace hS := hS.call hb
 clear hb hweq
 have hN0 := cells_of _ 0 [] rfl (hL0.get _ _ (List.mem_cons_of_mem _ (List.mem_cons_of_mem _ (List.mem_cons_of_mem _ (List.mem_cons_of_mem _ List.mem_cons_self)))))
 simp only [cellsF, and_true, Nat.zero_add, Nat.reduceAdd] at hN0
 go_wp2_with fail
 clear hN0
 with_reducible refine Calls.mono (RX.out _ (hKx.out.at (hL0.bl) kKx)) ?_
 rintro e x14 ⟨v0, rfl, q0, hb⟩
 replace hL0 := hL0.call hb
 replace hS := hS.call hb
 clear hb
 obtain ⟨g1, d1, g2, d2, rfl⟩ := rf_form q0
 replace hS := hS.cons (rf_rn1 q0)
 replace hS := hS.cons (rf_rn2 q0)
 clear q0
 replace hS := (hS.new (.cells #[.bool (zs a.num), .slice g1 (tln a.num.natAbs) d1, .slice g2 (tln (fd a)) d2] 82))
 replace hL0 := (hL0.new rfl [.bool (zs a.num), .slice g1 (tln a.num.natAbs) d1, .slice g2 (tln (fd a)) d2] 82)
 generalize hweq : (x14.alloc (.cells #[.bool (zs a.num), .slice g1 (tln a.num.natAbs) d1, .slice g2 (tln (fd a)) d2] 82)) = x15 at hL0 hS
 go_upto_region 8 with fail
 clear hweq
 refine region_tl 9 [EV (.pointer (some ⟨x14.heap.size, 0, none⟩)), EV (.pointer (some ⟨x14.heap.size, 1, none⟩)), EV (.slice g1 (tln a.num.natAbs) d1), EV (.int .i64 i), EV (.agg #[.bool (zs a.num), .slice g1 (tln a.num.natAbs) d1, .slice g2 (tln (fd a)) d2]), PN dn, EV (.int .i64 j), EV (.int .i64 x), EV (.bool false)] (by kernel_rfl) (by kernel_rfl) ?_ ?_ ?_
 ·exact stays_cons (stays_eq _) (stays_cons (stays_eq _) (stays_cons (stays_eq _) (stays_cons (stays_eq _) (stays_cons (stays_eq _) (stays_cons (stays_rn _) (stays_cons (stays_eq _) (stays_cons (stays_eq _) (stays_cons (stays_eq _) (stays_nil)))))))))
 ·simp only [List.take_succ_cons, List.take_zero, hopsR, and_true]
  refine ⟨?_, ?_, ?_, ?_, ?_, ?_, ?_, ?_, ?_⟩ <;> intro fv w1 hb1 hp
  all_goals (simp only [putsV, Act.put, List.setIfInBounds_toArray, List.set_cons_succ, List.set_cons_zero, Nat.zero_add, Nat.reduceAdd])
  ·refine tyAt_none rfl ?_
   simp [tyUpon, execOp, go_sem, Act.eval, hmx, (of_decide_eq_true hcb), (of_decide_eq_true hcd), (of_decide_eq_false hbig), Below.refl]
  ·have h0 : EV _ (fv 0) w1 := hp 0 (LC (by kernel_rfl))
   refine tyAt_none rfl ?_
   simp [tyUpon, execOp, go_sem, Act.eval, h0, hmx, (of_decide_eq_true hcb), (of_decide_eq_true hcd), (of_decide_eq_false hbig), Below.refl]
  ·have h1 : EV _ (fv 1) w1 := hp 1 (LC (by kernel_rfl))
   refine tyAt_none rfl ?_
   have hc := (hL0.call (below_drew hb1)).fc
   simp only [fcG, cellsF, neK, and_true, ne_eq, Nat.zero_add, Nat.reduceAdd] at hc
   simp [tyUpon, execOp, go_sem, Act.eval, hc, h1, hmx, (of_decide_eq_true hcb), (of_decide_eq_true hcd), (of_decide_eq_false hbig), Below.refl]
  ·have h2 : EV _ (fv 2) w1 := hp 2 (LC (by kernel_rfl))
   refine tyAt_none rfl ?_
   refine ty_call (f := 84) (args := #[.slice g1 (tln a.num.natAbs) d1]) (by simp [execOp, go_sem, Act.eval, h2]) ?_
   exact (HB1.out (.slice g1 (tln a.num.natAbs) d1) w1 (Sl.below (hS.get (List.mem_cons_of_mem _ List.mem_cons_self)) (below_drew hb1))).mono fun e w2 ⟨h1, h2⟩ => ⟨_, h1, rfl, h2⟩
  ·refine tyAt_none rfl ?_
   have hc := (hL0.call (below_drew hb1)).fc
   simp only [fcG, cellsF, neK, and_true, ne_eq, Nat.zero_add, Nat.reduceAdd] at hc
   simp [tyUpon, execOp, go_sem, Act.eval, hc, hmx, (of_decide_eq_true hcb), (of_decide_eq_true hcd), (of_decide_eq_false hbig), Below.refl]
  ·have h4 : EV _ (fv 4) w1 := hp 4 (LC (by kernel_rfl))
   refine tyAt_none rfl ?_
   refine ty_call (f := 85) (args := #[.agg #[.bool (zs a.num), .slice g1 (tln a.num.natAbs) d1, .slice g2 (tln (fd a)) d2]]) (by simp [execOp, go_sem, Act.eval, h4]) ?_
   exact (HDn.out (.agg #[.bool (zs a.num), .slice g1 (tln a.num.natAbs) d1, .slice g2 (tln (fd a)) d2]) w1 (rf_of (Sl.below (hS.get (List.mem_cons_of_mem _ List.mem_cons_self)) (below_drew hb1)) (Sl.below (hS.get List.mem_cons_self) (below_drew hb1)))).mono fun e w2 ⟨pv, h1, h2, h3⟩ => ⟨pv, h1, h2, h3⟩
  ·have h5 : PN _ (fv 5) w1 := hp 5 (LC (by kernel_rfl))
   refine tyAt_none rfl ?_
   refine ty_call (f := 84) (args := #[fv 5]) (by simp [execOp, go_sem, Act.eval]) ?_
   exact (HB2.out (fv 5) w1 h5).mono fun e w2 ⟨h1, h2⟩ => ⟨_, h1, rfl, h2⟩
  ·have h3 : EV _ (fv 3) w1 := hp 3 (LC (by kernel_rfl))
   have h6 : EV _ (fv 6) w1 := hp 6 (LC (by kernel_rfl))
   refine tyAt_none rfl ?_
   simp [tyUpon, execOp, go_sem, Act.eval, h3, h6, hmx, (of_decide_eq_true hcb), (of_decide_eq_true hcd), (of_decide_eq_false hbig), Below.refl]
  ·have h7 : EV _ (fv 7) w1 := hp 7 (LC (by kernel_rfl))
   refine tyAt_none rfl ?_
   simp [tyUpon, execOp, go_sem, Act.eval, h7, hmx, (of_decide_eq_true hcb), (of_decide_eq_true hcd), (of_decide_eq_false hbig), Below.refl]
 ·intro fv x16 hb1 hv
  have e0 : fv 0 = _ := hv 0 (by omega)
  have e1 : fv 1 = _ := hv 1 (by omega)
  have e2 : fv 2 = _ := hv 2 (by omega)
  have e3 : fv 3 = _ := hv 3 (by omega)
  have e4 : fv 4 = _ := hv 4 (by omega)
  have q5 : Rn x16 (fv 5) dn := hv 5 (by omega)
  obtain ⟨g3, d3, e5⟩ := rn_form q5
  rw [e5] at q5
  have e6 : fv 6 = _ := hv 6 (by omega)
  have e7 : fv 7 = _ := hv 7 (by omega)
  have e8 : fv 8 = _ := hv 8 (by omega)
  simp only [List.take_succ_cons, List.take_zero, putsV, Act.put, List.setIfInBounds_toArray, List.set_cons_succ, List.set_cons_zero, List.drop_succ_cons, List.drop_zero, Nat.zero_add, Nat.reduceAdd, e0, e1, e2, e3, e4, e5, e6, e7, e8]
  replace hL0 := hL0.call (below_drew hb1)
  replace hS := hS.call (below_drew hb1)
  replace hS := hS.cons q5
  clear e0 e1 e2 e3 e4 e5 e6 e7 e8 hb1 hv q5 fv
  go_upto_region 13 with fail
  refine region_tl 44 [EV (fracV a), EV (fracV a), EV (.int .i64 0), EV (.bool true), EV (.bool true), EV (fracV a), EV (fracV o), EV (fracV s), EV (fracV a), EV (.int .i64 c2), EV (.bool true), EV (.bool true), EV (.bool true), EV (fracV a), EV (fracV a), EV (.int .i64 0), EV (.bool true), EV (.bool true), EV (.bool true), EV (fracV a), EV (fracV o), EV (fracV t), EV (fracV a), EV (.int .i64 c4), EV (.bool true), EV (.bool true), EV (.bool true), EV (fracV a), EV (fracV a), EV (.bool true), EV (.bool true), EV (.bool true), EV (.bool true), EV (.bool true), EV (fracV a), EV (fracV a), EV (.bool true), EV (.bool true), EV (.bool true), EV (.bool true), EV (.bool true), EV (.bool true), EV (.bool true), EV (.bool true)] (by kernel_rfl) (by kernel_rfl) ?_ ?_ ?_
  ·exact stays_cons (stays_eq _) (stays_cons (stays_eq _) (stays_cons (stays_eq _) (stays_cons (stays_eq _) (stays_cons (stays_eq _) (stays_cons (stays_eq _) (stays_cons (stays_eq _) (stays_cons (stays_eq _) (stays_cons (stays_eq _) (stays_cons (stays_eq _) (stays_cons (stays_eq _) (stays_cons (stays_eq _) (stays_cons (stays_eq _) (stays_cons (stays_eq _) (stays_cons (stays_eq _) (stays_cons (stays_eq _) (stays_cons (stays_eq _) (stays_cons (stays_eq _) (stays_cons (stays_eq _) (stays_cons (stays_eq _) (stays_cons (stays_eq _) (stays_cons (stays_eq _) (stays_cons (stays_eq _) (stays_cons (stays_eq _) (stays_cons (stays_eq _) (stays_cons (stays_eq _) (stays_cons (stays_eq _) (stays_cons (stays_eq _) (stays_cons (stays_eq _) (stays_cons (stays_eq _) (stays_cons (stays_eq _) (stays_cons (stays_eq _) (stays_cons (stays_eq _) (stays_cons (stays_eq _) (stays_cons (stays_eq _) (stays_cons (stays_eq _) (stays_cons (stays_eq _) (stays_cons (stays_eq _) (stays_cons (stays_eq _) (stays_cons (stays_eq _) (stays_cons (stays_eq _) (stays_cons (stays_eq _) (stays_cons (stays_eq _) (stays_cons (stays_eq _) (stays_nil))))))))))))))))))))))))))))))))))))))))))))
  ·simp only [List.take_succ_cons, List.take_zero, hopsR, and_true]
   refine ⟨?_, ?_, ?_, ?_, ?_, ?_, ?_, ?_, ?_, ?_, ?_, ?_, ?_, ?_, ?_, ?_, ?_, ?_, ?_, ?_, ?_, ?_, ?_, ?_, ?_, ?_, ?_, ?_, ?_, ?_, ?_, ?_, ?_, ?_, ?_, ?_, ?_, ?_, ?_, ?_, ?_, ?_, ?_, ?_⟩ <;> intro fv w1 hb1 hp
   all_goals (simp only [putsV, Act.put, List.setIfInBounds_toArray, List.set_cons_succ, List.set_cons_zero, Nat.zero_add, Nat.reduceAdd])
   ·refine tyAt_none rfl ?_
    have hc := (hL0.call (below_drew hb1)).fc
    simp only [fcG, cellsF, neK, and_true, ne_eq, Nat.zero_add, Nat.reduceAdd] at hc
    simp [tyUpon, execOp, go_sem, Act.eval, hc, hmx, (of_decide_eq_true hcb), (of_decide_eq_true hcd), (of_decide_eq_false hbig), Below.refl]
   ·refine tyAt_none rfl ?_
    have hc := (hL0.call (below_drew hb1)).fc
    simp only [fcG, cellsF, neK, and_true, ne_eq, Nat.zero_add, Nat.reduceAdd] at hc
    simp [tyUpon, execOp, go_sem, Act.eval, hc, hmx, (of_decide_eq_true hcb), (of_decide_eq_true hcd), (of_decide_eq_false hbig), Below.refl]
   ·have h0 : EV _ (fv 0) w1 := hp 0 (LC (by kernel_rfl))
    have h1 : EV _ (fv 1) w1 := hp 1 (LC (by kernel_rfl))
    refine tyAt_none rfl ?_
    refine ty_call (f := 73) (args := #[fracV a, fracV a]) (by simp [execOp, go_sem, Act.eval, h0, h1]) ?_
    exact (HC1.out w1).mono fun e w2 ⟨h1, h2⟩ => ⟨_, h1, rfl, h2⟩
   ·have h2 : EV _ (fv 2) w1 := hp 2 (LC (by kernel_rfl))
    refine tyAt_none rfl ?_
    simp [tyUpon, execOp, go_sem, Act.eval, h2, hmx, (of_decide_eq_true hcb), (of_decide_eq_true hcd), (of_decide_eq_false hbig), Below.refl]
   ·have h3 : EV _ (fv 3) w1 := hp 3 (LC (by kernel_rfl))
    refine tyAt_none rfl ?_
    simp [tyUpon, execOp, go_sem, Act.eval, h3, hmx, (of_decide_eq_true hcb), (of_decide_eq_true hcd), (of_decide_eq_false hbig), Below.refl]
   ·have h4 : EV _ (fv 4) w1 := hp 4 (LC (by kernel_rfl))
    refine tyAt_yes (by simp [Region.wanted, yielded, h4]) ?_
    have hc := (hL0.call (below_drew hb1)).fc
    simp only [fcG, cellsF, neK, and_true, ne_eq, Nat.zero_add, Nat.reduceAdd] at hc
    simp [tyUpon, execOp, go_sem, Act.eval, hc, h4, hmx, (of_decide_eq_true hcb), (of_decide_eq_true hcd), (of_decide_eq_false hbig), Below.refl]
   ·have h4 : EV _ (fv 4) w1 := hp 4 (LC (by kernel_rfl))
    refine tyAt_yes (by simp [Region.wanted, yielded, h4]) ?_
    refine ty_call (f := 87) (args := #[.int .i64 1]) (by simp [execOp, go_sem, Act.eval, h4]) ?_
    exact (HI.out w1).mono fun e w2 ⟨h1, h2⟩ => ⟨_, h1, rfl, h2⟩
   ·have h5 : EV _ (fv 5) w1 := hp 5 (LC (by kernel_rfl))
    have h6 : EV _ (fv 6) w1 := hp 6 (LC (by kernel_rfl))
    have h4 : EV _ (fv 4) w1 := hp 4 (LC (by kernel_rfl))
    refine tyAt_yes (by simp [Region.wanted, yielded, h5, h6, h4]) ?_
    refine ty_call (f := 61) (args := #[fracV a, fracV o]) (by simp [execOp, go_sem, Act.eval, h5, h6, h4]) ?_
    exact (HA.out w1).mono fun e w2 ⟨h1, h2⟩ => ⟨_, h1, rfl, h2⟩
   ·have h4 : EV _ (fv 4) w1 := hp 4 (LC (by kernel_rfl))
    refine tyAt_yes (by simp [Region.wanted, yielded, h4]) ?_
    have hc := (hL0.call (below_drew hb1)).fc
    simp only [fcG, cellsF, neK, and_true, ne_eq, Nat.zero_add, Nat.reduceAdd] at hc
    simp [tyUpon, execOp, go_sem, Act.eval, hc, h4, hmx, (of_decide_eq_true hcb), (of_decide_eq_true hcd), (of_decide_eq_false hbig), Below.refl]
   ·have h7 : EV _ (fv 7) w1 := hp 7 (LC (by kernel_rfl))
    have h8 : EV _ (fv 8) w1 := hp 8 (LC (by kernel_rfl))
    have h4 : EV _ (fv 4) w1 := hp 4 (LC (by kernel_rfl))
    refine tyAt_yes (by simp [Region.wanted, yielded, h7, h8, h4]) ?_
    refine ty_call (f := 73) (args := #[fracV s, fracV a]) (by simp [execOp, go_sem, Act.eval, h7, h8, h4]) ?_
    exact (HC2.out w1).mono fun e w2 ⟨h1, h2⟩ => ⟨_, h1, rfl, h2⟩
   ·have h9 : EV _ (fv 9) w1 := hp 9 (LC (by kernel_rfl))
    have h4 : EV _ (fv 4) w1 := hp 4 (LC (by kernel_rfl))
    refine tyAt_yes (by simp [Region.wanted, yielded, h9, h4]) ?_
    simp [tyUpon, execOp, go_sem, Act.eval, h9, h4, hmx, (of_decide_eq_true hcb), (of_decide_eq_true hcd), (of_decide_eq_false hbig), Below.refl]
   ·have h4 : EV _ (fv 4) w1 := hp 4 (LC (by kernel_rfl))
    have h10 : EV _ (fv 10) w1 := hp 10 (LC (by kernel_rfl))
    refine tyAt_none rfl ?_
    simp [tyUpon, execOp, go_sem, Act.eval, h4, h10, hmx, (of_decide_eq_true hcb), (of_decide_eq_true hcd), (of_decide_eq_false hbig), Below.refl]
   ·have h11 : EV _ (fv 11) w1 := hp 11 (LC (by kernel_rfl))
    refine tyAt_none rfl ?_
    simp [tyUpon, execOp, go_sem, Act.eval, h11, hmx, (of_decide_eq_true hcb), (of_decide_eq_true hcd), (of_decide_eq_false hbig), Below.refl]
   ·have h12 : EV _ (fv 12) w1 := hp 12 (LC (by kernel_rfl))
    refine tyAt_yes (by simp [Region.wanted, yielded, h12]) ?_
    have hc := (hL0.call (below_drew hb1)).fc
    simp only [fcG, cellsF, neK, and_true, ne_eq, Nat.zero_add, Nat.reduceAdd] at hc
    simp [tyUpon, execOp, go_sem, Act.eval, hc, h12, hmx, (of_decide_eq_true hcb), (of_decide_eq_true hcd), (of_decide_eq_false hbig), Below.refl]
   ·have h12 : EV _ (fv 12) w1 := hp 12 (LC (by kernel_rfl))
    refine tyAt_yes (by simp [Region.wanted, yielded, h12]) ?_
    have hc := (hL0.call (below_drew hb1)).fc
    simp only [fcG, cellsF, neK, and_true, ne_eq, Nat.zero_add, Nat.reduceAdd] at hc
    simp [tyUpon, execOp, go_sem, Act.eval, hc, h12, hmx, (of_decide_eq_true hcb), (of_decide_eq_true hcd), (of_decide_eq_false hbig), Below.refl]
   ·have h13 : EV _ (fv 13) w1 := hp 13 (LC (by kernel_rfl))
    have h14 : EV _ (fv 14) w1 := hp 14 (LC (by kernel_rfl))
    have h12 : EV _ (fv 12) w1 := hp 12 (LC (by kernel_rfl))
    refine tyAt_yes (by simp [Region.wanted, yielded, h13, h14, h12]) ?_
    refine ty_call (f := 73) (args := #[fracV a, fracV a]) (by simp [execOp, go_sem, Act.eval, h13, h14, h12]) ?_
    exact (HC1.out w1).mono fun e w2 ⟨h1, h2⟩ => ⟨_, h1, rfl, h2⟩
   ·have h15 : EV _ (fv 15) w1 := hp 15 (LC (by kernel_rfl))
    have h12 : EV _ (fv 12) w1 := hp 12 (LC (by kernel_rfl))
    refine tyAt_yes (by simp [Region.wanted, yielded, h15, h12]) ?_
    simp [tyUpon, execOp, go_sem, Act.eval, h15, h12, hmx, (of_decide_eq_true hcb), (of_decide_eq_true hcd), (of_decide_eq_false hbig), Below.refl]
   ·have h12 : EV _ (fv 12) w1 := hp 12 (LC (by kernel_rfl))
    have h16 : EV _ (fv 16) w1 := hp 16 (LC (by kernel_rfl))
    refine tyAt_none rfl ?_
    simp [tyUpon, execOp, go_sem, Act.eval, h12, h16, hmx, (of_decide_eq_true hcb), (of_decide_eq_true hcd), (of_decide_eq_false hbig), Below.refl]
   ·have h17 : EV _ (fv 17) w1 := hp 17 (LC (by kernel_rfl))
    refine tyAt_none rfl ?_
    simp [tyUpon, execOp, go_sem, Act.eval, h17, hmx, (of_decide_eq_true hcb), (of_decide_eq_true hcd), (of_decide_eq_false hbig), Below.refl]
   ·have h18 : EV _ (fv 18) w1 := hp 18 (LC (by kernel_rfl))
    refine tyAt_yes (by simp [Region.wanted, yielded, h18]) ?_
    have hc := (hL0.call (below_drew hb1)).fc
    simp only [fcG, cellsF, neK, and_true, ne_eq, Nat.zero_add, Nat.reduceAdd] at hc
    simp [tyUpon, execOp, go_sem, Act.eval, hc, h18, hmx, (of_decide_eq_true hcb), (of_decide_eq_true hcd), (of_decide_eq_false hbig), Below.refl]
   ·have h18 : EV _ (fv 18) w1 := hp 18 (LC (by kernel_rfl))
    refine tyAt_yes (by simp [Region.wanted, yielded, h18]) ?_
    refine ty_call (f := 87) (args := #[.int .i64 1]) (by simp [execOp, go_sem, Act.eval, h18]) ?_
    exact (HI.out w1).mono fun e w2 ⟨h1, h2⟩ => ⟨_, h1, rfl, h2⟩
   ·have h19 : EV _ (fv 19) w1 := hp 19 (LC (by kernel_rfl))
    have h20 : EV _ (fv 20) w1 := hp 20 (LC (by kernel_rfl))
    have h18 : EV _ (fv 18) w1 := hp 18 (LC (by kernel_rfl))
    refine tyAt_yes (by simp [Region.wanted, yielded, h19, h20, h18]) ?_
    refine ty_call (f := 63) (args := #[fracV a, fracV o]) (by simp [execOp, go_sem, Act.eval, h19, h20, h18]) ?_
    exact (HS.out w1).mono fun e w2 ⟨h1, h2⟩ => ⟨_, h1, rfl, h2⟩
   ·have h18 : EV _ (fv 18) w1 := hp 18 (LC (by kernel_rfl))
    refine tyAt_yes (by simp [Region.wanted, yielded, h18]) ?_
    have hc := (hL0.call (below_drew hb1)).fc
    simp only [fcG, cellsF, neK, and_true, ne_eq, Nat.zero_add, Nat.reduceAdd] at hc
    simp [tyUpon, execOp, go_sem, Act.eval, hc, h18, hmx, (of_decide_eq_true hcb), (of_decide_eq_true hcd), (of_decide_eq_false hbig), Below.refl]
   ·have h21 : EV _ (fv 21) w1 := hp 21 (LC (by kernel_rfl))
    have h22 : EV _ (fv 22) w1 := hp 22 (LC (by kernel_rfl))
    have h18 : EV _ (fv 18) w1 := hp 18 (LC (by kernel_rfl))
    refine tyAt_yes (by simp [Region.wanted, yielded, h21, h22, h18]) ?_
    refine ty_call (f := 73) (args := #[fracV t, fracV a]) (by simp [execOp, go_sem, Act.eval, h21, h22, h18]) ?_
    exact (HC4.out w1).mono fun e w2 ⟨h1, h2⟩ => ⟨_, h1, rfl, h2⟩
   ·have h23 : EV _ (fv 23) w1 := hp 23 (LC (by kernel_rfl))
    have h18 : EV _ (fv 18) w1 := hp 18 (LC (by kernel_rfl))
    refine tyAt_yes (by simp [Region.wanted, yielded, h23, h18]) ?_
    simp [tyUpon, execOp, go_sem, Act.eval, h23, h18, hmx, (of_decide_eq_true hcb), (of_decide_eq_true hcd), (of_decide_eq_false hbig), Below.refl]
   ·have h18 : EV _ (fv 18) w1 := hp 18 (LC (by kernel_rfl))
    have h24 : EV _ (fv 24) w1 := hp 24 (LC (by kernel_rfl))
    refine tyAt_none rfl ?_
    simp [tyUpon, execOp, go_sem, Act.eval, h18, h24, hmx, (of_decide_eq_true hcb), (of_decide_eq_true hcd), (of_decide_eq_false hbig), Below.refl]
   ·have h25 : EV _ (fv 25) w1 := hp 25 (LC (by kernel_rfl))
    refine tyAt_none rfl ?_
    simp [tyUpon, execOp, go_sem, Act.eval, h25, hmx, (of_decide_eq_true hcb), (of_decide_eq_true hcd), (of_decide_eq_false hbig), Below.refl]
   ·have h26 : EV _ (fv 26) w1 := hp 26 (LC (by kernel_rfl))
    refine tyAt_yes (by simp [Region.wanted, yielded, h26]) ?_
    have hc := (hL0.call (below_drew hb1)).fc
    simp only [fcG, cellsF, neK, and_true, ne_eq, Nat.zero_add, Nat.reduceAdd] at hc
    simp [tyUpon, execOp, go_sem, Act.eval, hc, h26, hmx, (of_decide_eq_true hcb), (of_decide_eq_true hcd), (of_decide_eq_false hbig), Below.refl]
   ·have h26 : EV _ (fv 26) w1 := hp 26 (LC (by kernel_rfl))
    refine tyAt_yes (by simp [Region.wanted, yielded, h26]) ?_
    have hc := (hL0.call (below_drew hb1)).fc
    simp only [fcG, cellsF, neK, and_true, ne_eq, Nat.zero_add, Nat.reduceAdd] at hc
    simp [tyUpon, execOp, go_sem, Act.eval, hc, h26, hmx, (of_decide_eq_true hcb), (of_decide_eq_true hcd), (of_decide_eq_false hbig), Below.refl]
   ·have h27 : EV _ (fv 27) w1 := hp 27 (LC (by kernel_rfl))
    have h28 : EV _ (fv 28) w1 := hp 28 (LC (by kernel_rfl))
    have h26 : EV _ (fv 26) w1 := hp 26 (LC (by kernel_rfl))
    refine tyAt_yes (by simp [Region.wanted, yielded, h27, h28, h26]) ?_
    simp [tyUpon, execOp, go_sem, Act.eval, h27, h28, h26, hmx, (of_decide_eq_true hcb), (of_decide_eq_true hcd), (of_decide_eq_false hbig), Below.refl]
   ·have h26 : EV _ (fv 26) w1 := hp 26 (LC (by kernel_rfl))
    refine tyAt_yes (by simp [Region.wanted, yielded, h26]) ?_
    simp [tyUpon, execOp, go_sem, Act.eval, h26, hmx, (of_decide_eq_true hcb), (of_decide_eq_true hcd), (of_decide_eq_false hbig), Below.refl]
   ·have h29 : EV _ (fv 29) w1 := hp 29 (LC (by kernel_rfl))
    have h30 : EV _ (fv 30) w1 := hp 30 (LC (by kernel_rfl))
    have h26 : EV _ (fv 26) w1 := hp 26 (LC (by kernel_rfl))
    refine tyAt_yes (by simp [Region.wanted, yielded, h29, h30, h26]) ?_
    simp [tyUpon, execOp, go_sem, Act.eval, h29, h30, h26, hmx, (of_decide_eq_true hcb), (of_decide_eq_true hcd), (of_decide_eq_false hbig), Below.refl]
   ·have h26 : EV _ (fv 26) w1 := hp 26 (LC (by kernel_rfl))
    have h31 : EV _ (fv 31) w1 := hp 31 (LC (by kernel_rfl))
    refine tyAt_none rfl ?_
    simp [tyUpon, execOp, go_sem, Act.eval, h26, h31, hmx, (of_decide_eq_true hcb), (of_decide_eq_true hcd), (of_decide_eq_false hbig), Below.refl]
   ·have h32 : EV _ (fv 32) w1 := hp 32 (LC (by kernel_rfl))
    refine tyAt_none rfl ?_
    simp [tyUpon, execOp, go_sem, Act.eval, h32, hmx, (of_decide_eq_true hcb), (of_decide_eq_true hcd), (of_decide_eq_false hbig), Below.refl]
   ·have h33 : EV _ (fv 33) w1 := hp 33 (LC (by kernel_rfl))
    refine tyAt_yes (by simp [Region.wanted, yielded, h33]) ?_
    have hc := (hL0.call (below_drew hb1)).fc
    simp only [fcG, cellsF, neK, and_true, ne_eq, Nat.zero_add, Nat.reduceAdd] at hc
    simp [tyUpon, execOp, go_sem, Act.eval, hc, h33, hmx, (of_decide_eq_true hcb), (of_decide_eq_true hcd), (of_decide_eq_false hbig), Below.refl]
   ·have h33 : EV _ (fv 33) w1 := hp 33 (LC (by kernel_rfl))
    refine tyAt_yes (by simp [Region.wanted, yielded, h33]) ?_
    have hc := (hL0.call (below_drew hb1)).fc
    simp only [fcG, cellsF, neK, and_true, ne_eq, Nat.zero_add, Nat.reduceAdd] at hc
    simp [tyUpon, execOp, go_sem, Act.eval, hc, h33, hmx, (of_decide_eq_true hcb), (of_decide_eq_true hcd), (of_decide_eq_false hbig), Below.refl]
   ·have h34 : EV _ (fv 34) w1 := hp 34 (LC (by kernel_rfl))
    have h35 : EV _ (fv 35) w1 := hp 35 (LC (by kernel_rfl))
    have h33 : EV _ (fv 33) w1 := hp 33 (LC (by kernel_rfl))
    refine tyAt_yes (by simp [Region.wanted, yielded, h34, h35, h33]) ?_
    simp [tyUpon, execOp, go_sem, Act.eval, h34, h35, h33, hmx, (of_decide_eq_true hcb), (of_decide_eq_true hcd), (of_decide_eq_false hbig), Below.refl]
   ·have h33 : EV _ (fv 33) w1 := hp 33 (LC (by kernel_rfl))
    refine tyAt_yes (by simp [Region.wanted, yielded, h33]) ?_
    simp [tyUpon, execOp, go_sem, Act.eval, h33, hmx, (of_decide_eq_true hcb), (of_decide_eq_true hcd), (of_decide_eq_false hbig), Below.refl]
   ·have h36 : EV _ (fv 36) w1 := hp 36 (LC (by kernel_rfl))
    have h37 : EV _ (fv 37) w1 := hp 37 (LC (by kernel_rfl))
    have h33 : EV _ (fv 33) w1 := hp 33 (LC (by kernel_rfl))
    refine tyAt_yes (by simp [Region.wanted, yielded, h36, h37, h33]) ?_
    simp [tyUpon, execOp, go_sem, Act.eval, h36, h37, h33, hmx, (of_decide_eq_true hcb), (of_decide_eq_true hcd), (of_decide_eq_false hbig), Below.refl]
   ·have h33 : EV _ (fv 33) w1 := hp 33 (LC (by kernel_rfl))
    have h38 : EV _ (fv 38) w1 := hp 38 (LC (by kernel_rfl))
    refine tyAt_none rfl ?_
    simp [tyUpon, execOp, go_sem, Act.eval, h33, h38, hmx, (of_decide_eq_true hcb), (of_decide_eq_true hcd), (of_decide_eq_false hbig), Below.refl]
   ·have h39 : EV _ (fv 39) w1 := hp 39 (LC (by kernel_rfl))
    refine tyAt_none rfl ?_
    simp [tyUpon, execOp, go_sem, Act.eval, h39, hmx, (of_decide_eq_true hcb), (of_decide_eq_true hcd), (of_decide_eq_false hbig), Below.refl]
   ·have h40 : EV _ (fv 40) w1 := hp 40 (LC (by kernel_rfl))
    refine tyAt_yes (by simp [Region.wanted, yielded, h40]) ?_
    refine ty_call (f := 54) (args := #[]) (by simp [execOp, go_sem, Act.eval, h40]) ?_
    exact (HW.out w1 (hKT.out.at ((hL0.call (below_drew hb1)).bl) kKT)).mono fun e w2 ⟨h1, h2⟩ => ⟨_, h1, rfl, h2⟩
   ·have h40 : EV _ (fv 40) w1 := hp 40 (LC (by kernel_rfl))
    have h41 : EV _ (fv 41) w1 := hp 41 (LC (by kernel_rfl))
    refine tyAt_none rfl ?_
    simp [tyUpon, execOp, go_sem, Act.eval, h40, h41, hmx, (of_decide_eq_true hcb), (of_decide_eq_true hcd), (of_decide_eq_false hbig), Below.refl]
   ·have h42 : EV _ (fv 42) w1 := hp 42 (LC (by kernel_rfl))
    refine tyAt_none rfl ?_
    simp [tyUpon, execOp, go_sem, Act.eval, h42, hmx, (of_decide_eq_true hcb), (of_decide_eq_true hcd), (of_decide_eq_false hbig), Below.refl]
  ·intro fv x17 hb1 hv
   have e0 : fv 0 = _ := hv 0 (by omega)
   have e1 : fv 1 = _ := hv 1 (by omega)
   have e2 : fv 2 = _ := hv 2 (by omega)
   have e3 : fv 3 = _ := hv 3 (by omega)
   have e4 : fv 4 = _ := hv 4 (by omega)
   have e5 : fv 5 = _ := hv 5 (by omega)
   have e6 : fv 6 = _ := hv 6 (by omega)
   have e7 : fv 7 = _ := hv 7 (by omega)
   have e8 : fv 8 = _ := hv 8 (by omega)
   have e9 : fv 9 = _ := hv 9 (by omega)
   have e10 : fv 10 = _ := hv 10 (by omega)
   have e11 : fv 11 = _ := hv 11 (by omega)
   have e12 : fv 12 = _ := hv 12 (by omega)
   have e13 : fv 13 = _ := hv 13 (by omega)
   have e14 : fv 14 = _ := hv 14 (by omega)
   have e15 : fv 15 = _ := hv 15 (by omega)
   have e16 : fv 16 = _ := hv 16 (by omega)
   have e17 : fv 17 = _ := hv 17 (by omega)
   have e18 : fv 18 = _ := hv 18 (by omega)
   have e19 : fv 19 = _ := hv 19 (by omega)
   have e20 : fv 20 = _ := hv 20 (by omega)
   have e21 : fv 21 = _ := hv 21 (by omega)
   have e22 : fv 22 = _ := hv 22 (by omega)
   have e23 : fv 23 = _ := hv 23 (by omega)
   have e24 : fv 24 = _ := hv 24 (by omega)
   have e25 : fv 25 = _ := hv 25 (by omega)
   have e26 : fv 26 = _ := hv 26 (by omega)
   have e27 : fv 27 = _ := hv 27 (by omega)
   have e28 : fv 28 = _ := hv 28 (by omega)
   have e29 : fv 29 = _ := hv 29 (by omega)
   have e30 : fv 30 = _ := hv 30 (by omega)
   have e31 : fv 31 = _ := hv 31 (by omega)
   have e32 : fv 32 = _ := hv 32 (by omega)
   have e33 : fv 33 = _ := hv 33 (by omega)
   have e34 : fv 34 = _ := hv 34 (by omega)
   have e35 : fv 35 = _ := hv 35 (by omega)
   have e36 : fv 36 = _ := hv 36 (by omega)
   have e37 : fv 37 = _ := hv 37 (by omega)
   have e38 : fv 38 = _ := hv 38 (by omega)
   have e39 : fv 39 = _ := hv 39 (by omega)
   have e40 : fv 40 = _ := hv 40 (by omega)
   have e41 : fv 41 = _ := hv 41 (by omega)
   have e42 : fv 42 = _ := hv 42 (by omega)
   have e43 : fv 43 = _ := hv 43 (by omega)
   simp only [List.take_succ_cons, List.take_zero, putsV, Act.put, List.setIfInBounds_toArray, List.set_cons_succ, List.set_cons_zero, List.drop_succ_cons, List.drop_zero, Nat.zero_add, Nat.reduceAdd, e0, e1, e2, e3, e4, e5, e6, e7, e8, e9, e10, e11, e12, e13, e14, e15, e16, e17, e18, e19, e20, e21, e22, e23, e24, e25, e26, e27, e28, e29, e30, e31, e32, e33, e34, e35, e36, e37, e38, e39, e40, e41, e42, e43]
   replace hL0 := hL0.call (below_drew hb1)
   replace hS := hS.call (below_drew hb1)
   clear e0 e1 e2 e3 e4 e5 e6 e7 e8 e9 e10 e11 e12 e13 e14 e15 e16 e17 e18 e19 e20 e21 e22 e23 e24 e25 e26 e27 e28 e29 e30 e31 e32 e33 e34 e35 e36 e37 e38 e39 e40 e41 e42 e43 hb1 hv fv
   go_wp2_with fail
   exact bodyPost_ret (v := .bool true) (by simp [results, Tryz.results9, go_sem]) rfl ⟨rfl, hL0.bl⟩
set_option maxHeartbeats 4000000 in
set_option maxRecDepth 100000 in
theorem ffloors_wb (sx : Bool) (ax qx : Option Addr) (nx cx mx dx : Nat) (a o s t : Rat) (dn : Nat) (u v i j x c2 c4 : Int) (Kx : World → Prop) (hKx : Keeps Kx) (GX : RK Kx 55 #[.agg #[.bool sx, .slice ax nx cx, .slice qx mx dx]] (fracV a)) (HFl : RT 75 #[fracV a] (intV u)) (HO : RT 81 #[.int .u64 1] (natV 1)) (HFr : RT 80 #[intV u, natV 1] (.tuple #[fracV a, .int .i64 0])) (HCe : RT 82 #[fracV a] (intV v)) (HFs : RT 80 #[intV v, natV 1] (.tuple #[fracV a, .int .i64 0])) (HWh : RT 83 #[fracV a] (.bool true)) (RX : ∀ (w : World), Kx w → Calls Tryz.prog 56 #[.agg #[.bool sx, .slice ax nx cx, .slice qx mx dx]] w fun e w' => ∃ pv, e = .returned pv ∧ RF w' pv a ∧ Below w.heap.size w w') (HB1 : ∀ (p0 : Value) (w : World), Rn w p0 a.num.natAbs → Calls Tryz.prog 84 #[p0] w fun e w' => e = .returned (.int .i64 i) ∧ Below w.heap.size w w') (HDn : ∀ (p0 : Value) (w : World), RF w p0 a → Calls Tryz.prog 85 #[p0] w fun e w' => ∃ pv, e = .returned pv ∧ Rn w' pv dn ∧ Below w.heap.size w w') (HB2 : ∀ (p0 : Value) (w : World), Rn w p0 dn → Calls Tryz.prog 84 #[p0] w fun e w' => e = .returned (.int .i64 j) ∧ Below w.heap.size w w') (HP1 : RT 86 #[fracV a, .int .i64 4096] (.tuple #[.agg #[.int .u64 0, .string ⟨#[]⟩, .bool false, .int .u64 0, .string ⟨#[]⟩], .int .i64 3])) (HP2 : RT 86 #[fracV a, .int .i64 (-4096)] (.tuple #[.agg #[.int .u64 0, .string ⟨#[]⟩, .bool false, .int .u64 0, .string ⟨#[]⟩], .int .i64 3])) (HC1 : RT 73 #[fracV a, fracV a] (.int .i64 0)) (HI : RT 87 #[.int .i64 1] (fracV o)) (HA : RT 61 #[fracV a, fracV o] (fracV s)) (HC2 : RT 73 #[fracV s, fracV a] (.int .i64 c2)) (HS : RT 63 #[fracV a, fracV o] (fracV t)) (HC4 : RT 73 #[fracV t, fracV a] (.int .i64 c4)) (KT : World → Prop) (hKT : Keeps KT) (HW : RK KT 54 #[] (.bool true)) (hfew : decide (nx ≤ 10 ∧ mx ≤ 10) = true) (hcb : decide (0 < c2) = true) (hcd : decide (c4 < 0) = true) (hmx : max i j = x) (hbig : decide (64 < x) = true) (w : World) (kKx : Kx w) (kKT : KT w) :
  Calls Tryz.prog 9 #[.agg #[.bool sx, .slice ax nx cx, .slice qx mx dx]] w fun e w' => e = .returned (.bool true) ∧ Below w.heap.size w w' := by
 replace hKx := Lib.hid hKx
 replace GX := Lib.hid GX
 replace HFl := Lib.hid HFl
 replace HO := Lib.hid HO
 replace HFr := Lib.hid HFr
 replace HCe := Lib.hid HCe
 replace HFs := Lib.hid HFs
 replace HWh := Lib.hid HWh
 replace RX := Lib.hid RX
 replace HB1 := Lib.hid HB1
 replace HDn := Lib.hid HDn
 replace HB2 := Lib.hid HB2
 replace HP1 := Lib.hid HP1
 replace HP2 := Lib.hid HP2
 replace HC1 := Lib.hid HC1
 replace HI := Lib.hid HI
 replace HA := Lib.hid HA
 replace HC2 := Lib.hid HC2
 replace HS := Lib.hid HS
 replace HC4 := Lib.hid HC4
 replace hKT := Lib.hid hKT
 replace HW := Lib.hid HW
 have hL0 : GL w w [] := GL.start w
 have hS : SS w [] := SS.nil w
 replace hS := ((hS.new (.cells #[.bool sx, .slice ax nx cx, .slice qx mx dx] 76)).new (.cells #[.bool sx, .slice ax nx cx, .slice qx mx dx] 76))
 replace hL0 := ((hL0.new rfl [.bool sx, .slice ax nx cx, .slice qx mx dx] 76).new (K := w.heap.size + 1) (szA _ _) [.bool sx, .slice ax nx cx, .slice qx mx dx] 76)
 generalize hweq : ((w.alloc (.cells #[.bool sx, .slice ax nx cx, .slice qx mx dx] 76)).alloc (.cells #[.bool sx, .slice ax nx cx, .slice qx mx dx] 76)) = x1 at hL0 hS
 go_enter Tryz.func9, Tryz.ntmps9
 have hN0 := cells_of _ 0 [] rfl (hL0.get _ _ (List.mem_cons_of_mem _ List.mem_cons_self))
 simp only [cellsF, and_true, Nat.zero_add, Nat.reduceAdd] at hN0
 have HFw := gfew1 10 10 rfl (by omega) (hL0.get _ _ List.mem_cons_self)
 rw [hfew] at HFw
 replace HFw := Lib.hid HFw
 go_wp2_with fail
 with_reducible refine Calls.mono (HFw.out) ?_
 rintro e x2 ⟨rfl, rfl⟩
 clear HFw
 clear hN0
 have hN0 := cells_of _ 0 [] rfl (hL0.get _ _ (List.mem_cons_of_mem _ List.mem_cons_self))
 simp only [cellsF, and_true, Nat.zero_add, Nat.reduceAdd] at hN0
 go_wp2_with fail
 clear hN0
 with_reducible refine Calls.mono (GX.out _ (hKx.out.at (hL0.bl) kKx)) ?_
 rintro e x3 ⟨rfl, hb⟩
 replace hL0 := hL0.call hb
 replace hS := hS.call hb
 clear hb hweq
 replace hS := (hS.new (.cells #[.int .u64 ((zl a.num : Nat) : Int), .string (zh a.num), .bool (zs a.num), .int .u64 ((lo (fe a) : Nat) : Int), .string (hs (fe a))] 79))
 replace hL0 := (hL0.new rfl [.int .u64 ((zl a.num : Nat) : Int), .string (zh a.num), .bool (zs a.num), .int .u64 ((lo (fe a) : Nat) : Int), .string (hs (fe a))] 79)
 generalize hweq : (x3.alloc (.cells #[.int .u64 ((zl a.num : Nat) : Int), .string (zh a.num), .bool (zs a.num), .int .u64 ((lo (fe a) : Nat) : Int), .string (hs (fe a))] 79)) = x4 at hL0 hS
 have hN0 := cells_of _ 0 [] rfl (hL0.get _ _ List.mem_cons_self)
 simp only [cellsF, and_true, Nat.zero_add, Nat.reduceAdd] at hN0
 go_wp2_with fail
 clear hN0
 with_reducible refine Calls.mono (HFl.out _) ?_
 rintro e x5 ⟨rfl, hb⟩
 replace hL0 := hL0.call hb
 replace hS := hS.call hb
 clear hb hweq
 go_wp2_with fail
 with_reducible refine Calls.mono (HO.out _) ?_
 rintro e x6 ⟨rfl, hb⟩
 replace hL0 := hL0.call hb
 replace hS := hS.call hb
 clear hb
 go_wp2_with fail
 with_reducible refine Calls.mono (HFr.out _) ?_
 rintro e x7 ⟨rfl, hb⟩
 replace hL0 := hL0.call hb
 replace hS := hS.call hb
 clear hb
 replace hS := (hS.new (.cells #[.int .u64 ((zl a.num : Nat) : Int), .string (zh a.num), .bool (zs a.num), .int .u64 ((lo (fe a) : Nat) : Int), .string (hs (fe a))] 79))
 replace hL0 := (hL0.new rfl [.int .u64 ((zl a.num : Nat) : Int), .string (zh a.num), .bool (zs a.num), .int .u64 ((lo (fe a) : Nat) : Int), .string (hs (fe a))] 79)
 generalize hweq : (x7.alloc (.cells #[.int .u64 ((zl a.num : Nat) : Int), .string (zh a.num), .bool (zs a.num), .int .u64 ((lo (fe a) : Nat) : Int), .string (hs (fe a))] 79)) = x8 at hL0 hS
 have hN0 := cells_of _ 0 [] rfl (hL0.get _ _ (List.mem_cons_of_mem _ List.mem_cons_self))
 simp only [cellsF, and_true, Nat.zero_add, Nat.reduceAdd] at hN0
 go_wp2_with fail
 clear hN0
 with_reducible refine Calls.mono (HCe.out _) ?_
 rintro e x9 ⟨rfl, hb⟩
 replace hL0 := hL0.call hb
 replace hS := hS.call hb
 clear hb hweq
 go_wp2_with fail
 with_reducible refine Calls.mono (HO.out _) ?_
 rintro e x10 ⟨rfl, hb⟩
 replace hL0 := hL0.call hb
 replace hS := hS.call hb
 clear hb
 go_wp2_with fail
 with_reducible refine Calls.mono (HFs.out _) ?_
 rintro e x11 ⟨rfl, hb⟩
 replace hL0 := hL0.call hb
 replace hS := hS.call hb
 clear hb
 replace hS := (hS.new (.cells #[.int .u64 ((zl a.num : Nat) : Int), .string (zh a.num), .bool (zs a.num), .int .u64 ((lo (fe a) : Nat) : Int), .string (hs (fe a))] 79))
 replace hL0 := (hL0.new rfl [.int .u64 ((zl a.num : Nat) : Int), .string (zh a.num), .bool (zs a.num), .int .u64 ((lo (fe a) : Nat) : Int), .string (hs (fe a))] 79)
 generalize hweq : (x11.alloc (.cells #[.int .u64 ((zl a.num : Nat) : Int), .string (zh a.num), .bool (zs a.num), .int .u64 ((lo (fe a) : Nat) : Int), .string (hs (fe a))] 79)) = x12 at hL0 hS
 have hN0 := cells_of _ 0 [] rfl (hL0.get _ _ (List.mem_cons_of_mem _ (List.mem_cons_of_mem _ List.mem_cons_self)))
 simp only [cellsF, and_true, Nat.zero_add, Nat.reduceAdd] at hN0
 go_wp2_with fail
 clear hN0
 with_reducible refine Calls.mono (HWh.out _) ?_
 rintro e x13 ⟨rfl, hb⟩
 replace hL0 := hL0.call hb
 replace hS := hS.call hb
 clear hb hweq
 have hN0 := cells_of _ 0 [] rfl (hL0.get _ _ (List.mem_cons_of_mem _ (List.mem_cons_of_mem _ (List.mem_cons_of_mem _ (List.mem_cons_of_mem _ List.mem_cons_self)))))
 simp only [cellsF, and_true, Nat.zero_add, Nat.reduceAdd] at hN0
 go_wp2_with fail
 clear hN0
 with_reducible refine Calls.mono (RX.out _ (hKx.out.at (hL0.bl) kKx)) ?_
 rintro e x14 ⟨v0, rfl, q0, hb⟩
 replace hL0 := hL0.call hb
 replace hS := hS.call hb
 clear hb
 obtain ⟨g1, d1, g2, d2, rfl⟩ := rf_form q0
 replace hS := hS.cons (rf_rn1 q0)
 replace hS := hS.cons (rf_rn2 q0)
 clear q0
 replace hS := (hS.new (.cells #[.bool (zs a.num), .slice g1 (tln a.num.natAbs) d1, .slice g2 (tln (fd a)) d2] 82))
 replace hL0 := (hL0.new rfl [.bool (zs a.num), .slice g1 (tln a.num.natAbs) d1, .slice g2 (tln (fd a)) d2] 82)
 generalize hweq : (x14.alloc (.cells #[.bool (zs a.num), .slice g1 (tln a.num.natAbs) d1, .slice g2 (tln (fd a)) d2] 82)) = x15 at hL0 hS
 go_upto_region 8 with fail
 clear hweq
 refine region_tl 9 [EV (.pointer (some ⟨x14.heap.size, 0, none⟩)), EV (.pointer (some ⟨x14.heap.size, 1, none⟩)), EV (.slice g1 (tln a.num.natAbs) d1), EV (.int .i64 i), EV (.agg #[.bool (zs a.num), .slice g1 (tln a.num.natAbs) d1, .slice g2 (tln (fd a)) d2]), PN dn, EV (.int .i64 j), EV (.int .i64 x), EV (.bool true)] (by kernel_rfl) (by kernel_rfl) ?_ ?_ ?_
 ·exact stays_cons (stays_eq _) (stays_cons (stays_eq _) (stays_cons (stays_eq _) (stays_cons (stays_eq _) (stays_cons (stays_eq _) (stays_cons (stays_rn _) (stays_cons (stays_eq _) (stays_cons (stays_eq _) (stays_cons (stays_eq _) (stays_nil)))))))))
 ·simp only [List.take_succ_cons, List.take_zero, hopsR, and_true]
  refine ⟨?_, ?_, ?_, ?_, ?_, ?_, ?_, ?_, ?_⟩ <;> intro fv w1 hb1 hp
  all_goals (simp only [putsV, Act.put, List.setIfInBounds_toArray, List.set_cons_succ, List.set_cons_zero, Nat.zero_add, Nat.reduceAdd])
  ·refine tyAt_none rfl ?_
   simp [tyUpon, execOp, go_sem, Act.eval, hmx, (of_decide_eq_true hcb), (of_decide_eq_true hcd), (of_decide_eq_true hbig), Below.refl]
  ·have h0 : EV _ (fv 0) w1 := hp 0 (LC (by kernel_rfl))
   refine tyAt_none rfl ?_
   simp [tyUpon, execOp, go_sem, Act.eval, h0, hmx, (of_decide_eq_true hcb), (of_decide_eq_true hcd), (of_decide_eq_true hbig), Below.refl]
  ·have h1 : EV _ (fv 1) w1 := hp 1 (LC (by kernel_rfl))
   refine tyAt_none rfl ?_
   have hc := (hL0.call (below_drew hb1)).fc
   simp only [fcG, cellsF, neK, and_true, ne_eq, Nat.zero_add, Nat.reduceAdd] at hc
   simp [tyUpon, execOp, go_sem, Act.eval, hc, h1, hmx, (of_decide_eq_true hcb), (of_decide_eq_true hcd), (of_decide_eq_true hbig), Below.refl]
  ·have h2 : EV _ (fv 2) w1 := hp 2 (LC (by kernel_rfl))
   refine tyAt_none rfl ?_
   refine ty_call (f := 84) (args := #[.slice g1 (tln a.num.natAbs) d1]) (by simp [execOp, go_sem, Act.eval, h2]) ?_
   exact (HB1.out (.slice g1 (tln a.num.natAbs) d1) w1 (Sl.below (hS.get (List.mem_cons_of_mem _ List.mem_cons_self)) (below_drew hb1))).mono fun e w2 ⟨h1, h2⟩ => ⟨_, h1, rfl, h2⟩
  ·refine tyAt_none rfl ?_
   have hc := (hL0.call (below_drew hb1)).fc
   simp only [fcG, cellsF, neK, and_true, ne_eq, Nat.zero_add, Nat.reduceAdd] at hc
   simp [tyUpon, execOp, go_sem, Act.eval, hc, hmx, (of_decide_eq_true hcb), (of_decide_eq_true hcd), (of_decide_eq_true hbig), Below.refl]
  ·have h4 : EV _ (fv 4) w1 := hp 4 (LC (by kernel_rfl))
   refine tyAt_none rfl ?_
   refine ty_call (f := 85) (args := #[.agg #[.bool (zs a.num), .slice g1 (tln a.num.natAbs) d1, .slice g2 (tln (fd a)) d2]]) (by simp [execOp, go_sem, Act.eval, h4]) ?_
   exact (HDn.out (.agg #[.bool (zs a.num), .slice g1 (tln a.num.natAbs) d1, .slice g2 (tln (fd a)) d2]) w1 (rf_of (Sl.below (hS.get (List.mem_cons_of_mem _ List.mem_cons_self)) (below_drew hb1)) (Sl.below (hS.get List.mem_cons_self) (below_drew hb1)))).mono fun e w2 ⟨pv, h1, h2, h3⟩ => ⟨pv, h1, h2, h3⟩
  ·have h5 : PN _ (fv 5) w1 := hp 5 (LC (by kernel_rfl))
   refine tyAt_none rfl ?_
   refine ty_call (f := 84) (args := #[fv 5]) (by simp [execOp, go_sem, Act.eval]) ?_
   exact (HB2.out (fv 5) w1 h5).mono fun e w2 ⟨h1, h2⟩ => ⟨_, h1, rfl, h2⟩
  ·have h3 : EV _ (fv 3) w1 := hp 3 (LC (by kernel_rfl))
   have h6 : EV _ (fv 6) w1 := hp 6 (LC (by kernel_rfl))
   refine tyAt_none rfl ?_
   simp [tyUpon, execOp, go_sem, Act.eval, h3, h6, hmx, (of_decide_eq_true hcb), (of_decide_eq_true hcd), (of_decide_eq_true hbig), Below.refl]
  ·have h7 : EV _ (fv 7) w1 := hp 7 (LC (by kernel_rfl))
   refine tyAt_none rfl ?_
   simp [tyUpon, execOp, go_sem, Act.eval, h7, hmx, (of_decide_eq_true hcb), (of_decide_eq_true hcd), (of_decide_eq_true hbig), Below.refl]
 ·intro fv x16 hb1 hv
  have e0 : fv 0 = _ := hv 0 (by omega)
  have e1 : fv 1 = _ := hv 1 (by omega)
  have e2 : fv 2 = _ := hv 2 (by omega)
  have e3 : fv 3 = _ := hv 3 (by omega)
  have e4 : fv 4 = _ := hv 4 (by omega)
  have q5 : Rn x16 (fv 5) dn := hv 5 (by omega)
  obtain ⟨g3, d3, e5⟩ := rn_form q5
  rw [e5] at q5
  have e6 : fv 6 = _ := hv 6 (by omega)
  have e7 : fv 7 = _ := hv 7 (by omega)
  have e8 : fv 8 = _ := hv 8 (by omega)
  simp only [List.take_succ_cons, List.take_zero, putsV, Act.put, List.setIfInBounds_toArray, List.set_cons_succ, List.set_cons_zero, List.drop_succ_cons, List.drop_zero, Nat.zero_add, Nat.reduceAdd, e0, e1, e2, e3, e4, e5, e6, e7, e8]
  replace hL0 := hL0.call (below_drew hb1)
  replace hS := hS.call (below_drew hb1)
  replace hS := hS.cons q5
  clear e0 e1 e2 e3 e4 e5 e6 e7 e8 hb1 hv q5 fv
  have hN0 := cells_of _ 0 [] rfl (hL0.get _ _ (List.mem_cons_of_mem _ (List.mem_cons_of_mem _ (List.mem_cons_of_mem _ List.mem_cons_self))))
  simp only [cellsF, and_true, Nat.zero_add, Nat.reduceAdd] at hN0
  go_wp2_with fail
  clear hN0
  with_reducible refine Calls.mono (HP1.out _) ?_
  rintro e x17 ⟨rfl, hb⟩
  replace hL0 := hL0.call hb
  replace hS := hS.call hb
  clear hb
  replace hS := (hS.new (.cells #[.int .u64 0, .string ⟨#[]⟩, .bool false, .int .u64 0, .string ⟨#[]⟩] 79))
  replace hL0 := (hL0.new rfl [.int .u64 0, .string ⟨#[]⟩, .bool false, .int .u64 0, .string ⟨#[]⟩] 79)
  generalize hweq : (x17.alloc (.cells #[.int .u64 0, .string ⟨#[]⟩, .bool false, .int .u64 0, .string ⟨#[]⟩] 79)) = x18 at hL0 hS
  have hS1 := hS.put ((((((Upd.refl x17.heap.size x18).setCell 0 (.int .u64 0)).setCell 1 (.string ⟨#[]⟩)).setCell 2 (.bool false)).setCell 3 (.int .u64 0)).setCell 4 (.string ⟨#[]⟩)) (hL0.get _ _ List.mem_cons_self) (by intro v hv n; simp only [List.mem_cons, List.not_mem_nil, or_false] at hv; rcases hv with rfl | rfl | rfl | rfl | rfl <;> simp)
  have hA := hL0.fc
  simp only [fcG, cellsF, neK, and_true, ne_eq, Nat.zero_add, Nat.reduceAdd] at hA
  have hP := hL0.put 0 (x17.heap.size) _ rfl [.int .u64 0, .string ⟨#[]⟩, .bool false, .int .u64 0, .string ⟨#[]⟩] rfl
  simp only [setAll, List.set_cons_zero, List.set_cons_succ] at hP
  generalize hput1 : (((((x18.setCell ⟨x17.heap.size, 0, none⟩ (.int .u64 0)).setCell ⟨x17.heap.size, 1, none⟩ (.string ⟨#[]⟩)).setCell ⟨x17.heap.size, 2, none⟩ (.bool false)).setCell ⟨x17.heap.size, 3, none⟩ (.int .u64 0)).setCell ⟨x17.heap.size, 4, none⟩ (.string ⟨#[]⟩)) = x19 at hP hS1
  have hB1 := hP.fc
  simp only [fcG, cellsF, neK, and_true, ne_eq, Nat.zero_add, Nat.reduceAdd] at hB1
  replace hL0 := hP
  replace hS := hS1
  clear hS1
  go_wp2_with fail
  clear hA
  with_reducible refine Calls.mono (HP2.out _) ?_
  rintro e x20 ⟨rfl, hb⟩
  replace hL0 := hL0.call hb
  replace hS := hS.call hb
  clear hb hweq hput1 hB1
  replace hS := (hS.new (.cells #[.int .u64 0, .string ⟨#[]⟩, .bool false, .int .u64 0, .string ⟨#[]⟩] 79))
  replace hL0 := (hL0.new rfl [.int .u64 0, .string ⟨#[]⟩, .bool false, .int .u64 0, .string ⟨#[]⟩] 79)
  generalize hweq : (x20.alloc (.cells #[.int .u64 0, .string ⟨#[]⟩, .bool false, .int .u64 0, .string ⟨#[]⟩] 79)) = x21 at hL0 hS
  have hS1 := hS.put ((((((Upd.refl x20.heap.size x21).setCell 0 (.int .u64 0)).setCell 1 (.string ⟨#[]⟩)).setCell 2 (.bool false)).setCell 3 (.int .u64 0)).setCell 4 (.string ⟨#[]⟩)) (hL0.get _ _ List.mem_cons_self) (by intro v hv n; simp only [List.mem_cons, List.not_mem_nil, or_false] at hv; rcases hv with rfl | rfl | rfl | rfl | rfl <;> simp)
  have hA := hL0.fc
  simp only [fcG, cellsF, neK, and_true, ne_eq, Nat.zero_add, Nat.reduceAdd] at hA
  have hP := hL0.put 0 (x20.heap.size) _ rfl [.int .u64 0, .string ⟨#[]⟩, .bool false, .int .u64 0, .string ⟨#[]⟩] rfl
  simp only [setAll, List.set_cons_zero, List.set_cons_succ] at hP
  generalize hput2 : (((((x21.setCell ⟨x20.heap.size, 0, none⟩ (.int .u64 0)).setCell ⟨x20.heap.size, 1, none⟩ (.string ⟨#[]⟩)).setCell ⟨x20.heap.size, 2, none⟩ (.bool false)).setCell ⟨x20.heap.size, 3, none⟩ (.int .u64 0)).setCell ⟨x20.heap.size, 4, none⟩ (.string ⟨#[]⟩)) = x22 at hP hS1
  have hB2 := hP.fc
  simp only [fcG, cellsF, neK, and_true, ne_eq, Nat.zero_add, Nat.reduceAdd] at hB2
  replace hL0 := hP
  replace hS := hS1
  clear hS1
  go_upto_region 13 with fail
  clear hweq
  clear hput2 hB2
  clear hA
  refine region_tl 44 [EV (fracV a), EV (fracV a), EV (.int .i64 0), EV (.bool true), EV (.bool true), EV (fracV a), EV (fracV o), EV (fracV s), EV (fracV a), EV (.int .i64 c2), EV (.bool true), EV (.bool true), EV (.bool true), EV (fracV a), EV (fracV a), EV (.int .i64 0), EV (.bool true), EV (.bool true), EV (.bool true), EV (fracV a), EV (fracV o), EV (fracV t), EV (fracV a), EV (.int .i64 c4), EV (.bool true), EV (.bool true), EV (.bool true), EV (fracV a), EV (fracV a), EV (.bool true), EV (.bool true), EV (.bool true), EV (.bool true), EV (.bool true), EV (fracV a), EV (fracV a), EV (.bool true), EV (.bool true), EV (.bool true), EV (.bool true), EV (.bool true), EV (.bool true), EV (.bool true), EV (.bool true)] (by kernel_rfl) (by kernel_rfl) ?_ ?_ ?_
  ·exact stays_cons (stays_eq _) (stays_cons (stays_eq _) (stays_cons (stays_eq _) (stays_cons (stays_eq _) (stays_cons (stays_eq _) (stays_cons (stays_eq _) (stays_cons (stays_eq _) (stays_cons (stays_eq _) (stays_cons (stays_eq _) (stays_cons (stays_eq _) (stays_cons (stays_eq _) (stays_cons (stays_eq _) (stays_cons (stays_eq _) (stays_cons (stays_eq _) (stays_cons (stays_eq _) (stays_cons (stays_eq _) (stays_cons (stays_eq _) (stays_cons (stays_eq _) (stays_cons (stays_eq _) (stays_cons (stays_eq _) (stays_cons (stays_eq _) (stays_cons (stays_eq _) (stays_cons (stays_eq _) (stays_cons (stays_eq _) (stays_cons (stays_eq _) (stays_cons (stays_eq _) (stays_cons (stays_eq _) (stays_cons (stays_eq _) (stays_cons (stays_eq _) (stays_cons (stays_eq _) (stays_cons (stays_eq _) (stays_cons (stays_eq _) (stays_cons (stays_eq _) (stays_cons (stays_eq _) (stays_cons (stays_eq _) (stays_cons (stays_eq _) (stays_cons (stays_eq _) (stays_cons (stays_eq _) (stays_cons (stays_eq _) (stays_cons (stays_eq _) (stays_cons (stays_eq _) (stays_cons (stays_eq _) (stays_cons (stays_eq _) (stays_cons (stays_eq _) (stays_nil))))))))))))))))))))))))))))))))))))))))))))
  ·simp only [List.take_succ_cons, List.take_zero, hopsR, and_true]
   refine ⟨?_, ?_, ?_, ?_, ?_, ?_, ?_, ?_, ?_, ?_, ?_, ?_, ?_, ?_, ?_, ?_, ?_, ?_, ?_, ?_, ?_, ?_, ?_, ?_, ?_, ?_, ?_, ?_, ?_, ?_, ?_, ?_, ?_, ?_, ?_, ?_, ?_, ?_, ?_, ?_, ?_, ?_, ?_, ?_⟩ <;> intro fv w1 hb1 hp
   all_goals (simp only [putsV, Act.put, List.setIfInBounds_toArray, List.set_cons_succ, List.set_cons_zero, Nat.zero_add, Nat.reduceAdd])
   ·refine tyAt_none rfl ?_
    have hc := (hL0.call (below_drew hb1)).fc
    simp only [fcG, cellsF, neK, and_true, ne_eq, Nat.zero_add, Nat.reduceAdd] at hc
    simp [tyUpon, execOp, go_sem, Act.eval, hc, hmx, (of_decide_eq_true hcb), (of_decide_eq_true hcd), (of_decide_eq_true hbig), Below.refl]
   ·refine tyAt_none rfl ?_
    have hc := (hL0.call (below_drew hb1)).fc
    simp only [fcG, cellsF, neK, and_true, ne_eq, Nat.zero_add, Nat.reduceAdd] at hc
    simp [tyUpon, execOp, go_sem, Act.eval, hc, hmx, (of_decide_eq_true hcb), (of_decide_eq_true hcd), (of_decide_eq_true hbig), Below.refl]
   ·have h0 : EV _ (fv 0) w1 := hp 0 (LC (by kernel_rfl))
    have h1 : EV _ (fv 1) w1 := hp 1 (LC (by kernel_rfl))
    refine tyAt_none rfl ?_
    refine ty_call (f := 73) (args := #[fracV a, fracV a]) (by simp [execOp, go_sem, Act.eval, h0, h1]) ?_
    exact (HC1.out w1).mono fun e w2 ⟨h1, h2⟩ => ⟨_, h1, rfl, h2⟩
   ·have h2 : EV _ (fv 2) w1 := hp 2 (LC (by kernel_rfl))
    refine tyAt_none rfl ?_
    simp [tyUpon, execOp, go_sem, Act.eval, h2, hmx, (of_decide_eq_true hcb), (of_decide_eq_true hcd), (of_decide_eq_true hbig), Below.refl]
   ·have h3 : EV _ (fv 3) w1 := hp 3 (LC (by kernel_rfl))
    refine tyAt_none rfl ?_
    simp [tyUpon, execOp, go_sem, Act.eval, h3, hmx, (of_decide_eq_true hcb), (of_decide_eq_true hcd), (of_decide_eq_true hbig), Below.refl]
   ·have h4 : EV _ (fv 4) w1 := hp 4 (LC (by kernel_rfl))
    refine tyAt_yes (by simp [Region.wanted, yielded, h4]) ?_
    have hc := (hL0.call (below_drew hb1)).fc
    simp only [fcG, cellsF, neK, and_true, ne_eq, Nat.zero_add, Nat.reduceAdd] at hc
    simp [tyUpon, execOp, go_sem, Act.eval, hc, h4, hmx, (of_decide_eq_true hcb), (of_decide_eq_true hcd), (of_decide_eq_true hbig), Below.refl]
   ·have h4 : EV _ (fv 4) w1 := hp 4 (LC (by kernel_rfl))
    refine tyAt_yes (by simp [Region.wanted, yielded, h4]) ?_
    refine ty_call (f := 87) (args := #[.int .i64 1]) (by simp [execOp, go_sem, Act.eval, h4]) ?_
    exact (HI.out w1).mono fun e w2 ⟨h1, h2⟩ => ⟨_, h1, rfl, h2⟩
   ·have h5 : EV _ (fv 5) w1 := hp 5 (LC (by kernel_rfl))
    have h6 : EV _ (fv 6) w1 := hp 6 (LC (by kernel_rfl))
    have h4 : EV _ (fv 4) w1 := hp 4 (LC (by kernel_rfl))
    refine tyAt_yes (by simp [Region.wanted, yielded, h5, h6, h4]) ?_
    refine ty_call (f := 61) (args := #[fracV a, fracV o]) (by simp [execOp, go_sem, Act.eval, h5, h6, h4]) ?_
    exact (HA.out w1).mono fun e w2 ⟨h1, h2⟩ => ⟨_, h1, rfl, h2⟩
   ·have h4 : EV _ (fv 4) w1 := hp 4 (LC (by kernel_rfl))
    refine tyAt_yes (by simp [Region.wanted, yielded, h4]) ?_
    have hc := (hL0.call (below_drew hb1)).fc
    simp only [fcG, cellsF, neK, and_true, ne_eq, Nat.zero_add, Nat.reduceAdd] at hc
    simp [tyUpon, execOp, go_sem, Act.eval, hc, h4, hmx, (of_decide_eq_true hcb), (of_decide_eq_true hcd), (of_decide_eq_true hbig), Below.refl]
   ·have h7 : EV _ (fv 7) w1 := hp 7 (LC (by kernel_rfl))
    have h8 : EV _ (fv 8) w1 := hp 8 (LC (by kernel_rfl))
    have h4 : EV _ (fv 4) w1 := hp 4 (LC (by kernel_rfl))
    refine tyAt_yes (by simp [Region.wanted, yielded, h7, h8, h4]) ?_
    refine ty_call (f := 73) (args := #[fracV s, fracV a]) (by simp [execOp, go_sem, Act.eval, h7, h8, h4]) ?_
    exact (HC2.out w1).mono fun e w2 ⟨h1, h2⟩ => ⟨_, h1, rfl, h2⟩
   ·have h9 : EV _ (fv 9) w1 := hp 9 (LC (by kernel_rfl))
    have h4 : EV _ (fv 4) w1 := hp 4 (LC (by kernel_rfl))
    refine tyAt_yes (by simp [Region.wanted, yielded, h9, h4]) ?_
    simp [tyUpon, execOp, go_sem, Act.eval, h9, h4, hmx, (of_decide_eq_true hcb), (of_decide_eq_true hcd), (of_decide_eq_true hbig), Below.refl]
   ·have h4 : EV _ (fv 4) w1 := hp 4 (LC (by kernel_rfl))
    have h10 : EV _ (fv 10) w1 := hp 10 (LC (by kernel_rfl))
    refine tyAt_none rfl ?_
    simp [tyUpon, execOp, go_sem, Act.eval, h4, h10, hmx, (of_decide_eq_true hcb), (of_decide_eq_true hcd), (of_decide_eq_true hbig), Below.refl]
   ·have h11 : EV _ (fv 11) w1 := hp 11 (LC (by kernel_rfl))
    refine tyAt_none rfl ?_
    simp [tyUpon, execOp, go_sem, Act.eval, h11, hmx, (of_decide_eq_true hcb), (of_decide_eq_true hcd), (of_decide_eq_true hbig), Below.refl]
   ·have h12 : EV _ (fv 12) w1 := hp 12 (LC (by kernel_rfl))
    refine tyAt_yes (by simp [Region.wanted, yielded, h12]) ?_
    have hc := (hL0.call (below_drew hb1)).fc
    simp only [fcG, cellsF, neK, and_true, ne_eq, Nat.zero_add, Nat.reduceAdd] at hc
    simp [tyUpon, execOp, go_sem, Act.eval, hc, h12, hmx, (of_decide_eq_true hcb), (of_decide_eq_true hcd), (of_decide_eq_true hbig), Below.refl]
   ·have h12 : EV _ (fv 12) w1 := hp 12 (LC (by kernel_rfl))
    refine tyAt_yes (by simp [Region.wanted, yielded, h12]) ?_
    have hc := (hL0.call (below_drew hb1)).fc
    simp only [fcG, cellsF, neK, and_true, ne_eq, Nat.zero_add, Nat.reduceAdd] at hc
    simp [tyUpon, execOp, go_sem, Act.eval, hc, h12, hmx, (of_decide_eq_true hcb), (of_decide_eq_true hcd), (of_decide_eq_true hbig), Below.refl]
   ·have h13 : EV _ (fv 13) w1 := hp 13 (LC (by kernel_rfl))
    have h14 : EV _ (fv 14) w1 := hp 14 (LC (by kernel_rfl))
    have h12 : EV _ (fv 12) w1 := hp 12 (LC (by kernel_rfl))
    refine tyAt_yes (by simp [Region.wanted, yielded, h13, h14, h12]) ?_
    refine ty_call (f := 73) (args := #[fracV a, fracV a]) (by simp [execOp, go_sem, Act.eval, h13, h14, h12]) ?_
    exact (HC1.out w1).mono fun e w2 ⟨h1, h2⟩ => ⟨_, h1, rfl, h2⟩
   ·have h15 : EV _ (fv 15) w1 := hp 15 (LC (by kernel_rfl))
    have h12 : EV _ (fv 12) w1 := hp 12 (LC (by kernel_rfl))
    refine tyAt_yes (by simp [Region.wanted, yielded, h15, h12]) ?_
    simp [tyUpon, execOp, go_sem, Act.eval, h15, h12, hmx, (of_decide_eq_true hcb), (of_decide_eq_true hcd), (of_decide_eq_true hbig), Below.refl]
   ·have h12 : EV _ (fv 12) w1 := hp 12 (LC (by kernel_rfl))
    have h16 : EV _ (fv 16) w1 := hp 16 (LC (by kernel_rfl))
    refine tyAt_none rfl ?_
    simp [tyUpon, execOp, go_sem, Act.eval, h12, h16, hmx, (of_decide_eq_true hcb), (of_decide_eq_true hcd), (of_decide_eq_true hbig), Below.refl]
   ·have h17 : EV _ (fv 17) w1 := hp 17 (LC (by kernel_rfl))
    refine tyAt_none rfl ?_
    simp [tyUpon, execOp, go_sem, Act.eval, h17, hmx, (of_decide_eq_true hcb), (of_decide_eq_true hcd), (of_decide_eq_true hbig), Below.refl]
   ·have h18 : EV _ (fv 18) w1 := hp 18 (LC (by kernel_rfl))
    refine tyAt_yes (by simp [Region.wanted, yielded, h18]) ?_
    have hc := (hL0.call (below_drew hb1)).fc
    simp only [fcG, cellsF, neK, and_true, ne_eq, Nat.zero_add, Nat.reduceAdd] at hc
    simp [tyUpon, execOp, go_sem, Act.eval, hc, h18, hmx, (of_decide_eq_true hcb), (of_decide_eq_true hcd), (of_decide_eq_true hbig), Below.refl]
   ·have h18 : EV _ (fv 18) w1 := hp 18 (LC (by kernel_rfl))
    refine tyAt_yes (by simp [Region.wanted, yielded, h18]) ?_
    refine ty_call (f := 87) (args := #[.int .i64 1]) (by simp [execOp, go_sem, Act.eval, h18]) ?_
    exact (HI.out w1).mono fun e w2 ⟨h1, h2⟩ => ⟨_, h1, rfl, h2⟩
   ·have h19 : EV _ (fv 19) w1 := hp 19 (LC (by kernel_rfl))
    have h20 : EV _ (fv 20) w1 := hp 20 (LC (by kernel_rfl))
    have h18 : EV _ (fv 18) w1 := hp 18 (LC (by kernel_rfl))
    refine tyAt_yes (by simp [Region.wanted, yielded, h19, h20, h18]) ?_
    refine ty_call (f := 63) (args := #[fracV a, fracV o]) (by simp [execOp, go_sem, Act.eval, h19, h20, h18]) ?_
    exact (HS.out w1).mono fun e w2 ⟨h1, h2⟩ => ⟨_, h1, rfl, h2⟩
   ·have h18 : EV _ (fv 18) w1 := hp 18 (LC (by kernel_rfl))
    refine tyAt_yes (by simp [Region.wanted, yielded, h18]) ?_
    have hc := (hL0.call (below_drew hb1)).fc
    simp only [fcG, cellsF, neK, and_true, ne_eq, Nat.zero_add, Nat.reduceAdd] at hc
    simp [tyUpon, execOp, go_sem, Act.eval, hc, h18, hmx, (of_decide_eq_true hcb), (of_decide_eq_true hcd), (of_decide_eq_true hbig), Below.refl]
   ·have h21 : EV _ (fv 21) w1 := hp 21 (LC (by kernel_rfl))
    have h22 : EV _ (fv 22) w1 := hp 22 (LC (by kernel_rfl))
    have h18 : EV _ (fv 18) w1 := hp 18 (LC (by kernel_rfl))
    refine tyAt_yes (by simp [Region.wanted, yielded, h21, h22, h18]) ?_
    refine ty_call (f := 73) (args := #[fracV t, fracV a]) (by simp [execOp, go_sem, Act.eval, h21, h22, h18]) ?_
    exact (HC4.out w1).mono fun e w2 ⟨h1, h2⟩ => ⟨_, h1, rfl, h2⟩
   ·have h23 : EV _ (fv 23) w1 := hp 23 (LC (by kernel_rfl))
    have h18 : EV _ (fv 18) w1 := hp 18 (LC (by kernel_rfl))
    refine tyAt_yes (by simp [Region.wanted, yielded, h23, h18]) ?_
    simp [tyUpon, execOp, go_sem, Act.eval, h23, h18, hmx, (of_decide_eq_true hcb), (of_decide_eq_true hcd), (of_decide_eq_true hbig), Below.refl]
   ·have h18 : EV _ (fv 18) w1 := hp 18 (LC (by kernel_rfl))
    have h24 : EV _ (fv 24) w1 := hp 24 (LC (by kernel_rfl))
    refine tyAt_none rfl ?_
    simp [tyUpon, execOp, go_sem, Act.eval, h18, h24, hmx, (of_decide_eq_true hcb), (of_decide_eq_true hcd), (of_decide_eq_true hbig), Below.refl]
   ·have h25 : EV _ (fv 25) w1 := hp 25 (LC (by kernel_rfl))
    refine tyAt_none rfl ?_
    simp [tyUpon, execOp, go_sem, Act.eval, h25, hmx, (of_decide_eq_true hcb), (of_decide_eq_true hcd), (of_decide_eq_true hbig), Below.refl]
   ·have h26 : EV _ (fv 26) w1 := hp 26 (LC (by kernel_rfl))
    refine tyAt_yes (by simp [Region.wanted, yielded, h26]) ?_
    have hc := (hL0.call (below_drew hb1)).fc
    simp only [fcG, cellsF, neK, and_true, ne_eq, Nat.zero_add, Nat.reduceAdd] at hc
    simp [tyUpon, execOp, go_sem, Act.eval, hc, h26, hmx, (of_decide_eq_true hcb), (of_decide_eq_true hcd), (of_decide_eq_true hbig), Below.refl]
   ·have h26 : EV _ (fv 26) w1 := hp 26 (LC (by kernel_rfl))
    refine tyAt_yes (by simp [Region.wanted, yielded, h26]) ?_
    have hc := (hL0.call (below_drew hb1)).fc
    simp only [fcG, cellsF, neK, and_true, ne_eq, Nat.zero_add, Nat.reduceAdd] at hc
    simp [tyUpon, execOp, go_sem, Act.eval, hc, h26, hmx, (of_decide_eq_true hcb), (of_decide_eq_true hcd), (of_decide_eq_true hbig), Below.refl]
   ·have h27 : EV _ (fv 27) w1 := hp 27 (LC (by kernel_rfl))
    have h28 : EV _ (fv 28) w1 := hp 28 (LC (by kernel_rfl))
    have h26 : EV _ (fv 26) w1 := hp 26 (LC (by kernel_rfl))
    refine tyAt_yes (by simp [Region.wanted, yielded, h27, h28, h26]) ?_
    simp [tyUpon, execOp, go_sem, Act.eval, h27, h28, h26, hmx, (of_decide_eq_true hcb), (of_decide_eq_true hcd), (of_decide_eq_true hbig), Below.refl]
   ·have h26 : EV _ (fv 26) w1 := hp 26 (LC (by kernel_rfl))
    refine tyAt_yes (by simp [Region.wanted, yielded, h26]) ?_
    simp [tyUpon, execOp, go_sem, Act.eval, h26, hmx, (of_decide_eq_true hcb), (of_decide_eq_true hcd), (of_decide_eq_true hbig), Below.refl]
   ·have h29 : EV _ (fv 29) w1 := hp 29 (LC (by kernel_rfl))
    have h30 : EV _ (fv 30) w1 := hp 30 (LC (by kernel_rfl))
    have h26 : EV _ (fv 26) w1 := hp 26 (LC (by kernel_rfl))
    refine tyAt_yes (by simp [Region.wanted, yielded, h29, h30, h26]) ?_
    simp [tyUpon, execOp, go_sem, Act.eval, h29, h30, h26, hmx, (of_decide_eq_true hcb), (of_decide_eq_true hcd), (of_decide_eq_true hbig), Below.refl]
   ·have h26 : EV _ (fv 26) w1 := hp 26 (LC (by kernel_rfl))
    have h31 : EV _ (fv 31) w1 := hp 31 (LC (by kernel_rfl))
    refine tyAt_none rfl ?_
    simp [tyUpon, execOp, go_sem, Act.eval, h26, h31, hmx, (of_decide_eq_true hcb), (of_decide_eq_true hcd), (of_decide_eq_true hbig), Below.refl]
   ·have h32 : EV _ (fv 32) w1 := hp 32 (LC (by kernel_rfl))
    refine tyAt_none rfl ?_
    simp [tyUpon, execOp, go_sem, Act.eval, h32, hmx, (of_decide_eq_true hcb), (of_decide_eq_true hcd), (of_decide_eq_true hbig), Below.refl]
   ·have h33 : EV _ (fv 33) w1 := hp 33 (LC (by kernel_rfl))
    refine tyAt_yes (by simp [Region.wanted, yielded, h33]) ?_
    have hc := (hL0.call (below_drew hb1)).fc
    simp only [fcG, cellsF, neK, and_true, ne_eq, Nat.zero_add, Nat.reduceAdd] at hc
    simp [tyUpon, execOp, go_sem, Act.eval, hc, h33, hmx, (of_decide_eq_true hcb), (of_decide_eq_true hcd), (of_decide_eq_true hbig), Below.refl]
   ·have h33 : EV _ (fv 33) w1 := hp 33 (LC (by kernel_rfl))
    refine tyAt_yes (by simp [Region.wanted, yielded, h33]) ?_
    have hc := (hL0.call (below_drew hb1)).fc
    simp only [fcG, cellsF, neK, and_true, ne_eq, Nat.zero_add, Nat.reduceAdd] at hc
    simp [tyUpon, execOp, go_sem, Act.eval, hc, h33, hmx, (of_decide_eq_true hcb), (of_decide_eq_true hcd), (of_decide_eq_true hbig), Below.refl]
   ·have h34 : EV _ (fv 34) w1 := hp 34 (LC (by kernel_rfl))
    have h35 : EV _ (fv 35) w1 := hp 35 (LC (by kernel_rfl))
    have h33 : EV _ (fv 33) w1 := hp 33 (LC (by kernel_rfl))
    refine tyAt_yes (by simp [Region.wanted, yielded, h34, h35, h33]) ?_
    simp [tyUpon, execOp, go_sem, Act.eval, h34, h35, h33, hmx, (of_decide_eq_true hcb), (of_decide_eq_true hcd), (of_decide_eq_true hbig), Below.refl]
   ·have h33 : EV _ (fv 33) w1 := hp 33 (LC (by kernel_rfl))
    refine tyAt_yes (by simp [Region.wanted, yielded, h33]) ?_
    simp [tyUpon, execOp, go_sem, Act.eval, h33, hmx, (of_decide_eq_true hcb), (of_decide_eq_true hcd), (of_decide_eq_true hbig), Below.refl]
   ·have h36 : EV _ (fv 36) w1 := hp 36 (LC (by kernel_rfl))
    have h37 : EV _ (fv 37) w1 := hp 37 (LC (by kernel_rfl))
    have h33 : EV _ (fv 33) w1 := hp 33 (LC (by kernel_rfl))
    refine tyAt_yes (by simp [Region.wanted, yielded, h36, h37, h33]) ?_
    simp [tyUpon, execOp, go_sem, Act.eval, h36, h37, h33, hmx, (of_decide_eq_true hcb), (of_decide_eq_true hcd), (of_decide_eq_true hbig), Below.refl]
   ·have h33 : EV _ (fv 33) w1 := hp 33 (LC (by kernel_rfl))
    have h38 : EV _ (fv 38) w1 := hp 38 (LC (by kernel_rfl))
    refine tyAt_none rfl ?_
    simp [tyUpon, execOp, go_sem, Act.eval, h33, h38, hmx, (of_decide_eq_true hcb), (of_decide_eq_true hcd), (of_decide_eq_true hbig), Below.refl]
   ·have h39 : EV _ (fv 39) w1 := hp 39 (LC (by kernel_rfl))
    refine tyAt_none rfl ?_
    simp [tyUpon, execOp, go_sem, Act.eval, h39, hmx, (of_decide_eq_true hcb), (of_decide_eq_true hcd), (of_decide_eq_true hbig), Below.refl]
   ·have h40 : EV _ (fv 40) w1 := hp 40 (LC (by kernel_rfl))
    refine tyAt_yes (by simp [Region.wanted, yielded, h40]) ?_
    refine ty_call (f := 54) (args := #[]) (by simp [execOp, go_sem, Act.eval, h40]) ?_
    exact (HW.out w1 (hKT.out.at ((hL0.call (below_drew hb1)).bl) kKT)).mono fun e w2 ⟨h1, h2⟩ => ⟨_, h1, rfl, h2⟩
   ·have h40 : EV _ (fv 40) w1 := hp 40 (LC (by kernel_rfl))
    have h41 : EV _ (fv 41) w1 := hp 41 (LC (by kernel_rfl))
    refine tyAt_none rfl ?_
    simp [tyUpon, execOp, go_sem, Act.eval, h40, h41, hmx, (of_decide_eq_true hcb), (of_decide_eq_true hcd), (of_decide_eq_true hbig), Below.refl]
   ·have h42 : EV _ (fv 42) w1 := hp 42 (LC (by kernel_rfl))
    refine tyAt_none rfl ?_
    simp [tyUpon, execOp, go_sem, Act.eval, h42, hmx, (of_decide_eq_true hcb), (of_decide_eq_true hcd), (of_decide_eq_true hbig), Below.refl]
  ·intro fv x23 hb1 hv
   have e0 : fv 0 = _ := hv 0 (by omega)
   have e1 : fv 1 = _ := hv 1 (by omega)
   have e2 : fv 2 = _ := hv 2 (by omega)
   have e3 : fv 3 = _ := hv 3 (by omega)
   have e4 : fv 4 = _ := hv 4 (by omega)
   have e5 : fv 5 = _ := hv 5 (by omega)
   have e6 : fv 6 = _ := hv 6 (by omega)
   have e7 : fv 7 = _ := hv 7 (by omega)
   have e8 : fv 8 = _ := hv 8 (by omega)
   have e9 : fv 9 = _ := hv 9 (by omega)
   have e10 : fv 10 = _ := hv 10 (by omega)
   have e11 : fv 11 = _ := hv 11 (by omega)
   have e12 : fv 12 = _ := hv 12 (by omega)
   have e13 : fv 13 = _ := hv 13 (by omega)
   have e14 : fv 14 = _ := hv 14 (by omega)
   have e15 : fv 15 = _ := hv 15 (by omega)
   have e16 : fv 16 = _ := hv 16 (by omega)
   have e17 : fv 17 = _ := hv 17 (by omega)
   have e18 : fv 18 = _ := hv 18 (by omega)
   have e19 : fv 19 = _ := hv 19 (by omega)
   have e20 : fv 20 = _ := hv 20 (by omega)
   have e21 : fv 21 = _ := hv 21 (by omega)
   have e22 : fv 22 = _ := hv 22 (by omega)
   have e23 : fv 23 = _ := hv 23 (by omega)
   have e24 : fv 24 = _ := hv 24 (by omega)
   have e25 : fv 25 = _ := hv 25 (by omega)
   have e26 : fv 26 = _ := hv 26 (by omega)
   have e27 : fv 27 = _ := hv 27 (by omega)
   have e28 : fv 28 = _ := hv 28 (by omega)
   have e29 : fv 29 = _ := hv 29 (by omega)
   have e30 : fv 30 = _ := hv 30 (by omega)
   have e31 : fv 31 = _ := hv 31 (by omega)
   have e32 : fv 32 = _ := hv 32 (by omega)
   have e33 : fv 33 = _ := hv 33 (by omega)
   have e34 : fv 34 = _ := hv 34 (by omega)
   have e35 : fv 35 = _ := hv 35 (by omega)
   have e36 : fv 36 = _ := hv 36 (by omega)
   have e37 : fv 37 = _ := hv 37 (by omega)
   have e38 : fv 38 = _ := hv 38 (by omega)
   have e39 : fv 39 = _ := hv 39 (by omega)
   have e40 : fv 40 = _ := hv 40 (by omega)
   have e41 : fv 41 = _ := hv 41 (by omega)
   have e42 : fv 42 = _ := hv 42 (by omega)
   have e43 : fv 43 = _ := hv 43 (by omega)
   simp only [List.take_succ_cons, List.take_zero, putsV, Act.put, List.setIfInBounds_toArray, List.set_cons_succ, List.set_cons_zero, List.drop_succ_cons, List.drop_zero, Nat.zero_add, Nat.reduceAdd, e0, e1, e2, e3, e4, e5, e6, e7, e8, e9, e10, e11, e12, e13, e14, e15, e16, e17, e18, e19, e20, e21, e22, e23, e24, e25, e26, e27, e28, e29, e30, e31, e32, e33, e34, e35, e36, e37, e38, e39, e40, e41, e42, e43]
   replace hL0 := hL0.call (below_drew hb1)
   replace hS := hS.call (below_drew hb1)
   clear e0 e1 e2 e3 e4 e5 e6 e7 e8 e9 e10 e11 e12 e13 e14 e15 e16 e17 e18 e19 e20 e21 e22 e23 e24 e25 e26 e27 e28 e29 e30 e31 e32 e33 e34 e35 e36 e37 e38 e39 e40 e41 e42 e43 hb1 hv fv
   go_wp2_with fail
   exact bodyPost_ret (v := .bool true) (by simp [results, Tryz.results9, go_sem]) rfl ⟨rfl, hL0.bl⟩
end Go.Proofs.YtdmoadfnogdfnaaGreatDoor
namespace Go.Proofs.YtdmoadfnogdfnaaGreatDoor
open Go.RowKit Go.Proofs.YtdmoadfnogdfnaaGreatDoor.Rx
attribute [local irreducible] lo hs sm s64 c64 d64 b64 mh ml pd pc qd qc val hiB str cmpI srD lz nb isq decB zl zh zs dval tln ztxt txt fd fe
set_option maxHeartbeats 4000000 in
set_option maxRecDepth 100000 in
theorem ffloors_ps (sx : Bool) (ax qx : Option Addr) (nx cx mx dx : Nat) (a l h o s t : Rat) (dn : Nat) (u v i j x c2 c4 c1 c3 : Int) (Kx : World → Prop) (hKx : Keeps Kx) (GX : RK Kx 55 #[.agg #[.bool sx, .slice ax nx cx, .slice qx mx dx]] (fracV a)) (HFl : RT 75 #[fracV a] (intV u)) (HO : RT 81 #[.int .u64 1] (natV 1)) (HFr : RT 80 #[intV u, natV 1] (.tuple #[fracV l, .int .i64 0])) (HCe : RT 82 #[fracV a] (intV v)) (HFs : RT 80 #[intV v, natV 1] (.tuple #[fracV h, .int .i64 0])) (HWh : RT 83 #[fracV a] (.bool false)) (RX : ∀ (w : World), Kx w → Calls Tryz.prog 56 #[.agg #[.bool sx, .slice ax nx cx, .slice qx mx dx]] w fun e w' => ∃ pv, e = .returned pv ∧ RF w' pv a ∧ Below w.heap.size w w') (HB1 : ∀ (p0 : Value) (w : World), Rn w p0 a.num.natAbs → Calls Tryz.prog 84 #[p0] w fun e w' => e = .returned (.int .i64 i) ∧ Below w.heap.size w w') (HDn : ∀ (p0 : Value) (w : World), RF w p0 a → Calls Tryz.prog 85 #[p0] w fun e w' => ∃ pv, e = .returned pv ∧ Rn w' pv dn ∧ Below w.heap.size w w') (HB2 : ∀ (p0 : Value) (w : World), Rn w p0 dn → Calls Tryz.prog 84 #[p0] w fun e w' => e = .returned (.int .i64 j) ∧ Below w.heap.size w w') (HC1 : RT 73 #[fracV l, fracV a] (.int .i64 c1)) (HC3 : RT 73 #[fracV h, fracV a] (.int .i64 c3)) (HI : RT 87 #[.int .i64 1] (fracV o)) (HA : RT 61 #[fracV l, fracV o] (fracV s)) (HC2 : RT 73 #[fracV s, fracV a] (.int .i64 c2)) (HS : RT 63 #[fracV h, fracV o] (fracV t)) (HC4 : RT 73 #[fracV t, fracV a] (.int .i64 c4)) (KT : World → Prop) (hKT : Keeps KT) (HW : RK KT 54 #[] (.bool true)) (hfew : decide (nx ≤ 10 ∧ mx ≤ 10) = true) (hcb : decide (0 < c2) = true) (hcd : decide (c4 < 0) = true) (hmx : max i j = x) (hbig : decide (64 < x) = false) (hca : decide (c1 ≤ 0) = true) (hcc : decide (0 ≤ c3) = true) (hl : l ≠ a) (hh : h ≠ a) (w : World) (kKx : Kx w) (kKT : KT w) :
  Calls Tryz.prog 9 #[.agg #[.bool sx, .slice ax nx cx, .slice qx mx dx]] w fun e w' => e = .returned (.bool true) ∧ Below w.heap.size w w' := by
 replace hKx := Lib.hid hKx
 replace GX := Lib.hid GX
 replace HFl := Lib.hid HFl
 replace HO := Lib.hid HO
 replace HFr := Lib.hid HFr
 replace HCe := Lib.hid HCe
 replace HFs := Lib.hid HFs
 replace HWh := Lib.hid HWh
 replace RX := Lib.hid RX
 replace HB1 := Lib.hid HB1
 replace HDn := Lib.hid HDn
 replace HB2 := Lib.hid HB2
 replace HC1 := Lib.hid HC1
 replace HC3 := Lib.hid HC3
 replace HI := Lib.hid HI
 replace HA := Lib.hid HA
 replace HC2 := Lib.hid HC2
 replace HS := Lib.hid HS
 replace HC4 := Lib.hid HC4
 replace hKT := Lib.hid hKT
 replace HW := Lib.hid HW
 have hL0 : GL w w [] := GL.start w
 have hS : SS w [] := SS.nil w
 replace hl := Lib.hid hl
 replace hh := Lib.hid hh
 replace hS := ((hS.new (.cells #[.bool sx, .slice ax nx cx, .slice qx mx dx] 76)).new (.cells #[.bool sx, .slice ax nx cx, .slice qx mx dx] 76))
 replace hL0 := ((hL0.new rfl [.bool sx, .slice ax nx cx, .slice qx mx dx] 76).new (K := w.heap.size + 1) (szA _ _) [.bool sx, .slice ax nx cx, .slice qx mx dx] 76)
 generalize hweq : ((w.alloc (.cells #[.bool sx, .slice ax nx cx, .slice qx mx dx] 76)).alloc (.cells #[.bool sx, .slice ax nx cx, .slice qx mx dx] 76)) = x1 at hL0 hS
 go_enter Tryz.func9, Tryz.ntmps9
 have hN0 := cells_of _ 0 [] rfl (hL0.get _ _ (List.mem_cons_of_mem _ List.mem_cons_self))
 simp only [cellsF, and_true, Nat.zero_add, Nat.reduceAdd] at hN0
 have HFw := gfew1 10 10 rfl (by omega) (hL0.get _ _ List.mem_cons_self)
 rw [hfew] at HFw
 replace HFw := Lib.hid HFw
 go_wp2_with fail
 with_reducible refine Calls.mono (HFw.out) ?_
 rintro e x2 ⟨rfl, rfl⟩
 clear HFw
 clear hN0
 have hN0 := cells_of _ 0 [] rfl (hL0.get _ _ (List.mem_cons_of_mem _ List.mem_cons_self))
 simp only [cellsF, and_true, Nat.zero_add, Nat.reduceAdd] at hN0
 go_wp2_with fail
 clear hN0
 with_reducible refine Calls.mono (GX.out _ (hKx.out.at (hL0.bl) kKx)) ?_
 rintro e x3 ⟨rfl, hb⟩
 replace hL0 := hL0.call hb
 replace hS := hS.call hb
 clear hb hweq
 replace hS := (hS.new (.cells #[.int .u64 ((zl a.num : Nat) : Int), .string (zh a.num), .bool (zs a.num), .int .u64 ((lo (fe a) : Nat) : Int), .string (hs (fe a))] 79))
 replace hL0 := (hL0.new rfl [.int .u64 ((zl a.num : Nat) : Int), .string (zh a.num), .bool (zs a.num), .int .u64 ((lo (fe a) : Nat) : Int), .string (hs (fe a))] 79)
 generalize hweq : (x3.alloc (.cells #[.int .u64 ((zl a.num : Nat) : Int), .string (zh a.num), .bool (zs a.num), .int .u64 ((lo (fe a) : Nat) : Int), .string (hs (fe a))] 79)) = x4 at hL0 hS
 have hN0 := cells_of _ 0 [] rfl (hL0.get _ _ List.mem_cons_self)
 simp only [cellsF, and_true, Nat.zero_add, Nat.reduceAdd] at hN0
 go_wp2_with fail
 clear hN0
 with_reducible refine Calls.mono (HFl.out _) ?_
 rintro e x5 ⟨rfl, hb⟩
 replace hL0 := hL0.call hb
 replace hS := hS.call hb
 clear hb hweq
 go_wp2_with fail
 with_reducible refine Calls.mono (HO.out _) ?_
 rintro e x6 ⟨rfl, hb⟩
 replace hL0 := hL0.call hb
 replace hS := hS.call hb
 clear hb
 go_wp2_with fail
 with_reducible refine Calls.mono (HFr.out _) ?_
 rintro e x7 ⟨rfl, hb⟩
 replace hL0 := hL0.call hb
 replace hS := hS.call hb
 clear hb
 replace hS := (hS.new (.cells #[.int .u64 ((zl l.num : Nat) : Int), .string (zh l.num), .bool (zs l.num), .int .u64 ((lo (fe l) : Nat) : Int), .string (hs (fe l))] 79))
 replace hL0 := (hL0.new rfl [.int .u64 ((zl l.num : Nat) : Int), .string (zh l.num), .bool (zs l.num), .int .u64 ((lo (fe l) : Nat) : Int), .string (hs (fe l))] 79)
 generalize hweq : (x7.alloc (.cells #[.int .u64 ((zl l.num : Nat) : Int), .string (zh l.num), .bool (zs l.num), .int .u64 ((lo (fe l) : Nat) : Int), .string (hs (fe l))] 79)) = x8 at hL0 hS
 have hN0 := cells_of _ 0 [] rfl (hL0.get _ _ (List.mem_cons_of_mem _ List.mem_cons_self))
 simp only [cellsF, and_true, Nat.zero_add, Nat.reduceAdd] at hN0
 go_wp2_with fail
 clear hN0
 with_reducible refine Calls.mono (HCe.out _) ?_
 rintro e x9 ⟨rfl, hb⟩
 replace hL0 := hL0.call hb
 replace hS := hS.call hb
 clear hb hweq
 go_wp2_with fail
 with_reducible refine Calls.mono (HO.out _) ?_
 rintro e x10 ⟨rfl, hb⟩
 replace hL0 := hL0.call hb
 replace hS := hS.call hb
 clear hb
 go_wp2_with fail
 with_reducible refine Calls.mono (HFs.out _) ?_
 rintro e x11 ⟨rfl, hb⟩
 replace hL0 := hL0.call hb
 replace hS := hS.call hb
 clear hb
 replace hS := (hS.new (.cells #[.int .u64 ((zl h.num : Nat) : Int), .string (zh h.num), .bool (zs h.num), .int .u64 ((lo (fe h) : Nat) : Int), .string (hs (fe h))] 79))
 replace hL0 := (hL0.new rfl [.int .u64 ((zl h.num : Nat) : Int), .string (zh h.num), .bool (zs h.num), .int .u64 ((lo (fe h) : Nat) : Int), .string (hs (fe h))] 79)
 generalize hweq : (x11.alloc (.cells #[.int .u64 ((zl h.num : Nat) : Int), .string (zh h.num), .bool (zs h.num), .int .u64 ((lo (fe h) : Nat) : Int), .string (hs (fe h))] 79)) = x12 at hL0 hS
 have hN0 := cells_of _ 0 [] rfl (hL0.get _ _ (List.mem_cons_of_mem _ (List.mem_cons_of_mem _ List.mem_cons_self)))
 simp only [cellsF, and_true, Nat.zero_add, Nat.reduceAdd] at hN0
 go_wp2_with fail
 clear hN0
 with_reducible refine Calls.mono (HWh.out _) ?_
 rintro e x13 ⟨rfl, hb⟩
 replace hL0 := hL0.call hb
 replace hS := hS.call hb
 clear hb hweq
 have hN0 := cells_of _ 0 [] rfl (hL0.get _ _ (List.mem_cons_of_mem _ (List.mem_cons_of_mem _ (List.mem_cons_of_mem _ (List.mem_cons_of_mem _ List.mem_cons_self)))))
 simp only [cellsF, and_true, Nat.zero_add, Nat.reduceAdd] at hN0
 go_wp2_with fail
 clear hN0
 with_reducible refine Calls.mono (RX.out _ (hKx.out.at (hL0.bl) kKx)) ?_
 rintro e x14 ⟨v0, rfl, q0, hb⟩
 replace hL0 := hL0.call hb
 replace hS := hS.call hb
 clear hb
 obtain ⟨g1, d1, g2, d2, rfl⟩ := rf_form q0
 replace hS := hS.cons (rf_rn1 q0)
 replace hS := hS.cons (rf_rn2 q0)
 clear q0
 replace hS := (hS.new (.cells #[.bool (zs a.num), .slice g1 (tln a.num.natAbs) d1, .slice g2 (tln (fd a)) d2] 82))
 replace hL0 := (hL0.new rfl [.bool (zs a.num), .slice g1 (tln a.num.natAbs) d1, .slice g2 (tln (fd a)) d2] 82)
 generalize hweq : (x14.alloc (.cells #[.bool (zs a.num), .slice g1 (tln a.num.natAbs) d1, .slice g2 (tln (fd a)) d2] 82)) = x15 at hL0 hS
 go_upto_region 8 with fail
 clear hweq
 refine region_tl 9 [EV (.pointer (some ⟨x14.heap.size, 0, none⟩)), EV (.pointer (some ⟨x14.heap.size, 1, none⟩)), EV (.slice g1 (tln a.num.natAbs) d1), EV (.int .i64 i), EV (.agg #[.bool (zs a.num), .slice g1 (tln a.num.natAbs) d1, .slice g2 (tln (fd a)) d2]), PN dn, EV (.int .i64 j), EV (.int .i64 x), EV (.bool false)] (by kernel_rfl) (by kernel_rfl) ?_ ?_ ?_
 ·exact stays_cons (stays_eq _) (stays_cons (stays_eq _) (stays_cons (stays_eq _) (stays_cons (stays_eq _) (stays_cons (stays_eq _) (stays_cons (stays_rn _) (stays_cons (stays_eq _) (stays_cons (stays_eq _) (stays_cons (stays_eq _) (stays_nil)))))))))
 ·simp only [List.take_succ_cons, List.take_zero, hopsR, and_true]
  refine ⟨?_, ?_, ?_, ?_, ?_, ?_, ?_, ?_, ?_⟩ <;> intro fv w1 hb1 hp
  all_goals (simp only [putsV, Act.put, List.setIfInBounds_toArray, List.set_cons_succ, List.set_cons_zero, Nat.zero_add, Nat.reduceAdd])
  ·refine tyAt_none rfl ?_
   simp [tyUpon, execOp, go_sem, Act.eval, hmx, (of_decide_eq_true hcb), (of_decide_eq_true hcd), (of_decide_eq_false hbig), (of_decide_eq_true hca), (of_decide_eq_true hcc), Below.refl]
  ·have h0 : EV _ (fv 0) w1 := hp 0 (LC (by kernel_rfl))
   refine tyAt_none rfl ?_
   simp [tyUpon, execOp, go_sem, Act.eval, h0, hmx, (of_decide_eq_true hcb), (of_decide_eq_true hcd), (of_decide_eq_false hbig), (of_decide_eq_true hca), (of_decide_eq_true hcc), Below.refl]
  ·have h1 : EV _ (fv 1) w1 := hp 1 (LC (by kernel_rfl))
   refine tyAt_none rfl ?_
   have hc := (hL0.call (below_drew hb1)).fc
   simp only [fcG, cellsF, neK, and_true, ne_eq, Nat.zero_add, Nat.reduceAdd] at hc
   simp [tyUpon, execOp, go_sem, Act.eval, hc, h1, hmx, (of_decide_eq_true hcb), (of_decide_eq_true hcd), (of_decide_eq_false hbig), (of_decide_eq_true hca), (of_decide_eq_true hcc), Below.refl]
  ·have h2 : EV _ (fv 2) w1 := hp 2 (LC (by kernel_rfl))
   refine tyAt_none rfl ?_
   refine ty_call (f := 84) (args := #[.slice g1 (tln a.num.natAbs) d1]) (by simp [execOp, go_sem, Act.eval, h2]) ?_
   exact (HB1.out (.slice g1 (tln a.num.natAbs) d1) w1 (Sl.below (hS.get (List.mem_cons_of_mem _ List.mem_cons_self)) (below_drew hb1))).mono fun e w2 ⟨h1, h2⟩ => ⟨_, h1, rfl, h2⟩
  ·refine tyAt_none rfl ?_
   have hc := (hL0.call (below_drew hb1)).fc
   simp only [fcG, cellsF, neK, and_true, ne_eq, Nat.zero_add, Nat.reduceAdd] at hc
   simp [tyUpon, execOp, go_sem, Act.eval, hc, hmx, (of_decide_eq_true hcb), (of_decide_eq_true hcd), (of_decide_eq_false hbig), (of_decide_eq_true hca), (of_decide_eq_true hcc), Below.refl]
  ·have h4 : EV _ (fv 4) w1 := hp 4 (LC (by kernel_rfl))
   refine tyAt_none rfl ?_
   refine ty_call (f := 85) (args := #[.agg #[.bool (zs a.num), .slice g1 (tln a.num.natAbs) d1, .slice g2 (tln (fd a)) d2]]) (by simp [execOp, go_sem, Act.eval, h4]) ?_
   exact (HDn.out (.agg #[.bool (zs a.num), .slice g1 (tln a.num.natAbs) d1, .slice g2 (tln (fd a)) d2]) w1 (rf_of (Sl.below (hS.get (List.mem_cons_of_mem _ List.mem_cons_self)) (below_drew hb1)) (Sl.below (hS.get List.mem_cons_self) (below_drew hb1)))).mono fun e w2 ⟨pv, h1, h2, h3⟩ => ⟨pv, h1, h2, h3⟩
  ·have h5 : PN _ (fv 5) w1 := hp 5 (LC (by kernel_rfl))
   refine tyAt_none rfl ?_
   refine ty_call (f := 84) (args := #[fv 5]) (by simp [execOp, go_sem, Act.eval]) ?_
   exact (HB2.out (fv 5) w1 h5).mono fun e w2 ⟨h1, h2⟩ => ⟨_, h1, rfl, h2⟩
  ·have h3 : EV _ (fv 3) w1 := hp 3 (LC (by kernel_rfl))
   have h6 : EV _ (fv 6) w1 := hp 6 (LC (by kernel_rfl))
   refine tyAt_none rfl ?_
   simp [tyUpon, execOp, go_sem, Act.eval, h3, h6, hmx, (of_decide_eq_true hcb), (of_decide_eq_true hcd), (of_decide_eq_false hbig), (of_decide_eq_true hca), (of_decide_eq_true hcc), Below.refl]
  ·have h7 : EV _ (fv 7) w1 := hp 7 (LC (by kernel_rfl))
   refine tyAt_none rfl ?_
   simp [tyUpon, execOp, go_sem, Act.eval, h7, hmx, (of_decide_eq_true hcb), (of_decide_eq_true hcd), (of_decide_eq_false hbig), (of_decide_eq_true hca), (of_decide_eq_true hcc), Below.refl]
 ·intro fv x16 hb1 hv
  have e0 : fv 0 = _ := hv 0 (by omega)
  have e1 : fv 1 = _ := hv 1 (by omega)
  have e2 : fv 2 = _ := hv 2 (by omega)
  have e3 : fv 3 = _ := hv 3 (by omega)
  have e4 : fv 4 = _ := hv 4 (by omega)
  have q5 : Rn x16 (fv 5) dn := hv 5 (by omega)
  obtain ⟨g3, d3, e5⟩ := rn_form q5
  rw [e5] at q5
  have e6 : fv 6 = _ := hv 6 (by omega)
  have e7 : fv 7 = _ := hv 7 (by omega)
  have e8 : fv 8 = _ := hv 8 (by omega)
  simp only [List.take_succ_cons, List.take_zero, putsV, Act.put, List.setIfInBounds_toArray, List.set_cons_succ, List.set_cons_zero, List.drop_succ_cons, List.drop_zero, Nat.zero_add, Nat.reduceAdd, e0, e1, e2, e3, e4, e5, e6, e7, e8]
  replace hL0 := hL0.call (below_drew hb1)
  replace hS := hS.call (below_drew hb1)
  replace hS := hS.cons q5
  clear e0 e1 e2 e3 e4 e5 e6 e7 e8 hb1 hv q5 fv
  go_upto_region 13 with fail
  refine region_tl 44 [EV (fracV l), EV (fracV a), EV (.int .i64 c1), EV (.bool true), EV (.bool true), EV (fracV l), EV (fracV o), EV (fracV s), EV (fracV a), EV (.int .i64 c2), EV (.bool true), EV (.bool true), EV (.bool true), EV (fracV h), EV (fracV a), EV (.int .i64 c3), EV (.bool true), EV (.bool true), EV (.bool true), EV (fracV h), EV (fracV o), EV (fracV t), EV (fracV a), EV (.int .i64 c4), EV (.bool true), EV (.bool true), EV (.bool true), EV (fracV l), EV (fracV a), EV (.bool false), EV (.bool false), EV (.bool true), EV (.bool true), EV (.bool true), EV (fracV h), EV (fracV a), EV (.bool false), EV (.bool false), EV (.bool true), EV (.bool true), EV (.bool true), EV (.bool true), EV (.bool true), EV (.bool true)] (by kernel_rfl) (by kernel_rfl) ?_ ?_ ?_
  ·exact stays_cons (stays_eq _) (stays_cons (stays_eq _) (stays_cons (stays_eq _) (stays_cons (stays_eq _) (stays_cons (stays_eq _) (stays_cons (stays_eq _) (stays_cons (stays_eq _) (stays_cons (stays_eq _) (stays_cons (stays_eq _) (stays_cons (stays_eq _) (stays_cons (stays_eq _) (stays_cons (stays_eq _) (stays_cons (stays_eq _) (stays_cons (stays_eq _) (stays_cons (stays_eq _) (stays_cons (stays_eq _) (stays_cons (stays_eq _) (stays_cons (stays_eq _) (stays_cons (stays_eq _) (stays_cons (stays_eq _) (stays_cons (stays_eq _) (stays_cons (stays_eq _) (stays_cons (stays_eq _) (stays_cons (stays_eq _) (stays_cons (stays_eq _) (stays_cons (stays_eq _) (stays_cons (stays_eq _) (stays_cons (stays_eq _) (stays_cons (stays_eq _) (stays_cons (stays_eq _) (stays_cons (stays_eq _) (stays_cons (stays_eq _) (stays_cons (stays_eq _) (stays_cons (stays_eq _) (stays_cons (stays_eq _) (stays_cons (stays_eq _) (stays_cons (stays_eq _) (stays_cons (stays_eq _) (stays_cons (stays_eq _) (stays_cons (stays_eq _) (stays_cons (stays_eq _) (stays_cons (stays_eq _) (stays_cons (stays_eq _) (stays_cons (stays_eq _) (stays_nil))))))))))))))))))))))))))))))))))))))))))))
  ·simp only [List.take_succ_cons, List.take_zero, hopsR, and_true]
   refine ⟨?_, ?_, ?_, ?_, ?_, ?_, ?_, ?_, ?_, ?_, ?_, ?_, ?_, ?_, ?_, ?_, ?_, ?_, ?_, ?_, ?_, ?_, ?_, ?_, ?_, ?_, ?_, ?_, ?_, ?_, ?_, ?_, ?_, ?_, ?_, ?_, ?_, ?_, ?_, ?_, ?_, ?_, ?_, ?_⟩ <;> intro fv w1 hb1 hp
   all_goals (simp only [putsV, Act.put, List.setIfInBounds_toArray, List.set_cons_succ, List.set_cons_zero, Nat.zero_add, Nat.reduceAdd])
   ·refine tyAt_none rfl ?_
    have hc := (hL0.call (below_drew hb1)).fc
    simp only [fcG, cellsF, neK, and_true, ne_eq, Nat.zero_add, Nat.reduceAdd] at hc
    simp [tyUpon, execOp, go_sem, Act.eval, hc, hmx, (of_decide_eq_true hcb), (of_decide_eq_true hcd), (of_decide_eq_false hbig), (of_decide_eq_true hca), (of_decide_eq_true hcc), Below.refl]
   ·refine tyAt_none rfl ?_
    have hc := (hL0.call (below_drew hb1)).fc
    simp only [fcG, cellsF, neK, and_true, ne_eq, Nat.zero_add, Nat.reduceAdd] at hc
    simp [tyUpon, execOp, go_sem, Act.eval, hc, hmx, (of_decide_eq_true hcb), (of_decide_eq_true hcd), (of_decide_eq_false hbig), (of_decide_eq_true hca), (of_decide_eq_true hcc), Below.refl]
   ·have h0 : EV _ (fv 0) w1 := hp 0 (LC (by kernel_rfl))
    have h1 : EV _ (fv 1) w1 := hp 1 (LC (by kernel_rfl))
    refine tyAt_none rfl ?_
    refine ty_call (f := 73) (args := #[fracV l, fracV a]) (by simp [execOp, go_sem, Act.eval, h0, h1]) ?_
    exact (HC1.out w1).mono fun e w2 ⟨h1, h2⟩ => ⟨_, h1, rfl, h2⟩
   ·have h2 : EV _ (fv 2) w1 := hp 2 (LC (by kernel_rfl))
    refine tyAt_none rfl ?_
    simp [tyUpon, execOp, go_sem, Act.eval, h2, hmx, (of_decide_eq_true hcb), (of_decide_eq_true hcd), (of_decide_eq_false hbig), (of_decide_eq_true hca), (of_decide_eq_true hcc), Below.refl]
   ·have h3 : EV _ (fv 3) w1 := hp 3 (LC (by kernel_rfl))
    refine tyAt_none rfl ?_
    simp [tyUpon, execOp, go_sem, Act.eval, h3, hmx, (of_decide_eq_true hcb), (of_decide_eq_true hcd), (of_decide_eq_false hbig), (of_decide_eq_true hca), (of_decide_eq_true hcc), Below.refl]
   ·have h4 : EV _ (fv 4) w1 := hp 4 (LC (by kernel_rfl))
    refine tyAt_yes (by simp [Region.wanted, yielded, h4]) ?_
    have hc := (hL0.call (below_drew hb1)).fc
    simp only [fcG, cellsF, neK, and_true, ne_eq, Nat.zero_add, Nat.reduceAdd] at hc
    simp [tyUpon, execOp, go_sem, Act.eval, hc, h4, hmx, (of_decide_eq_true hcb), (of_decide_eq_true hcd), (of_decide_eq_false hbig), (of_decide_eq_true hca), (of_decide_eq_true hcc), Below.refl]
   ·have h4 : EV _ (fv 4) w1 := hp 4 (LC (by kernel_rfl))
    refine tyAt_yes (by simp [Region.wanted, yielded, h4]) ?_
    refine ty_call (f := 87) (args := #[.int .i64 1]) (by simp [execOp, go_sem, Act.eval, h4]) ?_
    exact (HI.out w1).mono fun e w2 ⟨h1, h2⟩ => ⟨_, h1, rfl, h2⟩
   ·have h5 : EV _ (fv 5) w1 := hp 5 (LC (by kernel_rfl))
    have h6 : EV _ (fv 6) w1 := hp 6 (LC (by kernel_rfl))
    have h4 : EV _ (fv 4) w1 := hp 4 (LC (by kernel_rfl))
    refine tyAt_yes (by simp [Region.wanted, yielded, h5, h6, h4]) ?_
    refine ty_call (f := 61) (args := #[fracV l, fracV o]) (by simp [execOp, go_sem, Act.eval, h5, h6, h4]) ?_
    exact (HA.out w1).mono fun e w2 ⟨h1, h2⟩ => ⟨_, h1, rfl, h2⟩
   ·have h4 : EV _ (fv 4) w1 := hp 4 (LC (by kernel_rfl))
    refine tyAt_yes (by simp [Region.wanted, yielded, h4]) ?_
    have hc := (hL0.call (below_drew hb1)).fc
    simp only [fcG, cellsF, neK, and_true, ne_eq, Nat.zero_add, Nat.reduceAdd] at hc
    simp [tyUpon, execOp, go_sem, Act.eval, hc, h4, hmx, (of_decide_eq_true hcb), (of_decide_eq_true hcd), (of_decide_eq_false hbig), (of_decide_eq_true hca), (of_decide_eq_true hcc), Below.refl]
   ·have h7 : EV _ (fv 7) w1 := hp 7 (LC (by kernel_rfl))
    have h8 : EV _ (fv 8) w1 := hp 8 (LC (by kernel_rfl))
    have h4 : EV _ (fv 4) w1 := hp 4 (LC (by kernel_rfl))
    refine tyAt_yes (by simp [Region.wanted, yielded, h7, h8, h4]) ?_
    refine ty_call (f := 73) (args := #[fracV s, fracV a]) (by simp [execOp, go_sem, Act.eval, h7, h8, h4]) ?_
    exact (HC2.out w1).mono fun e w2 ⟨h1, h2⟩ => ⟨_, h1, rfl, h2⟩
   ·have h9 : EV _ (fv 9) w1 := hp 9 (LC (by kernel_rfl))
    have h4 : EV _ (fv 4) w1 := hp 4 (LC (by kernel_rfl))
    refine tyAt_yes (by simp [Region.wanted, yielded, h9, h4]) ?_
    simp [tyUpon, execOp, go_sem, Act.eval, h9, h4, hmx, (of_decide_eq_true hcb), (of_decide_eq_true hcd), (of_decide_eq_false hbig), (of_decide_eq_true hca), (of_decide_eq_true hcc), Below.refl]
   ·have h4 : EV _ (fv 4) w1 := hp 4 (LC (by kernel_rfl))
    have h10 : EV _ (fv 10) w1 := hp 10 (LC (by kernel_rfl))
    refine tyAt_none rfl ?_
    simp [tyUpon, execOp, go_sem, Act.eval, h4, h10, hmx, (of_decide_eq_true hcb), (of_decide_eq_true hcd), (of_decide_eq_false hbig), (of_decide_eq_true hca), (of_decide_eq_true hcc), Below.refl]
   ·have h11 : EV _ (fv 11) w1 := hp 11 (LC (by kernel_rfl))
    refine tyAt_none rfl ?_
    simp [tyUpon, execOp, go_sem, Act.eval, h11, hmx, (of_decide_eq_true hcb), (of_decide_eq_true hcd), (of_decide_eq_false hbig), (of_decide_eq_true hca), (of_decide_eq_true hcc), Below.refl]
   ·have h12 : EV _ (fv 12) w1 := hp 12 (LC (by kernel_rfl))
    refine tyAt_yes (by simp [Region.wanted, yielded, h12]) ?_
    have hc := (hL0.call (below_drew hb1)).fc
    simp only [fcG, cellsF, neK, and_true, ne_eq, Nat.zero_add, Nat.reduceAdd] at hc
    simp [tyUpon, execOp, go_sem, Act.eval, hc, h12, hmx, (of_decide_eq_true hcb), (of_decide_eq_true hcd), (of_decide_eq_false hbig), (of_decide_eq_true hca), (of_decide_eq_true hcc), Below.refl]
   ·have h12 : EV _ (fv 12) w1 := hp 12 (LC (by kernel_rfl))
    refine tyAt_yes (by simp [Region.wanted, yielded, h12]) ?_
    have hc := (hL0.call (below_drew hb1)).fc
    simp only [fcG, cellsF, neK, and_true, ne_eq, Nat.zero_add, Nat.reduceAdd] at hc
    simp [tyUpon, execOp, go_sem, Act.eval, hc, h12, hmx, (of_decide_eq_true hcb), (of_decide_eq_true hcd), (of_decide_eq_false hbig), (of_decide_eq_true hca), (of_decide_eq_true hcc), Below.refl]
   ·have h13 : EV _ (fv 13) w1 := hp 13 (LC (by kernel_rfl))
    have h14 : EV _ (fv 14) w1 := hp 14 (LC (by kernel_rfl))
    have h12 : EV _ (fv 12) w1 := hp 12 (LC (by kernel_rfl))
    refine tyAt_yes (by simp [Region.wanted, yielded, h13, h14, h12]) ?_
    refine ty_call (f := 73) (args := #[fracV h, fracV a]) (by simp [execOp, go_sem, Act.eval, h13, h14, h12]) ?_
    exact (HC3.out w1).mono fun e w2 ⟨h1, h2⟩ => ⟨_, h1, rfl, h2⟩
   ·have h15 : EV _ (fv 15) w1 := hp 15 (LC (by kernel_rfl))
    have h12 : EV _ (fv 12) w1 := hp 12 (LC (by kernel_rfl))
    refine tyAt_yes (by simp [Region.wanted, yielded, h15, h12]) ?_
    simp [tyUpon, execOp, go_sem, Act.eval, h15, h12, hmx, (of_decide_eq_true hcb), (of_decide_eq_true hcd), (of_decide_eq_false hbig), (of_decide_eq_true hca), (of_decide_eq_true hcc), Below.refl]
   ·have h12 : EV _ (fv 12) w1 := hp 12 (LC (by kernel_rfl))
    have h16 : EV _ (fv 16) w1 := hp 16 (LC (by kernel_rfl))
    refine tyAt_none rfl ?_
    simp [tyUpon, execOp, go_sem, Act.eval, h12, h16, hmx, (of_decide_eq_true hcb), (of_decide_eq_true hcd), (of_decide_eq_false hbig), (of_decide_eq_true hca), (of_decide_eq_true hcc), Below.refl]
   ·have h17 : EV _ (fv 17) w1 := hp 17 (LC (by kernel_rfl))
    refine tyAt_none rfl ?_
    simp [tyUpon, execOp, go_sem, Act.eval, h17, hmx, (of_decide_eq_true hcb), (of_decide_eq_true hcd), (of_decide_eq_false hbig), (of_decide_eq_true hca), (of_decide_eq_true hcc), Below.refl]
   ·have h18 : EV _ (fv 18) w1 := hp 18 (LC (by kernel_rfl))
    refine tyAt_yes (by simp [Region.wanted, yielded, h18]) ?_
    have hc := (hL0.call (below_drew hb1)).fc
    simp only [fcG, cellsF, neK, and_true, ne_eq, Nat.zero_add, Nat.reduceAdd] at hc
    simp [tyUpon, execOp, go_sem, Act.eval, hc, h18, hmx, (of_decide_eq_true hcb), (of_decide_eq_true hcd), (of_decide_eq_false hbig), (of_decide_eq_true hca), (of_decide_eq_true hcc), Below.refl]
   ·have h18 : EV _ (fv 18) w1 := hp 18 (LC (by kernel_rfl))
    refine tyAt_yes (by simp [Region.wanted, yielded, h18]) ?_
    refine ty_call (f := 87) (args := #[.int .i64 1]) (by simp [execOp, go_sem, Act.eval, h18]) ?_
    exact (HI.out w1).mono fun e w2 ⟨h1, h2⟩ => ⟨_, h1, rfl, h2⟩
   ·have h19 : EV _ (fv 19) w1 := hp 19 (LC (by kernel_rfl))
    have h20 : EV _ (fv 20) w1 := hp 20 (LC (by kernel_rfl))
    have h18 : EV _ (fv 18) w1 := hp 18 (LC (by kernel_rfl))
    refine tyAt_yes (by simp [Region.wanted, yielded, h19, h20, h18]) ?_
    refine ty_call (f := 63) (args := #[fracV h, fracV o]) (by simp [execOp, go_sem, Act.eval, h19, h20, h18]) ?_
    exact (HS.out w1).mono fun e w2 ⟨h1, h2⟩ => ⟨_, h1, rfl, h2⟩
   ·have h18 : EV _ (fv 18) w1 := hp 18 (LC (by kernel_rfl))
    refine tyAt_yes (by simp [Region.wanted, yielded, h18]) ?_
    have hc := (hL0.call (below_drew hb1)).fc
    simp only [fcG, cellsF, neK, and_true, ne_eq, Nat.zero_add, Nat.reduceAdd] at hc
    simp [tyUpon, execOp, go_sem, Act.eval, hc, h18, hmx, (of_decide_eq_true hcb), (of_decide_eq_true hcd), (of_decide_eq_false hbig), (of_decide_eq_true hca), (of_decide_eq_true hcc), Below.refl]
   ·have h21 : EV _ (fv 21) w1 := hp 21 (LC (by kernel_rfl))
    have h22 : EV _ (fv 22) w1 := hp 22 (LC (by kernel_rfl))
    have h18 : EV _ (fv 18) w1 := hp 18 (LC (by kernel_rfl))
    refine tyAt_yes (by simp [Region.wanted, yielded, h21, h22, h18]) ?_
    refine ty_call (f := 73) (args := #[fracV t, fracV a]) (by simp [execOp, go_sem, Act.eval, h21, h22, h18]) ?_
    exact (HC4.out w1).mono fun e w2 ⟨h1, h2⟩ => ⟨_, h1, rfl, h2⟩
   ·have h23 : EV _ (fv 23) w1 := hp 23 (LC (by kernel_rfl))
    have h18 : EV _ (fv 18) w1 := hp 18 (LC (by kernel_rfl))
    refine tyAt_yes (by simp [Region.wanted, yielded, h23, h18]) ?_
    simp [tyUpon, execOp, go_sem, Act.eval, h23, h18, hmx, (of_decide_eq_true hcb), (of_decide_eq_true hcd), (of_decide_eq_false hbig), (of_decide_eq_true hca), (of_decide_eq_true hcc), Below.refl]
   ·have h18 : EV _ (fv 18) w1 := hp 18 (LC (by kernel_rfl))
    have h24 : EV _ (fv 24) w1 := hp 24 (LC (by kernel_rfl))
    refine tyAt_none rfl ?_
    simp [tyUpon, execOp, go_sem, Act.eval, h18, h24, hmx, (of_decide_eq_true hcb), (of_decide_eq_true hcd), (of_decide_eq_false hbig), (of_decide_eq_true hca), (of_decide_eq_true hcc), Below.refl]
   ·have h25 : EV _ (fv 25) w1 := hp 25 (LC (by kernel_rfl))
    refine tyAt_none rfl ?_
    simp [tyUpon, execOp, go_sem, Act.eval, h25, hmx, (of_decide_eq_true hcb), (of_decide_eq_true hcd), (of_decide_eq_false hbig), (of_decide_eq_true hca), (of_decide_eq_true hcc), Below.refl]
   ·have h26 : EV _ (fv 26) w1 := hp 26 (LC (by kernel_rfl))
    refine tyAt_yes (by simp [Region.wanted, yielded, h26]) ?_
    have hc := (hL0.call (below_drew hb1)).fc
    simp only [fcG, cellsF, neK, and_true, ne_eq, Nat.zero_add, Nat.reduceAdd] at hc
    simp [tyUpon, execOp, go_sem, Act.eval, hc, h26, hmx, (of_decide_eq_true hcb), (of_decide_eq_true hcd), (of_decide_eq_false hbig), (of_decide_eq_true hca), (of_decide_eq_true hcc), Below.refl]
   ·have h26 : EV _ (fv 26) w1 := hp 26 (LC (by kernel_rfl))
    refine tyAt_yes (by simp [Region.wanted, yielded, h26]) ?_
    have hc := (hL0.call (below_drew hb1)).fc
    simp only [fcG, cellsF, neK, and_true, ne_eq, Nat.zero_add, Nat.reduceAdd] at hc
    simp [tyUpon, execOp, go_sem, Act.eval, hc, h26, hmx, (of_decide_eq_true hcb), (of_decide_eq_true hcd), (of_decide_eq_false hbig), (of_decide_eq_true hca), (of_decide_eq_true hcc), Below.refl]
   ·have h27 : EV _ (fv 27) w1 := hp 27 (LC (by kernel_rfl))
    have h28 : EV _ (fv 28) w1 := hp 28 (LC (by kernel_rfl))
    have h26 : EV _ (fv 26) w1 := hp 26 (LC (by kernel_rfl))
    refine tyAt_yes (by simp [Region.wanted, yielded, h27, h28, h26]) ?_
    rcases ne_fr hl.out with hz | hz | hz | hz | hz <;> simp [tyUpon, execOp, go_sem, Act.eval, h27, h28, h26, hmx, (of_decide_eq_true hcb), (of_decide_eq_true hcd), (of_decide_eq_false hbig), (of_decide_eq_true hca), (of_decide_eq_true hcc), hz, Below.refl]
   ·have h26 : EV _ (fv 26) w1 := hp 26 (LC (by kernel_rfl))
    refine tyAt_yes (by simp [Region.wanted, yielded, h26]) ?_
    simp [tyUpon, execOp, go_sem, Act.eval, h26, hmx, (of_decide_eq_true hcb), (of_decide_eq_true hcd), (of_decide_eq_false hbig), (of_decide_eq_true hca), (of_decide_eq_true hcc), Below.refl]
   ·have h29 : EV _ (fv 29) w1 := hp 29 (LC (by kernel_rfl))
    have h30 : EV _ (fv 30) w1 := hp 30 (LC (by kernel_rfl))
    have h26 : EV _ (fv 26) w1 := hp 26 (LC (by kernel_rfl))
    refine tyAt_yes (by simp [Region.wanted, yielded, h29, h30, h26]) ?_
    simp [tyUpon, execOp, go_sem, Act.eval, h29, h30, h26, hmx, (of_decide_eq_true hcb), (of_decide_eq_true hcd), (of_decide_eq_false hbig), (of_decide_eq_true hca), (of_decide_eq_true hcc), Below.refl]
   ·have h26 : EV _ (fv 26) w1 := hp 26 (LC (by kernel_rfl))
    have h31 : EV _ (fv 31) w1 := hp 31 (LC (by kernel_rfl))
    refine tyAt_none rfl ?_
    simp [tyUpon, execOp, go_sem, Act.eval, h26, h31, hmx, (of_decide_eq_true hcb), (of_decide_eq_true hcd), (of_decide_eq_false hbig), (of_decide_eq_true hca), (of_decide_eq_true hcc), Below.refl]
   ·have h32 : EV _ (fv 32) w1 := hp 32 (LC (by kernel_rfl))
    refine tyAt_none rfl ?_
    simp [tyUpon, execOp, go_sem, Act.eval, h32, hmx, (of_decide_eq_true hcb), (of_decide_eq_true hcd), (of_decide_eq_false hbig), (of_decide_eq_true hca), (of_decide_eq_true hcc), Below.refl]
   ·have h33 : EV _ (fv 33) w1 := hp 33 (LC (by kernel_rfl))
    refine tyAt_yes (by simp [Region.wanted, yielded, h33]) ?_
    have hc := (hL0.call (below_drew hb1)).fc
    simp only [fcG, cellsF, neK, and_true, ne_eq, Nat.zero_add, Nat.reduceAdd] at hc
    simp [tyUpon, execOp, go_sem, Act.eval, hc, h33, hmx, (of_decide_eq_true hcb), (of_decide_eq_true hcd), (of_decide_eq_false hbig), (of_decide_eq_true hca), (of_decide_eq_true hcc), Below.refl]
   ·have h33 : EV _ (fv 33) w1 := hp 33 (LC (by kernel_rfl))
    refine tyAt_yes (by simp [Region.wanted, yielded, h33]) ?_
    have hc := (hL0.call (below_drew hb1)).fc
    simp only [fcG, cellsF, neK, and_true, ne_eq, Nat.zero_add, Nat.reduceAdd] at hc
    simp [tyUpon, execOp, go_sem, Act.eval, hc, h33, hmx, (of_decide_eq_true hcb), (of_decide_eq_true hcd), (of_decide_eq_false hbig), (of_decide_eq_true hca), (of_decide_eq_true hcc), Below.refl]
   ·have h34 : EV _ (fv 34) w1 := hp 34 (LC (by kernel_rfl))
    have h35 : EV _ (fv 35) w1 := hp 35 (LC (by kernel_rfl))
    have h33 : EV _ (fv 33) w1 := hp 33 (LC (by kernel_rfl))
    refine tyAt_yes (by simp [Region.wanted, yielded, h34, h35, h33]) ?_
    rcases ne_fr hh.out with hz | hz | hz | hz | hz <;> simp [tyUpon, execOp, go_sem, Act.eval, h34, h35, h33, hmx, (of_decide_eq_true hcb), (of_decide_eq_true hcd), (of_decide_eq_false hbig), (of_decide_eq_true hca), (of_decide_eq_true hcc), hz, Below.refl]
   ·have h33 : EV _ (fv 33) w1 := hp 33 (LC (by kernel_rfl))
    refine tyAt_yes (by simp [Region.wanted, yielded, h33]) ?_
    simp [tyUpon, execOp, go_sem, Act.eval, h33, hmx, (of_decide_eq_true hcb), (of_decide_eq_true hcd), (of_decide_eq_false hbig), (of_decide_eq_true hca), (of_decide_eq_true hcc), Below.refl]
   ·have h36 : EV _ (fv 36) w1 := hp 36 (LC (by kernel_rfl))
    have h37 : EV _ (fv 37) w1 := hp 37 (LC (by kernel_rfl))
    have h33 : EV _ (fv 33) w1 := hp 33 (LC (by kernel_rfl))
    refine tyAt_yes (by simp [Region.wanted, yielded, h36, h37, h33]) ?_
    simp [tyUpon, execOp, go_sem, Act.eval, h36, h37, h33, hmx, (of_decide_eq_true hcb), (of_decide_eq_true hcd), (of_decide_eq_false hbig), (of_decide_eq_true hca), (of_decide_eq_true hcc), Below.refl]
   ·have h33 : EV _ (fv 33) w1 := hp 33 (LC (by kernel_rfl))
    have h38 : EV _ (fv 38) w1 := hp 38 (LC (by kernel_rfl))
    refine tyAt_none rfl ?_
    simp [tyUpon, execOp, go_sem, Act.eval, h33, h38, hmx, (of_decide_eq_true hcb), (of_decide_eq_true hcd), (of_decide_eq_false hbig), (of_decide_eq_true hca), (of_decide_eq_true hcc), Below.refl]
   ·have h39 : EV _ (fv 39) w1 := hp 39 (LC (by kernel_rfl))
    refine tyAt_none rfl ?_
    simp [tyUpon, execOp, go_sem, Act.eval, h39, hmx, (of_decide_eq_true hcb), (of_decide_eq_true hcd), (of_decide_eq_false hbig), (of_decide_eq_true hca), (of_decide_eq_true hcc), Below.refl]
   ·have h40 : EV _ (fv 40) w1 := hp 40 (LC (by kernel_rfl))
    refine tyAt_yes (by simp [Region.wanted, yielded, h40]) ?_
    refine ty_call (f := 54) (args := #[]) (by simp [execOp, go_sem, Act.eval, h40]) ?_
    exact (HW.out w1 (hKT.out.at ((hL0.call (below_drew hb1)).bl) kKT)).mono fun e w2 ⟨h1, h2⟩ => ⟨_, h1, rfl, h2⟩
   ·have h40 : EV _ (fv 40) w1 := hp 40 (LC (by kernel_rfl))
    have h41 : EV _ (fv 41) w1 := hp 41 (LC (by kernel_rfl))
    refine tyAt_none rfl ?_
    simp [tyUpon, execOp, go_sem, Act.eval, h40, h41, hmx, (of_decide_eq_true hcb), (of_decide_eq_true hcd), (of_decide_eq_false hbig), (of_decide_eq_true hca), (of_decide_eq_true hcc), Below.refl]
   ·have h42 : EV _ (fv 42) w1 := hp 42 (LC (by kernel_rfl))
    refine tyAt_none rfl ?_
    simp [tyUpon, execOp, go_sem, Act.eval, h42, hmx, (of_decide_eq_true hcb), (of_decide_eq_true hcd), (of_decide_eq_false hbig), (of_decide_eq_true hca), (of_decide_eq_true hcc), Below.refl]
  ·intro fv x17 hb1 hv
   have e0 : fv 0 = _ := hv 0 (by omega)
   have e1 : fv 1 = _ := hv 1 (by omega)
   have e2 : fv 2 = _ := hv 2 (by omega)
   have e3 : fv 3 = _ := hv 3 (by omega)
   have e4 : fv 4 = _ := hv 4 (by omega)
   have e5 : fv 5 = _ := hv 5 (by omega)
   have e6 : fv 6 = _ := hv 6 (by omega)
   have e7 : fv 7 = _ := hv 7 (by omega)
   have e8 : fv 8 = _ := hv 8 (by omega)
   have e9 : fv 9 = _ := hv 9 (by omega)
   have e10 : fv 10 = _ := hv 10 (by omega)
   have e11 : fv 11 = _ := hv 11 (by omega)
   have e12 : fv 12 = _ := hv 12 (by omega)
   have e13 : fv 13 = _ := hv 13 (by omega)
   have e14 : fv 14 = _ := hv 14 (by omega)
   have e15 : fv 15 = _ := hv 15 (by omega)
   have e16 : fv 16 = _ := hv 16 (by omega)
   have e17 : fv 17 = _ := hv 17 (by omega)
   have e18 : fv 18 = _ := hv 18 (by omega)
   have e19 : fv 19 = _ := hv 19 (by omega)
   have e20 : fv 20 = _ := hv 20 (by omega)
   have e21 : fv 21 = _ := hv 21 (by omega)
   have e22 : fv 22 = _ := hv 22 (by omega)
   have e23 : fv 23 = _ := hv 23 (by omega)
   have e24 : fv 24 = _ := hv 24 (by omega)
   have e25 : fv 25 = _ := hv 25 (by omega)
   have e26 : fv 26 = _ := hv 26 (by omega)
   have e27 : fv 27 = _ := hv 27 (by omega)
   have e28 : fv 28 = _ := hv 28 (by omega)
   have e29 : fv 29 = _ := hv 29 (by omega)
   have e30 : fv 30 = _ := hv 30 (by omega)
   have e31 : fv 31 = _ := hv 31 (by omega)
   have e32 : fv 32 = _ := hv 32 (by omega)
   have e33 : fv 33 = _ := hv 33 (by omega)
   have e34 : fv 34 = _ := hv 34 (by omega)
   have e35 : fv 35 = _ := hv 35 (by omega)
   have e36 : fv 36 = _ := hv 36 (by omega)
   have e37 : fv 37 = _ := hv 37 (by omega)
   have e38 : fv 38 = _ := hv 38 (by omega)
   have e39 : fv 39 = _ := hv 39 (by omega)
   have e40 : fv 40 = _ := hv 40 (by omega)
   have e41 : fv 41 = _ := hv 41 (by omega)
   have e42 : fv 42 = _ := hv 42 (by omega)
   have e43 : fv 43 = _ := hv 43 (by omega)
   simp only [List.take_succ_cons, List.take_zero, putsV, Act.put, List.setIfInBounds_toArray, List.set_cons_succ, List.set_cons_zero, List.drop_succ_cons, List.drop_zero, Nat.zero_add, Nat.reduceAdd, e0, e1, e2, e3, e4, e5, e6, e7, e8, e9, e10, e11, e12, e13, e14, e15, e16, e17, e18, e19, e20, e21, e22, e23, e24, e25, e26, e27, e28, e29, e30, e31, e32, e33, e34, e35, e36, e37, e38, e39, e40, e41, e42, e43]
   replace hL0 := hL0.call (below_drew hb1)
   replace hS := hS.call (below_drew hb1)
   clear e0 e1 e2 e3 e4 e5 e6 e7 e8 e9 e10 e11 e12 e13 e14 e15 e16 e17 e18 e19 e20 e21 e22 e23 e24 e25 e26 e27 e28 e29 e30 e31 e32 e33 e34 e35 e36 e37 e38 e39 e40 e41 e42 e43 hb1 hv fv
   go_wp2_with fail
   exact bodyPost_ret (v := .bool true) (by simp [results, Tryz.results9, go_sem]) rfl ⟨rfl, hL0.bl⟩
set_option maxHeartbeats 4000000 in
set_option maxRecDepth 100000 in
theorem ffloors_pb (sx : Bool) (ax qx : Option Addr) (nx cx mx dx : Nat) (a l h o s t : Rat) (dn : Nat) (u v i j x c2 c4 c1 c3 : Int) (Kx : World → Prop) (hKx : Keeps Kx) (GX : RK Kx 55 #[.agg #[.bool sx, .slice ax nx cx, .slice qx mx dx]] (fracV a)) (HFl : RT 75 #[fracV a] (intV u)) (HO : RT 81 #[.int .u64 1] (natV 1)) (HFr : RT 80 #[intV u, natV 1] (.tuple #[fracV l, .int .i64 0])) (HCe : RT 82 #[fracV a] (intV v)) (HFs : RT 80 #[intV v, natV 1] (.tuple #[fracV h, .int .i64 0])) (HWh : RT 83 #[fracV a] (.bool false)) (RX : ∀ (w : World), Kx w → Calls Tryz.prog 56 #[.agg #[.bool sx, .slice ax nx cx, .slice qx mx dx]] w fun e w' => ∃ pv, e = .returned pv ∧ RF w' pv a ∧ Below w.heap.size w w') (HB1 : ∀ (p0 : Value) (w : World), Rn w p0 a.num.natAbs → Calls Tryz.prog 84 #[p0] w fun e w' => e = .returned (.int .i64 i) ∧ Below w.heap.size w w') (HDn : ∀ (p0 : Value) (w : World), RF w p0 a → Calls Tryz.prog 85 #[p0] w fun e w' => ∃ pv, e = .returned pv ∧ Rn w' pv dn ∧ Below w.heap.size w w') (HB2 : ∀ (p0 : Value) (w : World), Rn w p0 dn → Calls Tryz.prog 84 #[p0] w fun e w' => e = .returned (.int .i64 j) ∧ Below w.heap.size w w') (HP1 : RT 86 #[fracV a, .int .i64 4096] (.tuple #[.agg #[.int .u64 0, .string ⟨#[]⟩, .bool false, .int .u64 0, .string ⟨#[]⟩], .int .i64 3])) (HP2 : RT 86 #[fracV a, .int .i64 (-4096)] (.tuple #[.agg #[.int .u64 0, .string ⟨#[]⟩, .bool false, .int .u64 0, .string ⟨#[]⟩], .int .i64 3])) (HC1 : RT 73 #[fracV l, fracV a] (.int .i64 c1)) (HC3 : RT 73 #[fracV h, fracV a] (.int .i64 c3)) (HI : RT 87 #[.int .i64 1] (fracV o)) (HA : RT 61 #[fracV l, fracV o] (fracV s)) (HC2 : RT 73 #[fracV s, fracV a] (.int .i64 c2)) (HS : RT 63 #[fracV h, fracV o] (fracV t)) (HC4 : RT 73 #[fracV t, fracV a] (.int .i64 c4)) (KT : World → Prop) (hKT : Keeps KT) (HW : RK KT 54 #[] (.bool true)) (hfew : decide (nx ≤ 10 ∧ mx ≤ 10) = true) (hcb : decide (0 < c2) = true) (hcd : decide (c4 < 0) = true) (hmx : max i j = x) (hbig : decide (64 < x) = true) (hca : decide (c1 ≤ 0) = true) (hcc : decide (0 ≤ c3) = true) (hl : l ≠ a) (hh : h ≠ a) (w : World) (kKx : Kx w) (kKT : KT w) :
  Calls Tryz.prog 9 #[.agg #[.bool sx, .slice ax nx cx, .slice qx mx dx]] w fun e w' => e = .returned (.bool true) ∧ Below w.heap.size w w' := by
 replace hKx := Lib.hid hKx
 replace GX := Lib.hid GX
 replace HFl := Lib.hid HFl
 replace HO := Lib.hid HO
 replace HFr := Lib.hid HFr
 replace HCe := Lib.hid HCe
 replace HFs := Lib.hid HFs
 replace HWh := Lib.hid HWh
 replace RX := Lib.hid RX
 replace HB1 := Lib.hid HB1
 replace HDn := Lib.hid HDn
 replace HB2 := Lib.hid HB2
 replace HP1 := Lib.hid HP1
 replace HP2 := Lib.hid HP2
 replace HC1 := Lib.hid HC1
 replace HC3 := Lib.hid HC3
 replace HI := Lib.hid HI
 replace HA := Lib.hid HA
 replace HC2 := Lib.hid HC2
 replace HS := Lib.hid HS
 replace HC4 := Lib.hid HC4
 replace hKT := Lib.hid hKT
 replace HW := Lib.hid HW
 have hL0 : GL w w [] := GL.start w
 have hS : SS w [] := SS.nil w
 replace hl := Lib.hid hl
 replace hh := Lib.hid hh
 replace hS := ((hS.new (.cells #[.bool sx, .slice ax nx cx, .slice qx mx dx] 76)).new (.cells #[.bool sx, .slice ax nx cx, .slice qx mx dx] 76))
 replace hL0 := ((hL0.new rfl [.bool sx, .slice ax nx cx, .slice qx mx dx] 76).new (K := w.heap.size + 1) (szA _ _) [.bool sx, .slice ax nx cx, .slice qx mx dx] 76)
 generalize hweq : ((w.alloc (.cells #[.bool sx, .slice ax nx cx, .slice qx mx dx] 76)).alloc (.cells #[.bool sx, .slice ax nx cx, .slice qx mx dx] 76)) = x1 at hL0 hS
 go_enter Tryz.func9, Tryz.ntmps9
 have hN0 := cells_of _ 0 [] rfl (hL0.get _ _ (List.mem_cons_of_mem _ List.mem_cons_self))
 simp only [cellsF, and_true, Nat.zero_add, Nat.reduceAdd] at hN0
 have HFw := gfew1 10 10 rfl (by omega) (hL0.get _ _ List.mem_cons_self)
 rw [hfew] at HFw
 replace HFw := Lib.hid HFw
 go_wp2_with fail
 with_reducible refine Calls.mono (HFw.out) ?_
 rintro e x2 ⟨rfl, rfl⟩
 clear HFw
 clear hN0
 have hN0 := cells_of _ 0 [] rfl (hL0.get _ _ (List.mem_cons_of_mem _ List.mem_cons_self))
 simp only [cellsF, and_true, Nat.zero_add, Nat.reduceAdd] at hN0
 go_wp2_with fail
 clear hN0
 with_reducible refine Calls.mono (GX.out _ (hKx.out.at (hL0.bl) kKx)) ?_
 rintro e x3 ⟨rfl, hb⟩
 replace hL0 := hL0.call hb
 replace hS := hS.call hb
 clear hb hweq
 replace hS := (hS.new (.cells #[.int .u64 ((zl a.num : Nat) : Int), .string (zh a.num), .bool (zs a.num), .int .u64 ((lo (fe a) : Nat) : Int), .string (hs (fe a))] 79))
 replace hL0 := (hL0.new rfl [.int .u64 ((zl a.num : Nat) : Int), .string (zh a.num), .bool (zs a.num), .int .u64 ((lo (fe a) : Nat) : Int), .string (hs (fe a))] 79)
 generalize hweq : (x3.alloc (.cells #[.int .u64 ((zl a.num : Nat) : Int), .string (zh a.num), .bool (zs a.num), .int .u64 ((lo (fe a) : Nat) : Int), .string (hs (fe a))] 79)) = x4 at hL0 hS
 have hN0 := cells_of _ 0 [] rfl (hL0.get _ _ List.mem_cons_self)
 simp only [cellsF, and_true, Nat.zero_add, Nat.reduceAdd] at hN0
 go_wp2_with fail
 clear hN0
 with_reducible refine Calls.mono (HFl.out _) ?_
 rintro e x5 ⟨rfl, hb⟩
 replace hL0 := hL0.call hb
 replace hS := hS.call hb
 clear hb hweq
 go_wp2_with fail
 with_reducible refine Calls.mono (HO.out _) ?_
 rintro e x6 ⟨rfl, hb⟩
 replace hL0 := hL0.call hb
 replace hS := hS.call hb
 clear hb
 go_wp2_with fail
 with_reducible refine Calls.mono (HFr.out _) ?_
 rintro e x7 ⟨rfl, hb⟩
 replace hL0 := hL0.call hb
 replace hS := hS.call hb
 clear hb
 replace hS := (hS.new (.cells #[.int .u64 ((zl l.num : Nat) : Int), .string (zh l.num), .bool (zs l.num), .int .u64 ((lo (fe l) : Nat) : Int), .string (hs (fe l))] 79))
 replace hL0 := (hL0.new rfl [.int .u64 ((zl l.num : Nat) : Int), .string (zh l.num), .bool (zs l.num), .int .u64 ((lo (fe l) : Nat) : Int), .string (hs (fe l))] 79)
 generalize hweq : (x7.alloc (.cells #[.int .u64 ((zl l.num : Nat) : Int), .string (zh l.num), .bool (zs l.num), .int .u64 ((lo (fe l) : Nat) : Int), .string (hs (fe l))] 79)) = x8 at hL0 hS
 have hN0 := cells_of _ 0 [] rfl (hL0.get _ _ (List.mem_cons_of_mem _ List.mem_cons_self))
 simp only [cellsF, and_true, Nat.zero_add, Nat.reduceAdd] at hN0
 go_wp2_with fail
 clear hN0
 with_reducible refine Calls.mono (HCe.out _) ?_
 rintro e x9 ⟨rfl, hb⟩
 replace hL0 := hL0.call hb
 replace hS := hS.call hb
 clear hb hweq
 go_wp2_with fail
 with_reducible refine Calls.mono (HO.out _) ?_
 rintro e x10 ⟨rfl, hb⟩
 replace hL0 := hL0.call hb
 replace hS := hS.call hb
 clear hb
 go_wp2_with fail
 with_reducible refine Calls.mono (HFs.out _) ?_
 rintro e x11 ⟨rfl, hb⟩
 replace hL0 := hL0.call hb
 replace hS := hS.call hb
 clear hb
 replace hS := (hS.new (.cells #[.int .u64 ((zl h.num : Nat) : Int), .string (zh h.num), .bool (zs h.num), .int .u64 ((lo (fe h) : Nat) : Int), .string (hs (fe h))] 79))
 replace hL0 := (hL0.new rfl [.int .u64 ((zl h.num : Nat) : Int), .string (zh h.num), .bool (zs h.num), .int .u64 ((lo (fe h) : Nat) : Int), .string (hs (fe h))] 79)
 generalize hweq : (x11.alloc (.cells #[.int .u64 ((zl h.num : Nat) : Int), .string (zh h.num), .bool (zs h.num), .int .u64 ((lo (fe h) : Nat) : Int), .string (hs (fe h))] 79)) = x12 at hL0 hS
 have hN0 := cells_of _ 0 [] rfl (hL0.get _ _ (List.mem_cons_of_mem _ (List.mem_cons_of_mem _ List.mem_cons_self)))
 simp only [cellsF, and_true, Nat.zero_add, Nat.reduceAdd] at hN0
 go_wp2_with fail
 clear hN0
 with_reducible refine Calls.mono (HWh.out _) ?_
 rintro e x13 ⟨rfl, hb⟩
 replace hL0 := hL0.call hb
 replace hS := hS.call hb
 clear hb hweq
 have hN0 := cells_of _ 0 [] rfl (hL0.get _ _ (List.mem_cons_of_mem _ (List.mem_cons_of_mem _ (List.mem_cons_of_mem _ (List.mem_cons_of_mem _ List.mem_cons_self)))))
 simp only [cellsF, and_true, Nat.zero_add, Nat.reduceAdd] at hN0
 go_wp2_with fail
 clear hN0
 with_reducible refine Calls.mono (RX.out _ (hKx.out.at (hL0.bl) kKx)) ?_
 rintro e x14 ⟨v0, rfl, q0, hb⟩
 replace hL0 := hL0.call hb
 replace hS := hS.call hb
 clear hb
 obtain ⟨g1, d1, g2, d2, rfl⟩ := rf_form q0
 replace hS := hS.cons (rf_rn1 q0)
 replace hS := hS.cons (rf_rn2 q0)
 clear q0
 replace hS := (hS.new (.cells #[.bool (zs a.num), .slice g1 (tln a.num.natAbs) d1, .slice g2 (tln (fd a)) d2] 82))
 replace hL0 := (hL0.new rfl [.bool (zs a.num), .slice g1 (tln a.num.natAbs) d1, .slice g2 (tln (fd a)) d2] 82)
 generalize hweq : (x14.alloc (.cells #[.bool (zs a.num), .slice g1 (tln a.num.natAbs) d1, .slice g2 (tln (fd a)) d2] 82)) = x15 at hL0 hS
 go_upto_region 8 with fail
 clear hweq
 refine region_tl 9 [EV (.pointer (some ⟨x14.heap.size, 0, none⟩)), EV (.pointer (some ⟨x14.heap.size, 1, none⟩)), EV (.slice g1 (tln a.num.natAbs) d1), EV (.int .i64 i), EV (.agg #[.bool (zs a.num), .slice g1 (tln a.num.natAbs) d1, .slice g2 (tln (fd a)) d2]), PN dn, EV (.int .i64 j), EV (.int .i64 x), EV (.bool true)] (by kernel_rfl) (by kernel_rfl) ?_ ?_ ?_
 ·exact stays_cons (stays_eq _) (stays_cons (stays_eq _) (stays_cons (stays_eq _) (stays_cons (stays_eq _) (stays_cons (stays_eq _) (stays_cons (stays_rn _) (stays_cons (stays_eq _) (stays_cons (stays_eq _) (stays_cons (stays_eq _) (stays_nil)))))))))
 ·simp only [List.take_succ_cons, List.take_zero, hopsR, and_true]
  refine ⟨?_, ?_, ?_, ?_, ?_, ?_, ?_, ?_, ?_⟩ <;> intro fv w1 hb1 hp
  all_goals (simp only [putsV, Act.put, List.setIfInBounds_toArray, List.set_cons_succ, List.set_cons_zero, Nat.zero_add, Nat.reduceAdd])
  ·refine tyAt_none rfl ?_
   simp [tyUpon, execOp, go_sem, Act.eval, hmx, (of_decide_eq_true hcb), (of_decide_eq_true hcd), (of_decide_eq_true hbig), (of_decide_eq_true hca), (of_decide_eq_true hcc), Below.refl]
  ·have h0 : EV _ (fv 0) w1 := hp 0 (LC (by kernel_rfl))
   refine tyAt_none rfl ?_
   simp [tyUpon, execOp, go_sem, Act.eval, h0, hmx, (of_decide_eq_true hcb), (of_decide_eq_true hcd), (of_decide_eq_true hbig), (of_decide_eq_true hca), (of_decide_eq_true hcc), Below.refl]
  ·have h1 : EV _ (fv 1) w1 := hp 1 (LC (by kernel_rfl))
   refine tyAt_none rfl ?_
   have hc := (hL0.call (below_drew hb1)).fc
   simp only [fcG, cellsF, neK, and_true, ne_eq, Nat.zero_add, Nat.reduceAdd] at hc
   simp [tyUpon, execOp, go_sem, Act.eval, hc, h1, hmx, (of_decide_eq_true hcb), (of_decide_eq_true hcd), (of_decide_eq_true hbig), (of_decide_eq_true hca), (of_decide_eq_true hcc), Below.refl]
  ·have h2 : EV _ (fv 2) w1 := hp 2 (LC (by kernel_rfl))
   refine tyAt_none rfl ?_
   refine ty_call (f := 84) (args := #[.slice g1 (tln a.num.natAbs) d1]) (by simp [execOp, go_sem, Act.eval, h2]) ?_
   exact (HB1.out (.slice g1 (tln a.num.natAbs) d1) w1 (Sl.below (hS.get (List.mem_cons_of_mem _ List.mem_cons_self)) (below_drew hb1))).mono fun e w2 ⟨h1, h2⟩ => ⟨_, h1, rfl, h2⟩
  ·refine tyAt_none rfl ?_
   have hc := (hL0.call (below_drew hb1)).fc
   simp only [fcG, cellsF, neK, and_true, ne_eq, Nat.zero_add, Nat.reduceAdd] at hc
   simp [tyUpon, execOp, go_sem, Act.eval, hc, hmx, (of_decide_eq_true hcb), (of_decide_eq_true hcd), (of_decide_eq_true hbig), (of_decide_eq_true hca), (of_decide_eq_true hcc), Below.refl]
  ·have h4 : EV _ (fv 4) w1 := hp 4 (LC (by kernel_rfl))
   refine tyAt_none rfl ?_
   refine ty_call (f := 85) (args := #[.agg #[.bool (zs a.num), .slice g1 (tln a.num.natAbs) d1, .slice g2 (tln (fd a)) d2]]) (by simp [execOp, go_sem, Act.eval, h4]) ?_
   exact (HDn.out (.agg #[.bool (zs a.num), .slice g1 (tln a.num.natAbs) d1, .slice g2 (tln (fd a)) d2]) w1 (rf_of (Sl.below (hS.get (List.mem_cons_of_mem _ List.mem_cons_self)) (below_drew hb1)) (Sl.below (hS.get List.mem_cons_self) (below_drew hb1)))).mono fun e w2 ⟨pv, h1, h2, h3⟩ => ⟨pv, h1, h2, h3⟩
  ·have h5 : PN _ (fv 5) w1 := hp 5 (LC (by kernel_rfl))
   refine tyAt_none rfl ?_
   refine ty_call (f := 84) (args := #[fv 5]) (by simp [execOp, go_sem, Act.eval]) ?_
   exact (HB2.out (fv 5) w1 h5).mono fun e w2 ⟨h1, h2⟩ => ⟨_, h1, rfl, h2⟩
  ·have h3 : EV _ (fv 3) w1 := hp 3 (LC (by kernel_rfl))
   have h6 : EV _ (fv 6) w1 := hp 6 (LC (by kernel_rfl))
   refine tyAt_none rfl ?_
   simp [tyUpon, execOp, go_sem, Act.eval, h3, h6, hmx, (of_decide_eq_true hcb), (of_decide_eq_true hcd), (of_decide_eq_true hbig), (of_decide_eq_true hca), (of_decide_eq_true hcc), Below.refl]
  ·have h7 : EV _ (fv 7) w1 := hp 7 (LC (by kernel_rfl))
   refine tyAt_none rfl ?_
   simp [tyUpon, execOp, go_sem, Act.eval, h7, hmx, (of_decide_eq_true hcb), (of_decide_eq_true hcd), (of_decide_eq_true hbig), (of_decide_eq_true hca), (of_decide_eq_true hcc), Below.refl]
 ·intro fv x16 hb1 hv
  have e0 : fv 0 = _ := hv 0 (by omega)
  have e1 : fv 1 = _ := hv 1 (by omega)
  have e2 : fv 2 = _ := hv 2 (by omega)
  have e3 : fv 3 = _ := hv 3 (by omega)
  have e4 : fv 4 = _ := hv 4 (by omega)
  have q5 : Rn x16 (fv 5) dn := hv 5 (by omega)
  obtain ⟨g3, d3, e5⟩ := rn_form q5
  rw [e5] at q5
  have e6 : fv 6 = _ := hv 6 (by omega)
  have e7 : fv 7 = _ := hv 7 (by omega)
  have e8 : fv 8 = _ := hv 8 (by omega)
  simp only [List.take_succ_cons, List.take_zero, putsV, Act.put, List.setIfInBounds_toArray, List.set_cons_succ, List.set_cons_zero, List.drop_succ_cons, List.drop_zero, Nat.zero_add, Nat.reduceAdd, e0, e1, e2, e3, e4, e5, e6, e7, e8]
  replace hL0 := hL0.call (below_drew hb1)
  replace hS := hS.call (below_drew hb1)
  replace hS := hS.cons q5
  clear e0 e1 e2 e3 e4 e5 e6 e7 e8 hb1 hv q5 fv
  have hN0 := cells_of _ 0 [] rfl (hL0.get _ _ (List.mem_cons_of_mem _ (List.mem_cons_of_mem _ (List.mem_cons_of_mem _ List.mem_cons_self))))
  simp only [cellsF, and_true, Nat.zero_add, Nat.reduceAdd] at hN0
  go_wp2_with fail
  clear hN0
  with_reducible refine Calls.mono (HP1.out _) ?_
  rintro e x17 ⟨rfl, hb⟩
  replace hL0 := hL0.call hb
  replace hS := hS.call hb
  clear hb
  replace hS := (hS.new (.cells #[.int .u64 0, .string ⟨#[]⟩, .bool false, .int .u64 0, .string ⟨#[]⟩] 79))
  replace hL0 := (hL0.new rfl [.int .u64 0, .string ⟨#[]⟩, .bool false, .int .u64 0, .string ⟨#[]⟩] 79)
  generalize hweq : (x17.alloc (.cells #[.int .u64 0, .string ⟨#[]⟩, .bool false, .int .u64 0, .string ⟨#[]⟩] 79)) = x18 at hL0 hS
  have hS1 := hS.put ((((((Upd.refl x17.heap.size x18).setCell 0 (.int .u64 0)).setCell 1 (.string ⟨#[]⟩)).setCell 2 (.bool false)).setCell 3 (.int .u64 0)).setCell 4 (.string ⟨#[]⟩)) (hL0.get _ _ List.mem_cons_self) (by intro v hv n; simp only [List.mem_cons, List.not_mem_nil, or_false] at hv; rcases hv with rfl | rfl | rfl | rfl | rfl <;> simp)
  have hA := hL0.fc
  simp only [fcG, cellsF, neK, and_true, ne_eq, Nat.zero_add, Nat.reduceAdd] at hA
  have hP := hL0.put 0 (x17.heap.size) _ rfl [.int .u64 0, .string ⟨#[]⟩, .bool false, .int .u64 0, .string ⟨#[]⟩] rfl
  simp only [setAll, List.set_cons_zero, List.set_cons_succ] at hP
  generalize hput1 : (((((x18.setCell ⟨x17.heap.size, 0, none⟩ (.int .u64 0)).setCell ⟨x17.heap.size, 1, none⟩ (.string ⟨#[]⟩)).setCell ⟨x17.heap.size, 2, none⟩ (.bool false)).setCell ⟨x17.heap.size, 3, none⟩ (.int .u64 0)).setCell ⟨x17.heap.size, 4, none⟩ (.string ⟨#[]⟩)) = x19 at hP hS1
  have hB1 := hP.fc
  simp only [fcG, cellsF, neK, and_true, ne_eq, Nat.zero_add, Nat.reduceAdd] at hB1
  replace hL0 := hP
  replace hS := hS1
  clear hS1
  go_wp2_with fail
  clear hA
  with_reducible refine Calls.mono (HP2.out _) ?_
  rintro e x20 ⟨rfl, hb⟩
  replace hL0 := hL0.call hb
  replace hS := hS.call hb
  clear hb hweq hput1 hB1
  replace hS := (hS.new (.cells #[.int .u64 0, .string ⟨#[]⟩, .bool false, .int .u64 0, .string ⟨#[]⟩] 79))
  replace hL0 := (hL0.new rfl [.int .u64 0, .string ⟨#[]⟩, .bool false, .int .u64 0, .string ⟨#[]⟩] 79)
  generalize hweq : (x20.alloc (.cells #[.int .u64 0, .string ⟨#[]⟩, .bool false, .int .u64 0, .string ⟨#[]⟩] 79)) = x21 at hL0 hS
  have hS1 := hS.put ((((((Upd.refl x20.heap.size x21).setCell 0 (.int .u64 0)).setCell 1 (.string ⟨#[]⟩)).setCell 2 (.bool false)).setCell 3 (.int .u64 0)).setCell 4 (.string ⟨#[]⟩)) (hL0.get _ _ List.mem_cons_self) (by intro v hv n; simp only [List.mem_cons, List.not_mem_nil, or_false] at hv; rcases hv with rfl | rfl | rfl | rfl | rfl <;> simp)
  have hA := hL0.fc
  simp only [fcG, cellsF, neK, and_true, ne_eq, Nat.zero_add, Nat.reduceAdd] at hA
  have hP := hL0.put 0 (x20.heap.size) _ rfl [.int .u64 0, .string ⟨#[]⟩, .bool false, .int .u64 0, .string ⟨#[]⟩] rfl
  simp only [setAll, List.set_cons_zero, List.set_cons_succ] at hP
  generalize hput2 : (((((x21.setCell ⟨x20.heap.size, 0, none⟩ (.int .u64 0)).setCell ⟨x20.heap.size, 1, none⟩ (.string ⟨#[]⟩)).setCell ⟨x20.heap.size, 2, none⟩ (.bool false)).setCell ⟨x20.heap.size, 3, none⟩ (.int .u64 0)).setCell ⟨x20.heap.size, 4, none⟩ (.string ⟨#[]⟩)) = x22 at hP hS1
  have hB2 := hP.fc
  simp only [fcG, cellsF, neK, and_true, ne_eq, Nat.zero_add, Nat.reduceAdd] at hB2
  replace hL0 := hP
  replace hS := hS1
  clear hS1
  go_upto_region 13 with fail
  clear hweq
  clear hput2 hB2
  clear hA
  refine region_tl 44 [EV (fracV l), EV (fracV a), EV (.int .i64 c1), EV (.bool true), EV (.bool true), EV (fracV l), EV (fracV o), EV (fracV s), EV (fracV a), EV (.int .i64 c2), EV (.bool true), EV (.bool true), EV (.bool true), EV (fracV h), EV (fracV a), EV (.int .i64 c3), EV (.bool true), EV (.bool true), EV (.bool true), EV (fracV h), EV (fracV o), EV (fracV t), EV (fracV a), EV (.int .i64 c4), EV (.bool true), EV (.bool true), EV (.bool true), EV (fracV l), EV (fracV a), EV (.bool false), EV (.bool false), EV (.bool true), EV (.bool true), EV (.bool true), EV (fracV h), EV (fracV a), EV (.bool false), EV (.bool false), EV (.bool true), EV (.bool true), EV (.bool true), EV (.bool true), EV (.bool true), EV (.bool true)] (by kernel_rfl) (by kernel_rfl) ?_ ?_ ?_
  ·exact stays_cons (stays_eq _) (stays_cons (stays_eq _) (stays_cons (stays_eq _) (stays_cons (stays_eq _) (stays_cons (stays_eq _) (stays_cons (stays_eq _) (stays_cons (stays_eq _) (stays_cons (stays_eq _) (stays_cons (stays_eq _) (stays_cons (stays_eq _) (stays_cons (stays_eq _) (stays_cons (stays_eq _) (stays_cons (stays_eq _) (stays_cons (stays_eq _) (stays_cons (stays_eq _) (stays_cons (stays_eq _) (stays_cons (stays_eq _) (stays_cons (stays_eq _) (stays_cons (stays_eq _) (stays_cons (stays_eq _) (stays_cons (stays_eq _) (stays_cons (stays_eq _) (stays_cons (stays_eq _) (stays_cons (stays_eq _) (stays_cons (stays_eq _) (stays_cons (stays_eq _) (stays_cons (stays_eq _) (stays_cons (stays_eq _) (stays_cons (stays_eq _) (stays_cons (stays_eq _) (stays_cons (stays_eq _) (stays_cons (stays_eq _) (stays_cons (stays_eq _) (stays_cons (stays_eq _) (stays_cons (stays_eq _) (stays_cons (stays_eq _) (stays_cons (stays_eq _) (stays_cons (stays_eq _) (stays_cons (stays_eq _) (stays_cons (stays_eq _) (stays_cons (stays_eq _) (stays_cons (stays_eq _) (stays_cons (stays_eq _) (stays_cons (stays_eq _) (stays_nil))))))))))))))))))))))))))))))))))))))))))))
  ·simp only [List.take_succ_cons, List.take_zero, hopsR, and_true]
   refine ⟨?_, ?_, ?_, ?_, ?_, ?_, ?_, ?_, ?_, ?_, ?_, ?_, ?_, ?_, ?_, ?_, ?_, ?_, ?_, ?_, ?_, ?_, ?_, ?_, ?_, ?_, ?_, ?_, ?_, ?_, ?_, ?_, ?_, ?_, ?_, ?_, ?_, ?_, ?_, ?_, ?_, ?_, ?_, ?_⟩ <;> intro fv w1 hb1 hp
   all_goals (simp only [putsV, Act.put, List.setIfInBounds_toArray, List.set_cons_succ, List.set_cons_zero, Nat.zero_add, Nat.reduceAdd])
   ·refine tyAt_none rfl ?_
    have hc := (hL0.call (below_drew hb1)).fc
    simp only [fcG, cellsF, neK, and_true, ne_eq, Nat.zero_add, Nat.reduceAdd] at hc
    simp [tyUpon, execOp, go_sem, Act.eval, hc, hmx, (of_decide_eq_true hcb), (of_decide_eq_true hcd), (of_decide_eq_true hbig), (of_decide_eq_true hca), (of_decide_eq_true hcc), Below.refl]
   ·refine tyAt_none rfl ?_
    have hc := (hL0.call (below_drew hb1)).fc
    simp only [fcG, cellsF, neK, and_true, ne_eq, Nat.zero_add, Nat.reduceAdd] at hc
    simp [tyUpon, execOp, go_sem, Act.eval, hc, hmx, (of_decide_eq_true hcb), (of_decide_eq_true hcd), (of_decide_eq_true hbig), (of_decide_eq_true hca), (of_decide_eq_true hcc), Below.refl]
   ·have h0 : EV _ (fv 0) w1 := hp 0 (LC (by kernel_rfl))
    have h1 : EV _ (fv 1) w1 := hp 1 (LC (by kernel_rfl))
    refine tyAt_none rfl ?_
    refine ty_call (f := 73) (args := #[fracV l, fracV a]) (by simp [execOp, go_sem, Act.eval, h0, h1]) ?_
    exact (HC1.out w1).mono fun e w2 ⟨h1, h2⟩ => ⟨_, h1, rfl, h2⟩
   ·have h2 : EV _ (fv 2) w1 := hp 2 (LC (by kernel_rfl))
    refine tyAt_none rfl ?_
    simp [tyUpon, execOp, go_sem, Act.eval, h2, hmx, (of_decide_eq_true hcb), (of_decide_eq_true hcd), (of_decide_eq_true hbig), (of_decide_eq_true hca), (of_decide_eq_true hcc), Below.refl]
   ·have h3 : EV _ (fv 3) w1 := hp 3 (LC (by kernel_rfl))
    refine tyAt_none rfl ?_
    simp [tyUpon, execOp, go_sem, Act.eval, h3, hmx, (of_decide_eq_true hcb), (of_decide_eq_true hcd), (of_decide_eq_true hbig), (of_decide_eq_true hca), (of_decide_eq_true hcc), Below.refl]
   ·have h4 : EV _ (fv 4) w1 := hp 4 (LC (by kernel_rfl))
    refine tyAt_yes (by simp [Region.wanted, yielded, h4]) ?_
    have hc := (hL0.call (below_drew hb1)).fc
    simp only [fcG, cellsF, neK, and_true, ne_eq, Nat.zero_add, Nat.reduceAdd] at hc
    simp [tyUpon, execOp, go_sem, Act.eval, hc, h4, hmx, (of_decide_eq_true hcb), (of_decide_eq_true hcd), (of_decide_eq_true hbig), (of_decide_eq_true hca), (of_decide_eq_true hcc), Below.refl]
   ·have h4 : EV _ (fv 4) w1 := hp 4 (LC (by kernel_rfl))
    refine tyAt_yes (by simp [Region.wanted, yielded, h4]) ?_
    refine ty_call (f := 87) (args := #[.int .i64 1]) (by simp [execOp, go_sem, Act.eval, h4]) ?_
    exact (HI.out w1).mono fun e w2 ⟨h1, h2⟩ => ⟨_, h1, rfl, h2⟩
   ·have h5 : EV _ (fv 5) w1 := hp 5 (LC (by kernel_rfl))
    have h6 : EV _ (fv 6) w1 := hp 6 (LC (by kernel_rfl))
    have h4 : EV _ (fv 4) w1 := hp 4 (LC (by kernel_rfl))
    refine tyAt_yes (by simp [Region.wanted, yielded, h5, h6, h4]) ?_
    refine ty_call (f := 61) (args := #[fracV l, fracV o]) (by simp [execOp, go_sem, Act.eval, h5, h6, h4]) ?_
    exact (HA.out w1).mono fun e w2 ⟨h1, h2⟩ => ⟨_, h1, rfl, h2⟩
   ·have h4 : EV _ (fv 4) w1 := hp 4 (LC (by kernel_rfl))
    refine tyAt_yes (by simp [Region.wanted, yielded, h4]) ?_
    have hc := (hL0.call (below_drew hb1)).fc
    simp only [fcG, cellsF, neK, and_true, ne_eq, Nat.zero_add, Nat.reduceAdd] at hc
    simp [tyUpon, execOp, go_sem, Act.eval, hc, h4, hmx, (of_decide_eq_true hcb), (of_decide_eq_true hcd), (of_decide_eq_true hbig), (of_decide_eq_true hca), (of_decide_eq_true hcc), Below.refl]
   ·have h7 : EV _ (fv 7) w1 := hp 7 (LC (by kernel_rfl))
    have h8 : EV _ (fv 8) w1 := hp 8 (LC (by kernel_rfl))
    have h4 : EV _ (fv 4) w1 := hp 4 (LC (by kernel_rfl))
    refine tyAt_yes (by simp [Region.wanted, yielded, h7, h8, h4]) ?_
    refine ty_call (f := 73) (args := #[fracV s, fracV a]) (by simp [execOp, go_sem, Act.eval, h7, h8, h4]) ?_
    exact (HC2.out w1).mono fun e w2 ⟨h1, h2⟩ => ⟨_, h1, rfl, h2⟩
   ·have h9 : EV _ (fv 9) w1 := hp 9 (LC (by kernel_rfl))
    have h4 : EV _ (fv 4) w1 := hp 4 (LC (by kernel_rfl))
    refine tyAt_yes (by simp [Region.wanted, yielded, h9, h4]) ?_
    simp [tyUpon, execOp, go_sem, Act.eval, h9, h4, hmx, (of_decide_eq_true hcb), (of_decide_eq_true hcd), (of_decide_eq_true hbig), (of_decide_eq_true hca), (of_decide_eq_true hcc), Below.refl]
   ·have h4 : EV _ (fv 4) w1 := hp 4 (LC (by kernel_rfl))
    have h10 : EV _ (fv 10) w1 := hp 10 (LC (by kernel_rfl))
    refine tyAt_none rfl ?_
    simp [tyUpon, execOp, go_sem, Act.eval, h4, h10, hmx, (of_decide_eq_true hcb), (of_decide_eq_true hcd), (of_decide_eq_true hbig), (of_decide_eq_true hca), (of_decide_eq_true hcc), Below.refl]
   ·have h11 : EV _ (fv 11) w1 := hp 11 (LC (by kernel_rfl))
    refine tyAt_none rfl ?_
    simp [tyUpon, execOp, go_sem, Act.eval, h11, hmx, (of_decide_eq_true hcb), (of_decide_eq_true hcd), (of_decide_eq_true hbig), (of_decide_eq_true hca), (of_decide_eq_true hcc), Below.refl]
   ·have h12 : EV _ (fv 12) w1 := hp 12 (LC (by kernel_rfl))
    refine tyAt_yes (by simp [Region.wanted, yielded, h12]) ?_
    have hc := (hL0.call (below_drew hb1)).fc
    simp only [fcG, cellsF, neK, and_true, ne_eq, Nat.zero_add, Nat.reduceAdd] at hc
    simp [tyUpon, execOp, go_sem, Act.eval, hc, h12, hmx, (of_decide_eq_true hcb), (of_decide_eq_true hcd), (of_decide_eq_true hbig), (of_decide_eq_true hca), (of_decide_eq_true hcc), Below.refl]
   ·have h12 : EV _ (fv 12) w1 := hp 12 (LC (by kernel_rfl))
    refine tyAt_yes (by simp [Region.wanted, yielded, h12]) ?_
    have hc := (hL0.call (below_drew hb1)).fc
    simp only [fcG, cellsF, neK, and_true, ne_eq, Nat.zero_add, Nat.reduceAdd] at hc
    simp [tyUpon, execOp, go_sem, Act.eval, hc, h12, hmx, (of_decide_eq_true hcb), (of_decide_eq_true hcd), (of_decide_eq_true hbig), (of_decide_eq_true hca), (of_decide_eq_true hcc), Below.refl]
   ·have h13 : EV _ (fv 13) w1 := hp 13 (LC (by kernel_rfl))
    have h14 : EV _ (fv 14) w1 := hp 14 (LC (by kernel_rfl))
    have h12 : EV _ (fv 12) w1 := hp 12 (LC (by kernel_rfl))
    refine tyAt_yes (by simp [Region.wanted, yielded, h13, h14, h12]) ?_
    refine ty_call (f := 73) (args := #[fracV h, fracV a]) (by simp [execOp, go_sem, Act.eval, h13, h14, h12]) ?_
    exact (HC3.out w1).mono fun e w2 ⟨h1, h2⟩ => ⟨_, h1, rfl, h2⟩
   ·have h15 : EV _ (fv 15) w1 := hp 15 (LC (by kernel_rfl))
    have h12 : EV _ (fv 12) w1 := hp 12 (LC (by kernel_rfl))
    refine tyAt_yes (by simp [Region.wanted, yielded, h15, h12]) ?_
    simp [tyUpon, execOp, go_sem, Act.eval, h15, h12, hmx, (of_decide_eq_true hcb), (of_decide_eq_true hcd), (of_decide_eq_true hbig), (of_decide_eq_true hca), (of_decide_eq_true hcc), Below.refl]
   ·have h12 : EV _ (fv 12) w1 := hp 12 (LC (by kernel_rfl))
    have h16 : EV _ (fv 16) w1 := hp 16 (LC (by kernel_rfl))
    refine tyAt_none rfl ?_
    simp [tyUpon, execOp, go_sem, Act.eval, h12, h16, hmx, (of_decide_eq_true hcb), (of_decide_eq_true hcd), (of_decide_eq_true hbig), (of_decide_eq_true hca), (of_decide_eq_true hcc), Below.refl]
   ·have h17 : EV _ (fv 17) w1 := hp 17 (LC (by kernel_rfl))
    refine tyAt_none rfl ?_
    simp [tyUpon, execOp, go_sem, Act.eval, h17, hmx, (of_decide_eq_true hcb), (of_decide_eq_true hcd), (of_decide_eq_true hbig), (of_decide_eq_true hca), (of_decide_eq_true hcc), Below.refl]
   ·have h18 : EV _ (fv 18) w1 := hp 18 (LC (by kernel_rfl))
    refine tyAt_yes (by simp [Region.wanted, yielded, h18]) ?_
    have hc := (hL0.call (below_drew hb1)).fc
    simp only [fcG, cellsF, neK, and_true, ne_eq, Nat.zero_add, Nat.reduceAdd] at hc
    simp [tyUpon, execOp, go_sem, Act.eval, hc, h18, hmx, (of_decide_eq_true hcb), (of_decide_eq_true hcd), (of_decide_eq_true hbig), (of_decide_eq_true hca), (of_decide_eq_true hcc), Below.refl]
   ·have h18 : EV _ (fv 18) w1 := hp 18 (LC (by kernel_rfl))
    refine tyAt_yes (by simp [Region.wanted, yielded, h18]) ?_
    refine ty_call (f := 87) (args := #[.int .i64 1]) (by simp [execOp, go_sem, Act.eval, h18]) ?_
    exact (HI.out w1).mono fun e w2 ⟨h1, h2⟩ => ⟨_, h1, rfl, h2⟩
   ·have h19 : EV _ (fv 19) w1 := hp 19 (LC (by kernel_rfl))
    have h20 : EV _ (fv 20) w1 := hp 20 (LC (by kernel_rfl))
    have h18 : EV _ (fv 18) w1 := hp 18 (LC (by kernel_rfl))
    refine tyAt_yes (by simp [Region.wanted, yielded, h19, h20, h18]) ?_
    refine ty_call (f := 63) (args := #[fracV h, fracV o]) (by simp [execOp, go_sem, Act.eval, h19, h20, h18]) ?_
    exact (HS.out w1).mono fun e w2 ⟨h1, h2⟩ => ⟨_, h1, rfl, h2⟩
   ·have h18 : EV _ (fv 18) w1 := hp 18 (LC (by kernel_rfl))
    refine tyAt_yes (by simp [Region.wanted, yielded, h18]) ?_
    have hc := (hL0.call (below_drew hb1)).fc
    simp only [fcG, cellsF, neK, and_true, ne_eq, Nat.zero_add, Nat.reduceAdd] at hc
    simp [tyUpon, execOp, go_sem, Act.eval, hc, h18, hmx, (of_decide_eq_true hcb), (of_decide_eq_true hcd), (of_decide_eq_true hbig), (of_decide_eq_true hca), (of_decide_eq_true hcc), Below.refl]
   ·have h21 : EV _ (fv 21) w1 := hp 21 (LC (by kernel_rfl))
    have h22 : EV _ (fv 22) w1 := hp 22 (LC (by kernel_rfl))
    have h18 : EV _ (fv 18) w1 := hp 18 (LC (by kernel_rfl))
    refine tyAt_yes (by simp [Region.wanted, yielded, h21, h22, h18]) ?_
    refine ty_call (f := 73) (args := #[fracV t, fracV a]) (by simp [execOp, go_sem, Act.eval, h21, h22, h18]) ?_
    exact (HC4.out w1).mono fun e w2 ⟨h1, h2⟩ => ⟨_, h1, rfl, h2⟩
   ·have h23 : EV _ (fv 23) w1 := hp 23 (LC (by kernel_rfl))
    have h18 : EV _ (fv 18) w1 := hp 18 (LC (by kernel_rfl))
    refine tyAt_yes (by simp [Region.wanted, yielded, h23, h18]) ?_
    simp [tyUpon, execOp, go_sem, Act.eval, h23, h18, hmx, (of_decide_eq_true hcb), (of_decide_eq_true hcd), (of_decide_eq_true hbig), (of_decide_eq_true hca), (of_decide_eq_true hcc), Below.refl]
   ·have h18 : EV _ (fv 18) w1 := hp 18 (LC (by kernel_rfl))
    have h24 : EV _ (fv 24) w1 := hp 24 (LC (by kernel_rfl))
    refine tyAt_none rfl ?_
    simp [tyUpon, execOp, go_sem, Act.eval, h18, h24, hmx, (of_decide_eq_true hcb), (of_decide_eq_true hcd), (of_decide_eq_true hbig), (of_decide_eq_true hca), (of_decide_eq_true hcc), Below.refl]
   ·have h25 : EV _ (fv 25) w1 := hp 25 (LC (by kernel_rfl))
    refine tyAt_none rfl ?_
    simp [tyUpon, execOp, go_sem, Act.eval, h25, hmx, (of_decide_eq_true hcb), (of_decide_eq_true hcd), (of_decide_eq_true hbig), (of_decide_eq_true hca), (of_decide_eq_true hcc), Below.refl]
   ·have h26 : EV _ (fv 26) w1 := hp 26 (LC (by kernel_rfl))
    refine tyAt_yes (by simp [Region.wanted, yielded, h26]) ?_
    have hc := (hL0.call (below_drew hb1)).fc
    simp only [fcG, cellsF, neK, and_true, ne_eq, Nat.zero_add, Nat.reduceAdd] at hc
    simp [tyUpon, execOp, go_sem, Act.eval, hc, h26, hmx, (of_decide_eq_true hcb), (of_decide_eq_true hcd), (of_decide_eq_true hbig), (of_decide_eq_true hca), (of_decide_eq_true hcc), Below.refl]
   ·have h26 : EV _ (fv 26) w1 := hp 26 (LC (by kernel_rfl))
    refine tyAt_yes (by simp [Region.wanted, yielded, h26]) ?_
    have hc := (hL0.call (below_drew hb1)).fc
    simp only [fcG, cellsF, neK, and_true, ne_eq, Nat.zero_add, Nat.reduceAdd] at hc
    simp [tyUpon, execOp, go_sem, Act.eval, hc, h26, hmx, (of_decide_eq_true hcb), (of_decide_eq_true hcd), (of_decide_eq_true hbig), (of_decide_eq_true hca), (of_decide_eq_true hcc), Below.refl]
   ·have h27 : EV _ (fv 27) w1 := hp 27 (LC (by kernel_rfl))
    have h28 : EV _ (fv 28) w1 := hp 28 (LC (by kernel_rfl))
    have h26 : EV _ (fv 26) w1 := hp 26 (LC (by kernel_rfl))
    refine tyAt_yes (by simp [Region.wanted, yielded, h27, h28, h26]) ?_
    rcases ne_fr hl.out with hz | hz | hz | hz | hz <;> simp [tyUpon, execOp, go_sem, Act.eval, h27, h28, h26, hmx, (of_decide_eq_true hcb), (of_decide_eq_true hcd), (of_decide_eq_true hbig), (of_decide_eq_true hca), (of_decide_eq_true hcc), hz, Below.refl]
   ·have h26 : EV _ (fv 26) w1 := hp 26 (LC (by kernel_rfl))
    refine tyAt_yes (by simp [Region.wanted, yielded, h26]) ?_
    simp [tyUpon, execOp, go_sem, Act.eval, h26, hmx, (of_decide_eq_true hcb), (of_decide_eq_true hcd), (of_decide_eq_true hbig), (of_decide_eq_true hca), (of_decide_eq_true hcc), Below.refl]
   ·have h29 : EV _ (fv 29) w1 := hp 29 (LC (by kernel_rfl))
    have h30 : EV _ (fv 30) w1 := hp 30 (LC (by kernel_rfl))
    have h26 : EV _ (fv 26) w1 := hp 26 (LC (by kernel_rfl))
    refine tyAt_yes (by simp [Region.wanted, yielded, h29, h30, h26]) ?_
    simp [tyUpon, execOp, go_sem, Act.eval, h29, h30, h26, hmx, (of_decide_eq_true hcb), (of_decide_eq_true hcd), (of_decide_eq_true hbig), (of_decide_eq_true hca), (of_decide_eq_true hcc), Below.refl]
   ·have h26 : EV _ (fv 26) w1 := hp 26 (LC (by kernel_rfl))
    have h31 : EV _ (fv 31) w1 := hp 31 (LC (by kernel_rfl))
    refine tyAt_none rfl ?_
    simp [tyUpon, execOp, go_sem, Act.eval, h26, h31, hmx, (of_decide_eq_true hcb), (of_decide_eq_true hcd), (of_decide_eq_true hbig), (of_decide_eq_true hca), (of_decide_eq_true hcc), Below.refl]
   ·have h32 : EV _ (fv 32) w1 := hp 32 (LC (by kernel_rfl))
    refine tyAt_none rfl ?_
    simp [tyUpon, execOp, go_sem, Act.eval, h32, hmx, (of_decide_eq_true hcb), (of_decide_eq_true hcd), (of_decide_eq_true hbig), (of_decide_eq_true hca), (of_decide_eq_true hcc), Below.refl]
   ·have h33 : EV _ (fv 33) w1 := hp 33 (LC (by kernel_rfl))
    refine tyAt_yes (by simp [Region.wanted, yielded, h33]) ?_
    have hc := (hL0.call (below_drew hb1)).fc
    simp only [fcG, cellsF, neK, and_true, ne_eq, Nat.zero_add, Nat.reduceAdd] at hc
    simp [tyUpon, execOp, go_sem, Act.eval, hc, h33, hmx, (of_decide_eq_true hcb), (of_decide_eq_true hcd), (of_decide_eq_true hbig), (of_decide_eq_true hca), (of_decide_eq_true hcc), Below.refl]
   ·have h33 : EV _ (fv 33) w1 := hp 33 (LC (by kernel_rfl))
    refine tyAt_yes (by simp [Region.wanted, yielded, h33]) ?_
    have hc := (hL0.call (below_drew hb1)).fc
    simp only [fcG, cellsF, neK, and_true, ne_eq, Nat.zero_add, Nat.reduceAdd] at hc
    simp [tyUpon, execOp, go_sem, Act.eval, hc, h33, hmx, (of_decide_eq_true hcb), (of_decide_eq_true hcd), (of_decide_eq_true hbig), (of_decide_eq_true hca), (of_decide_eq_true hcc), Below.refl]
   ·have h34 : EV _ (fv 34) w1 := hp 34 (LC (by kernel_rfl))
    have h35 : EV _ (fv 35) w1 := hp 35 (LC (by kernel_rfl))
    have h33 : EV _ (fv 33) w1 := hp 33 (LC (by kernel_rfl))
    refine tyAt_yes (by simp [Region.wanted, yielded, h34, h35, h33]) ?_
    rcases ne_fr hh.out with hz | hz | hz | hz | hz <;> simp [tyUpon, execOp, go_sem, Act.eval, h34, h35, h33, hmx, (of_decide_eq_true hcb), (of_decide_eq_true hcd), (of_decide_eq_true hbig), (of_decide_eq_true hca), (of_decide_eq_true hcc), hz, Below.refl]
   ·have h33 : EV _ (fv 33) w1 := hp 33 (LC (by kernel_rfl))
    refine tyAt_yes (by simp [Region.wanted, yielded, h33]) ?_
    simp [tyUpon, execOp, go_sem, Act.eval, h33, hmx, (of_decide_eq_true hcb), (of_decide_eq_true hcd), (of_decide_eq_true hbig), (of_decide_eq_true hca), (of_decide_eq_true hcc), Below.refl]
   ·have h36 : EV _ (fv 36) w1 := hp 36 (LC (by kernel_rfl))
    have h37 : EV _ (fv 37) w1 := hp 37 (LC (by kernel_rfl))
    have h33 : EV _ (fv 33) w1 := hp 33 (LC (by kernel_rfl))
    refine tyAt_yes (by simp [Region.wanted, yielded, h36, h37, h33]) ?_
    simp [tyUpon, execOp, go_sem, Act.eval, h36, h37, h33, hmx, (of_decide_eq_true hcb), (of_decide_eq_true hcd), (of_decide_eq_true hbig), (of_decide_eq_true hca), (of_decide_eq_true hcc), Below.refl]
   ·have h33 : EV _ (fv 33) w1 := hp 33 (LC (by kernel_rfl))
    have h38 : EV _ (fv 38) w1 := hp 38 (LC (by kernel_rfl))
    refine tyAt_none rfl ?_
    simp [tyUpon, execOp, go_sem, Act.eval, h33, h38, hmx, (of_decide_eq_true hcb), (of_decide_eq_true hcd), (of_decide_eq_true hbig), (of_decide_eq_true hca), (of_decide_eq_true hcc), Below.refl]
   ·have h39 : EV _ (fv 39) w1 := hp 39 (LC (by kernel_rfl))
    refine tyAt_none rfl ?_
    simp [tyUpon, execOp, go_sem, Act.eval, h39, hmx, (of_decide_eq_true hcb), (of_decide_eq_true hcd), (of_decide_eq_true hbig), (of_decide_eq_true hca), (of_decide_eq_true hcc), Below.refl]
   ·have h40 : EV _ (fv 40) w1 := hp 40 (LC (by kernel_rfl))
    refine tyAt_yes (by simp [Region.wanted, yielded, h40]) ?_
    refine ty_call (f := 54) (args := #[]) (by simp [execOp, go_sem, Act.eval, h40]) ?_
    exact (HW.out w1 (hKT.out.at ((hL0.call (below_drew hb1)).bl) kKT)).mono fun e w2 ⟨h1, h2⟩ => ⟨_, h1, rfl, h2⟩
   ·have h40 : EV _ (fv 40) w1 := hp 40 (LC (by kernel_rfl))
    have h41 : EV _ (fv 41) w1 := hp 41 (LC (by kernel_rfl))
    refine tyAt_none rfl ?_
    simp [tyUpon, execOp, go_sem, Act.eval, h40, h41, hmx, (of_decide_eq_true hcb), (of_decide_eq_true hcd), (of_decide_eq_true hbig), (of_decide_eq_true hca), (of_decide_eq_true hcc), Below.refl]
   ·have h42 : EV _ (fv 42) w1 := hp 42 (LC (by kernel_rfl))
    refine tyAt_none rfl ?_
    simp [tyUpon, execOp, go_sem, Act.eval, h42, hmx, (of_decide_eq_true hcb), (of_decide_eq_true hcd), (of_decide_eq_true hbig), (of_decide_eq_true hca), (of_decide_eq_true hcc), Below.refl]
  ·intro fv x23 hb1 hv
   have e0 : fv 0 = _ := hv 0 (by omega)
   have e1 : fv 1 = _ := hv 1 (by omega)
   have e2 : fv 2 = _ := hv 2 (by omega)
   have e3 : fv 3 = _ := hv 3 (by omega)
   have e4 : fv 4 = _ := hv 4 (by omega)
   have e5 : fv 5 = _ := hv 5 (by omega)
   have e6 : fv 6 = _ := hv 6 (by omega)
   have e7 : fv 7 = _ := hv 7 (by omega)
   have e8 : fv 8 = _ := hv 8 (by omega)
   have e9 : fv 9 = _ := hv 9 (by omega)
   have e10 : fv 10 = _ := hv 10 (by omega)
   have e11 : fv 11 = _ := hv 11 (by omega)
   have e12 : fv 12 = _ := hv 12 (by omega)
   have e13 : fv 13 = _ := hv 13 (by omega)
   have e14 : fv 14 = _ := hv 14 (by omega)
   have e15 : fv 15 = _ := hv 15 (by omega)
   have e16 : fv 16 = _ := hv 16 (by omega)
   have e17 : fv 17 = _ := hv 17 (by omega)
   have e18 : fv 18 = _ := hv 18 (by omega)
   have e19 : fv 19 = _ := hv 19 (by omega)
   have e20 : fv 20 = _ := hv 20 (by omega)
   have e21 : fv 21 = _ := hv 21 (by omega)
   have e22 : fv 22 = _ := hv 22 (by omega)
   have e23 : fv 23 = _ := hv 23 (by omega)
   have e24 : fv 24 = _ := hv 24 (by omega)
   have e25 : fv 25 = _ := hv 25 (by omega)
   have e26 : fv 26 = _ := hv 26 (by omega)
   have e27 : fv 27 = _ := hv 27 (by omega)
   have e28 : fv 28 = _ := hv 28 (by omega)
   have e29 : fv 29 = _ := hv 29 (by omega)
   have e30 : fv 30 = _ := hv 30 (by omega)
   have e31 : fv 31 = _ := hv 31 (by omega)
   have e32 : fv 32 = _ := hv 32 (by omega)
   have e33 : fv 33 = _ := hv 33 (by omega)
   have e34 : fv 34 = _ := hv 34 (by omega)
   have e35 : fv 35 = _ := hv 35 (by omega)
   have e36 : fv 36 = _ := hv 36 (by omega)
   have e37 : fv 37 = _ := hv 37 (by omega)
   have e38 : fv 38 = _ := hv 38 (by omega)
   have e39 : fv 39 = _ := hv 39 (by omega)
   have e40 : fv 40 = _ := hv 40 (by omega)
   have e41 : fv 41 = _ := hv 41 (by omega)
   have e42 : fv 42 = _ := hv 42 (by omega)
   have e43 : fv 43 = _ := hv 43 (by omega)
   simp only [List.take_succ_cons, List.take_zero, putsV, Act.put, List.setIfInBounds_toArray, List.set_cons_succ, List.set_cons_zero, List.drop_succ_cons, List.drop_zero, Nat.zero_add, Nat.reduceAdd, e0, e1, e2, e3, e4, e5, e6, e7, e8, e9, e10, e11, e12, e13, e14, e15, e16, e17, e18, e19, e20, e21, e22, e23, e24, e25, e26, e27, e28, e29, e30, e31, e32, e33, e34, e35, e36, e37, e38, e39, e40, e41, e42, e43]
   replace hL0 := hL0.call (below_drew hb1)
   replace hS := hS.call (below_drew hb1)
   clear e0 e1 e2 e3 e4 e5 e6 e7 e8 e9 e10 e11 e12 e13 e14 e15 e16 e17 e18 e19 e20 e21 e22 e23 e24 e25 e26 e27 e28 e29 e30 e31 e32 e33 e34 e35 e36 e37 e38 e39 e40 e41 e42 e43 hb1 hv fv
   go_wp2_with fail
   exact bodyPost_ret (v := .bool true) (by simp [results, Tryz.results9, go_sem]) rfl ⟨rfl, hL0.bl⟩
end Go.Proofs.YtdmoadfnogdfnaaGreatDoor
namespace Go.Proofs.YtdmoadfnogdfnaaGreatDoor
open Go.RowKit Go.Proofs.YtdmoadfnogdfnaaGreatDoor.Rx
attribute [local irreducible] lo hs sm s64 c64 d64 b64 mh ml pd pc qd qc val hiB str cmpI srD lz nb isq decB zl zh dval txt
theorem gpair_keepsf (v u : Value) (l k : List Nat) : Keeps (fun w => Ws w v l ∧ Ws w u k) := Keeps.and (Keeps.ws v l) (Keeps.ws u k)
theorem tabmax_keepsf : Keeps (fun w => Tab w ∧ MaxL w) := Keeps.and Keeps.tab MaxL.keeps
theorem floor_dI' {q : Rat} {k : Nat} (h : Sz q k) : dI q.floor ≤ k := by rw [rfloor]; exact dI_le (Int.natAbs_ediv_le_natAbs _ _) h.1
theorem ceil_dI' {q : Rat} {k : Nat} (h : Sz q k) : dI (rceil q) ≤ k := by unfold rceil; rw [dI_neg]; exact floor_dI' h.neg
theorem mk_one (z : Int) : mkRat z 1 = (z : Rat) := by rw [Rat.mkRat_one]
theorem one_digs : (digs 1).length ≤ 1 := digs_length_iff.2 (by rw [Nat.pow_one]; exact Bs_gt)
theorem from_oneF (z : Int) {k : Nat} (hz : dI z ≤ k) (hk : k ≤ 1000) (w : World) : Calls Tryz.prog 80 #[intV z, natV 1] w fun x w' => x = .returned (.tuple #[fracV (z : Rat), .int .i64 0]) ∧ Below w.heap.size w w' := by
 rw [← mk_one]; exact fromF z 1 (by omega) (by omega) (Nat.le_trans one_digs (by omega)) w
theorem pow_limit (a : Rat) {k : Nat} (ha : Sz a k) (hk : k ≤ 1000) (h : 64 < nb a.num.natAbs ∨ 64 < nb a.den) :
  (∀ w, Calls Tryz.prog 86 #[fracV a, .int .i64 4096] w fun x w' => x = .returned (.tuple #[fracV 0, .int .i64 3]) ∧ Below w.heap.size w w') ∧
  (∀ w, Calls Tryz.prog 86 #[fracV a, .int .i64 (-4096)] w fun x w' => x = .returned (.tuple #[fracV 0, .int .i64 3]) ∧ Below w.heap.size w w') := by
 refine ⟨fun w => powF_pos a 4096 (by omega) 0 3 (powerF_over a 4096 (by omega) (by omega) h k ha (by omega)) w, fun w => ?_⟩
 have h0 : a ≠ 0 := fun e => by
  subst e
  rcases h with h | h
  ·exact absurd h (by decide +kernel)
  ·exact absurd h (by decide +kernel)
 obtain ⟨i1, i2⟩ := rinv_parts h0
 have e1 : (a⁻¹).num.natAbs = a.den := by rw [i1]; split <;> simp
 exact powF_neg a h0 (-4096) 4096 rfl (by omega) (by omega) 0 3 (powerF_over a⁻¹ 4096 (by omega) (by omega) (by rw [e1, i2]; exact h.symm) k (ha.inv h0) (by omega)) w
theorem ffloors_any (sx : Bool) (ax qx : Option Addr) (nx cx mx dx : Nat) (lx kx : List Nat) (w : World) (htab : Tab w) (hm : MaxL w) (hwx : Ws w (.slice ax nx cx) lx) (hvx : Ws w (.slice qx mx dx) kx) :
  Calls Tryz.prog 9 #[.agg #[.bool sx, .slice ax nx cx, .slice qx mx dx]] w fun xe w' => xe = .returned (.bool true) ∧ Below w.heap.size w w' := by
 have e1 := hwx.len
 have e2 := hvx.len
 by_cases h : nx ≤ 10 ∧ mx ≤ 10
 ·have hf : decide (nx ≤ 10 ∧ mx ≤ 10) = true := decide_eq_true h
  obtain ⟨h1, h2⟩ := h
  have sa : Sz (gmade sx lx kx) 11 := gmade_sz (by omega) hwx hvx h1 h2
  have GX : ∀ w, (Ws w (.slice ax nx cx) lx ∧ Ws w (.slice qx mx dx) kx) → _ := fun w h => gof_any sx ax qx nx cx mx dx lx kx (by omega) (by omega) w h.1 h.2
  have RX : ∀ w, (Ws w (.slice ax nx cx) lx ∧ Ws w (.slice qx mx dx) kx) → _ := fun w h => gref_any sx ax qx nx cx mx dx lx kx (by omega) (by omega) w h.1 h.2
  generalize gmade sx lx kx = a at *
  have WK : ∀ w, (Tab w ∧ MaxL w) → _ := fun w h => fworks_any w h.1 h.2
  have KG := gpair_keepsf (.slice ax nx cx) (.slice qx mx dx) lx kx
  have f1 := Rat.floor_le a
  have f2 := Rat.lt_floor_add_one a
  rw [Rat.intCast_add] at f2
  have f3 := ceil_ge a
  have f4 := ceil_lt a
  have f5 := @den_one' a
  have df := floor_dI' sa
  have dc := ceil_dI' sa
  have sl : Sz (a.floor : Rat) 11 := Sz.int df (by omega)
  have sh : Sz (rceil a : Rat) 11 := Sz.int dc (by omega)
  have so : Sz ((1 : Int) : Rat) 11 := Sz.int (Nat.le_trans (dI_lit (by decide)) (by omega)) (by omega)
  have HO := one_o
  have b1 := nb_len sa.1
  have b2 := nb_len sa.2
  have B1 := fun p w h => rbits_any p a.num.natAbs (by have := sa.tn; omega) (by omega) w h
  have B2 := fun p w h => rbits_any p a.den (by have := sa.tdn; omega) (by omega) w h
  have HI := intF 1 (by decide) (by decide)
  have HFl := floorF a 11 sa (by omega)
  have HCe := ceilF a 11 sa (by omega)
  have HFr := from_oneF a.floor df (by omega)
  have HFs := from_oneF (rceil a) dc (by omega)
  have HWh := wholeF a
  have HDn := rden a sa (by omega)
  have HA := addF (a.floor : Rat) ((1 : Int) : Rat) 11 sl so (by omega)
  have HS := subF (rceil a : Rat) ((1 : Int) : Rat) 11 sh so (by omega)
  have s1 := sl.add so
  have s2 := sh.sub so
  have HC1 := cmpF (a.floor : Rat) a 23 (sl.mono (by omega)) (sa.mono (by omega)) (by omega)
  have HC3 := cmpF (rceil a : Rat) a 23 (sh.mono (by omega)) (sa.mono (by omega)) (by omega)
  have HC2 := cmpF _ a 23 s1 (sa.mono (by omega)) (by omega)
  have HC4 := cmpF _ a 23 s2 (sa.mono (by omega)) (by omega)
  have c1 : decide (cmpQ (a.floor : Rat) a ≤ 0) = true := decide_eq_true (by unfold cmpQ; split <;> (try split) <;> first | omega | grind)
  have c2 : decide (0 < cmpQ ((a.floor : Rat) + ((1 : Int) : Rat)) a) = true := decide_eq_true (by unfold cmpQ; split <;> (try split) <;> first | omega | grind)
  have c3 : decide (0 ≤ cmpQ (rceil a : Rat) a) = true := decide_eq_true (by unfold cmpQ; split <;> (try split) <;> first | omega | grind)
  have c4 : decide (cmpQ ((rceil a : Rat) - ((1 : Int) : Rat)) a < 0) = true := decide_eq_true (by unfold cmpQ; split <;> (try split) <;> first | omega | grind)
  have PW := fun h => pow_limit a sa (by omega) h
  rw [frV_q0] at PW
  by_cases hw : a.den = 1
  ·have q1 : (a.floor : Rat) = a := f5.1 hw
   have q2 : (rceil a : Rat) = a := by
    have h5 := @den_one' (-a)
    have : ((-a).floor : Rat) = -a := h5.1 hw
    unfold rceil; rw [Rat.intCast_neg, this]; grind
   rw [q1] at HFr HA HC2 c2
   rw [q2] at HFs HS HC4 c4
   rw [decide_eq_true hw] at HWh
   have HC0 := cmpF a a 23 (sa.mono (by omega)) (sa.mono (by omega)) (by omega)
   rw [show cmpQ a a = 0 by unfold cmpQ; rw [if_neg (by grind), if_pos rfl]] at HC0
   by_cases hb : (64 : Int) < max (nb a.num.natAbs : Int) (nb a.den : Int)
   ·obtain ⟨P1, P2⟩ := PW (by omega)
    exact ffloors_wb sx ax qx nx cx mx dx a _ _ _ a.den a.floor (rceil a) _ _ _ _ _ _ KG GX HFl HO HFr HCe HFs HWh RX B1 HDn B2 P1 P2 HC0 HI HA HC2 HS HC4 _ tabmax_keepsf WK hf c2 c4 rfl (decide_eq_true hb) w ⟨hwx, hvx⟩ ⟨htab, hm⟩
   ·exact ffloors_ws sx ax qx nx cx mx dx a _ _ _ a.den a.floor (rceil a) _ _ _ _ _ _ KG GX HFl HO HFr HCe HFs HWh RX B1 HDn B2 HC0 HI HA HC2 HS HC4 _ tabmax_keepsf WK hf c2 c4 rfl (decide_eq_false hb) w ⟨hwx, hvx⟩ ⟨htab, hm⟩
  ·have q1 : (a.floor : Rat) ≠ a := fun e => hw (f5.2 e)
   have q2 : (rceil a : Rat) ≠ a := fun e => hw (by rw [← e]; rfl)
   rw [decide_eq_false hw] at HWh
   by_cases hb : (64 : Int) < max (nb a.num.natAbs : Int) (nb a.den : Int)
   ·obtain ⟨P1, P2⟩ := PW (by omega)
    exact ffloors_pb sx ax qx nx cx mx dx a _ _ _ _ _ a.den a.floor (rceil a) _ _ _ _ _ _ _ _ KG GX HFl HO HFr HCe HFs HWh RX B1 HDn B2 P1 P2 HC1 HC3 HI HA HC2 HS HC4 _ tabmax_keepsf WK hf c2 c4 rfl (decide_eq_true hb) c1 c3 q1 q2 w ⟨hwx, hvx⟩ ⟨htab, hm⟩
   ·exact ffloors_ps sx ax qx nx cx mx dx a _ _ _ _ _ a.den a.floor (rceil a) _ _ _ _ _ _ _ _ KG GX HFl HO HFr HCe HFs HWh RX B1 HDn B2 HC1 HC3 HI HA HC2 HS HC4 _ tabmax_keepsf WK hf c2 c4 rfl (decide_eq_false hb) c1 c3 q1 q2 w ⟨hwx, hvx⟩ ⟨htab, hm⟩
 ·exact ffloors_big sx ax qx nx cx mx dx _ tabmax_keepsf (fun w h => fworks_any w h.1 h.2) (decide_eq_false h) w ⟨htab, hm⟩
end Go.Proofs.YtdmoadfnogdfnaaGreatDoor
namespace Go.Proofs.YtdmoadfnogdfnaaGreatDoor.fracsFloors
open Go.ChangeShapes Go.WideShapes Go.ChangeAt Go.RowKit
set_option maxRecDepth 100000 in
theorem contract (H : Type) (enc : TypeId × Value → H) (W : World) (base : Nat) (args : Array Value) (ds gs : List (DataW H)) (before : List MemPlace)
  (hval : ∀ (j : Nat) t v, Tryz.f9.params[j]? = some t → args[j]? = some v → Value.okWide Tryz.prog W .any base t v)
  (hW : DataW.Whole enc Tryz.prog Tryz.f9.params.toList Rows.fracsFloorsSpec.vars false W args.toList ds gs before) (hL : laidMetH Tryz.prog Rows.fracsFloorsRow.laid W) (hSh : W.ShapedOpen Tryz.prog) :
  Calls Tryz.prog 9 args W fun e W' => ∃ v, e = .returned v ∧ Rows.fracsFloorsSpec.post enc Tryz.prog Tryz.f9 false true false false W args v W' := by
 have hW' := hW
 obtain ⟨p, q, hA0, hV, rfl, _, _⟩ := hW
 have hA : DataW.TrodAll enc Tryz.prog W 0 (fun _ => true) true Tryz.f9.params.toList args.toList ds p := hA0
 rw [Tryz.params9] at hA hval
 obtain ⟨v0, e0, rfl, rfl, h0⟩ := trodAll_one hA
 obtain ⟨rfl, rfl⟩ := trodVars_none hV
 clear hA0
 simp only [List.append_nil] at hW'
 have hlt : ∀ x ∈ p, x.block < W.heap.size := fun x hx => by simpa using hW'.lt x hx
 have t0 : ∀ x ∈ p, x.block < W.heap.size := fun x hx => hlt x (by simp [hx])
 obtain ⟨s0, a0, q0, n0, c0, m0, d0, l0, k0, rfl, w0, u0⟩ := great_of (hval 0 76 v0 rfl rfl) h0
 refine (ffloors_any s0 a0 q0 n0 c0 m0 d0 l0 k0  W (tab_of hL) (maxL_of hSh) w0 u0).mono fun e W' ⟨he, hb⟩ => ?_
 subst he
 refine ⟨_, rfl, _, _, _, [], p, [], hW', ?_, ?_, rfl, hb.frame _, fun h => by cases h⟩
 ·exact trodAll_mk1 (shut_bool Tryz.underlying4 _)
 ·exact trodAll_mk1 (Below.trod laidOut (by kernel_rfl) (of_decide_eq_true (by kernel_rfl)) h0 hb t0)
/-- A world for the witness: the settled one, the tables as their initialisers lay them. -/
noncomputable def laidWorld (os : Os) : World := World.laidAll Tryz.prog os Rows.fracsFloorsRow.laid
theorem laid_met (os : Os) : laidMet Tryz.prog Rows.fracsFloorsRow.laid ((laidWorld os).forCall (fun _ _ => 0) ⟨#[], #[.agg #[.bool false, .slice none 0 0, .slice none 0 0]], []⟩).memory :=
 laidMet_laidAll _ (by kernel_rfl) (by kernel_rfl)
theorem reads (os : Os) {H : Type} (enc : TypeId × Value → H) : ∃ places, DataW.whole enc Tryz.prog ((laidWorld os).forCall (fun _ _ => 0) ⟨#[], #[.agg #[.bool false, .slice none 0 0, .slice none 0 0]], []⟩).memory Tryz.f9.params.toList Rows.fracsFloorsSpec.vars false (#[.agg #[.bool false, .slice none 0 0, .slice none 0 0]] : Array Value).toList 8 = some ([.agg [.agg [.lit (.bool false), .nil], .nil]], [], places) :=
 ⟨[], by kernel_rfl⟩
set_option maxRecDepth 100000 in
theorem lifted (os : Os) (started : os.Started) (H : Type) (enc : TypeId × Value → H) (F : Stop.Interp) :
  ReturnsInHanded {} Tryz.checked os 9 .any ((OpenSpec.ofChange Rows.fracsFloorsSpec).preRow enc Tryz.prog Tryz.f9 Rows.fracsFloorsRow.domain false Rows.fracsFloorsRow.laid) (((OpenSpec.ofChange Rows.fracsFloorsSpec).at F).post enc Tryz.prog Tryz.f9 false true false false) := by
 obtain ⟨places, hx⟩ := reads os enc
 refine returnsInHanded_of_row (C := Tryz.checked) (s := OpenSpec.ofChange Rows.fracsFloorsSpec) own started (by kernel_rfl) Tryz.func9
  (witness_row_at (enc := enc) (C := Tryz.checked) false (laidWorld os) #[.agg #[.bool false, .slice none 0 0, .slice none 0 0]] (World.laidAll_os _ _ _) (by kernel_rfl) (by kernel_rfl) (by kernel_rfl)
   (OpenSpec.preRow_of_cond 8 hx (by kernel_rfl) (fun k hk => by cases hk) (by kernel_rfl) (laid_met os))) ?_
 intro W base args ds gs before hval hW _ _ _ hL hSh _
 exact contract H enc W base args ds gs before hval hW hL hSh
theorem said : Rows.FracsFloorsSaid :=
 OpenClaim.holds_of_cond 9 Tryz.f9 rfl rfl rfl rfl rfl rfl rfl ⟨rfl, rfl, rfl, rfl, rfl⟩ rfl rfl rfl rfl rfl (by kernel_rfl) Tryz.func9 (by kernel_rfl)
  (of_decide_eq_true (by kernel_rfl)) (by unfold Func.isWrapper; first | (rw [if_pos (by decide +kernel)]; kernel_rfl) | (rw [if_neg (by decide +kernel)]; exact ⟨rfl, rfl⟩))
  (fun os started H enc _ F => by rw [OpenClaim.pre_eq_preRow]; exact lifted os started H enc F)
theorem plain (f : FuncId) (fn : Func) (hf : Tryz.pinned.checked.prog.funcNamed "gusset/gussetlaw03.FracsFloors" = some f) (hfn : Tryz.pinned.checked.prog.funcs[f]? = some fn) :
  false = Tryz.pinned.checked.prog.looks [] ∧ ∀ (j : Nat) t, fn.params[j]? = some t → Tryz.pinned.checked.prog.wantsStandIn t = false := by
 obtain rfl : f = 9 := Option.some.inj ((show Tryz.prog.funcNamed "gusset/gussetlaw03.FracsFloors" = some 9 by kernel_rfl).symm.trans hf) |>.symm
 obtain rfl : fn = Tryz.f9 := (Option.some.inj (Tryz.func9.symm.trans hfn)).symm
 refine ⟨by kernel_rfl, fun j t ht => ?_⟩
 rw [Tryz.params9] at ht
 have hm := Array.mem_of_getElem? ht
 simp only [List.mem_toArray, List.mem_cons, List.not_mem_nil, or_false] at hm
 rcases hm with rfl
 ·exact (show Tryz.prog.wantsStandIn 76 = false by kernel_rfl)
end Go.Proofs.YtdmoadfnogdfnaaGreatDoor.fracsFloors
namespace Go.Proofs.YtdmoadfnogdfnaaGreatDoor
open Go.ChangeShapes Go.WideShapes Go.ChangeAt Go.RowKit
/-- THE CARD -/
theorem fracsFloorsProved : Rows.FracsFloorsCardSaid :=
 Claim7.holds_tied_plain_at .later [] _ _ _ _ fracsFloors.said (fun _ h => by cases h) (by kernel_rfl) (fun _ h => by cases h) fracsFloors_row_tie rfl ⟨rfl, rfl⟩ (by kernel_rfl) rfl fracsFloors.plain (by kernel_rfl)
end Go.Proofs.YtdmoadfnogdfnaaGreatDoor
