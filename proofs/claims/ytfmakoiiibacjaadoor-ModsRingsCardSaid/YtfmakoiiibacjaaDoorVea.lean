/-
  The law answers true at every input, and leaves its arguments as they were: a part of the proof. CONDITIONS: the package-level tables start as the program's text lays them (the card ties them).
-/
import Derived.Test.YtfmakoiiibacjaaDoorZaf
import Derived.Lib.SmallJoins
import Derived.Test.YtfmakoiiibacjaaDoorRows
import Derived.Test.YtfmakoiiibacjaaDoorTie
import Derived.Test.YtfmakoiiibacjaaDoorCards
set_option linter.unusedVariables false
set_option linter.unusedSimpArgs false
namespace Go.Proofs.YtfmakoiiibacjaaDoor
theorem rsd_add_cancel {a b c p : Nat} (h : rsd (a + c) p = rsd (b + c) p) : rsd a p = rsd b p := by
 by_cases hp : p = 0
 ·subst hp; rfl
 ·rw [rsd_pos hp, rsd_pos hp] at h ⊢
  exact mod_add_cancel h
theorem subN_uniq {a b x p : Nat} (hx : rsd x p = x) (h : rsd (x + b) p = rsd a p) : subN a b p = x := by
 have h1 := subN_add a b p
 rw [← h] at h1
 have := rsd_add_cancel h1
 rw [hx] at this
 rw [← this]
 unfold subN; rw [rsd_rsd]
theorem invB_iff {a p : Nat} : invB a p = true ↔ p ≠ 0 ∧ Nat.gcd a p = 1 := by
 have hi := inv_is a p
 constructor
 ·intro hb
  rcases hi with ⟨h, h1, h2⟩ | ⟨h, h1, h2⟩
  ·exact ⟨by omega, inv_gcd h2 (by omega)⟩
  ·rw [h] at hb; cases hb
 ·rintro ⟨k1, k2⟩
  rcases hi with ⟨h, h1, h2⟩ | ⟨h, h1, h2⟩
  ·exact h
  ·rcases h2 with h2 | h2
   ·exact absurd h2 k1
   ·exact absurd k2 h2
end Go.Proofs.YtfmakoiiibacjaaDoor
namespace Go.Proofs.YtfmakoiiibacjaaDoor
open Go.RowKit
attribute [local irreducible] lo hs sm s64 c64 d64 b64 mh ml pd pc qd qc val hiB str
theorem sub_lt (a b : Nat) (h : a < b) (w : World) :
  Calls Tryd.prog 67 #[natV a, natV b] w fun e w' => e = .returned (.tuple #[natV 0, .bool false]) ∧ Below w.heap.size w w' := by
 have hc := cmpI_lt h
 rw [natV_zero]
 go_enter Tryd.func67, Tryd.ntmps67
 go_wp2_with fail
 refine (cmp_any a b _).mono ?_
 rintro e w1 ⟨rfl, hb1⟩
 obtain ⟨r0, r1, rf⟩ := (Bx.of _ _ _ _ _ (al3 w _ _ _)).below hb1 (by simp)
 have hbw := (below3 w _ _ _).trans (hb1.mono (by simp <;> omega))
 have hs1 : w.heap.size + 3 ≤ w1.heap.size := by have := hb1.size; simp at this; omega
 clear hb1
 go_wp2
 exact bodyPost_ret (v := .tuple #[.agg #[.int .u64 0, .string ⟨#[]⟩], .bool false]) (by simp [results, Tryd.results67, go_sem, r0, r1]) rfl ⟨rfl, (hbw.setCell (by simp <;> omega) _).setCell (by simp <;> omega) _⟩
end Go.Proofs.YtfmakoiiibacjaaDoor
namespace Go.Proofs.YtfmakoiiibacjaaDoor
open Go.RowKit
attribute [local irreducible] lo hs sm s64 c64 d64 b64 mh ml pd pc qd qc val hiB str
set_option maxHeartbeats 1000000 in
theorem mul_small (a b : Nat) (ha : a < Bs) (hb : b < Bs) (w : World) :
  Calls Tryd.prog 48 #[natV a, natV b] w fun e w' => e = .returned (natV (a * b)) ∧ Below w.heap.size w w' := by
 have sa := sm_true.2 ha
 have sb := sm_true.2 hb
 have hv : ml (lo a) (lo b) + Bs * mh (lo a) (lo b) = a * b := by rw [mul_spec, lo_small ha, lo_small hb]
 have HM := Lib.hid (mul64 (lo a) (lo b) (lo_lt a) (lo_lt b))
 have HT := Lib.hid (twoDigits_any (mh (lo a) (lo b)) (ml (lo a) (lo b)) (by have := mh_lt (lo_lt a) (lo_lt b); have := Bs_gt; omega) (ml_lt _ _))
 rw [hv] at HT
 clear hv
 go_enter Tryd.func48, Tryd.ntmps48
 go_wp2_with fail
 refine (small_any a _).mono ?_
 rintro e w1 ⟨rfl, hb1⟩
 obtain ⟨hc1, hf1⟩ := bcell hb1
 go_wp2_with fail
 refine (small_any b _).mono ?_
 rintro e w2 ⟨rfl, hb2⟩
 have hb12 := hb1.trans (hb2.mono hb1.size)
 obtain ⟨hc2, hf2⟩ := bcell hb12
 clear hc1 hf1
 go_wp2_with fail
 refine (HM.out _).mono ?_
 rintro e w2' ⟨rfl, rfl⟩
 go_wp2_with fail
 refine (HT.out _).mono ?_
 rintro e w3 ⟨rfl, hb3⟩
 have hb13 := hb12.trans (hb3.mono hb12.size)
 clear hc2 hf2
 obtain ⟨q0, q1, qf⟩ : Bx w3 (w.heap.size + 2) (.int .u64 0) (.string ⟨#[]⟩) := Bx.below (Bx.of _ _ _ _ _ (al3 w _ _ _)) hb13 (by simp)
 go_wp2
 exact bodyPost_ret (v := natV (a * b)) (by simp [results, Tryd.results48, go_sem, q0, q1]) rfl ⟨rfl, (((below3 w _ _ _).trans (hb13.mono (by simp <;> omega))).setCell (by simp <;> omega) _).setCell (by simp <;> omega) _⟩
set_option maxHeartbeats 4000000 in
set_option maxRecDepth 100000 in
theorem mul_bigA (a b : Nat) (ha : Bs ≤ a) (hla : (digs a).length ≤ 549755813887) (hlb : (digs b).length ≤ 549755813887) (w : World) :
  Calls Tryd.prog 48 #[natV a, natV b] w fun e w' => e = .returned (natV (a * b)) ∧ Below w.heap.size w w' := by
 have sa := sm_false.2 ha
 have hla' : (digs a).length ≤ 1099511627776 := by omega
 have hlb' : (digs b).length ≤ 1099511627776 := by omega
 go_enter Tryd.func48, Tryd.ntmps48
 go_wp2_with fail
 refine (small_any a _).mono ?_
 rintro e w1 ⟨rfl, hb1⟩
 obtain ⟨a0, a1, af⟩ := (Bx.of _ _ _ _ _ (al3_1 w _ _ _)).below hb1 (by simp <;> omega)
 obtain ⟨b0, b1, bf⟩ := (Bx.of _ _ _ _ _ (al3_2 w _ _ _)).below hb1 (by simp <;> omega)
 obtain ⟨r0, r1, rf⟩ := (Bx.of _ _ _ _ _ (al3 w _ _ _)).below hb1 (by simp)
 have hbw := (below3 w _ _ _).trans (hb1.mono (by simp <;> omega))
 have hs1 : w.heap.size + 3 ≤ w1.heap.size := by have := hb1.size; simp at this; omega
 clear hb1
 go_wp2_with fail
 go_region_held3 (fun w' => w'.cell? ⟨w.heap.size, 0, none⟩ = some (.int .u64 ((lo a : Nat) : Int)) ∧ w'.cell? ⟨w.heap.size, 1, none⟩ = some (.string (hs a)) ∧ w'.cell? ⟨w.heap.size + 1, 0, none⟩ = some (.int .u64 ((lo b : Nat) : Int)) ∧ w'.cell? ⟨w.heap.size + 1, 1, none⟩ = some (.string (hs b)))
  (first | exact ⟨a0, a1, b0, b1⟩ | exact ⟨a0', a1', b0', b1'⟩ | exact ⟨a0'', a1'', b0'', b1''⟩)
  (first
   | (go_at_call 72; ((with_reducible refine Calls.mono (digits_any a hla' _) ?_); rintro e w2 ⟨gx, cx, zx, rfl, hcx, hgx, hdx, hb2⟩; obtain ⟨a0', a1', af'⟩ := Bx.below (w := w1.drew) ⟨a0, a1, af⟩ hb2 (by simp <;> omega); obtain ⟨b0', b1', bf'⟩ := Bx.below (w := w1.drew) ⟨b0, b1, bf⟩ hb2 (by simp <;> omega)))
   | (go_at_call 72; ((with_reducible refine Calls.mono (digits_any b hlb' _) ?_); rintro e w3 ⟨gy, cy, zy, rfl, hcy, hgy, hdy, hb3⟩; obtain ⟨a0'', a1'', af''⟩ := Bx.below (w := w2) ⟨a0', a1', af'⟩ hb3 (by have := hb2.size; simp at this; omega); obtain ⟨b0'', b1'', bf''⟩ := Bx.below (w := w2) ⟨b0', b1', bf'⟩ hb3 (by have := hb2.size; simp at this; omega))))
 have dx3 : DB w3 gx (digs a ++ List.replicate zx 0) := hdx.below hb3 hdx.lt
 have hB3 : Below w1.heap.size w1 w3 := (((Below.refl w1.heap.size w1).drew).trans hb2).trans (hb3.mono hb2.size)
 have dy3 := hdy
 have hz3 := hB3.size
 clear a0' a1' af' b0' b1' bf' a0'' a1'' af'' b0'' b1'' bf'' a0 a1 af b0 b1 bf hdx hdy hb2 hb3 hgx hgy
 have hmk : ∀ w, (Instr.makeSlice 110 (.int .i64 (((digs a).length : Int) + ((digs b).length : Int))) (.int .i64 (((digs a).length : Int) + ((digs b).length : Int)))).run Tryd.prog w = .ok (.slice (some ⟨w.heap.size, 0, none⟩) ((digs a).length + (digs b).length) ((digs a).length + (digs b).length)) (w.alloc (zobj ((digs a).length + (digs b).length))) :=
  fun w => make64 w _ ((digs a).length + (digs b).length) (by omega) (by omega)
 go_wp2
 go_loopw [36] (fun x wr => ∃ (i : Nat) (Q : List Nat), i ≤ (digs a).length ∧ x = .int .i64 i ∧ Q.length = i + (digs b).length ∧ Dig Q ∧ val Q = val ((digs a).take i) * b ∧ DB wr w3.heap.size (Q ++ List.replicate ((digs a).length - i) 0) ∧ (w3.alloc (zobj ((digs a).length + (digs b).length))).grownBy wr (some w3.heap.size)) (fun x _ => (digs a).length - (intOf x).toNat)
 case atStart =>
  refine ⟨0, List.replicate (digs b).length 0, Nat.zero_le _, rfl, by simp, Dig.zeros _, by simp [val_zeros, val], ?_, grown_refl _ _⟩
  have h := DB.zeros w3 ((digs a).length + (digs b).length)
  rw [Nat.sub_zero, List.replicate_append_replicate, Nat.add_comm (digs b).length]; exact h
 case round =>
  obtain ⟨i, Q, hi, rfl, hQl, hQd, hQv, hdb, hg⟩ := hrel
  have hgx3 := dx3.lt
  have hgy3 := dy3.lt
  by_cases hik : i < (digs a).length
  ·have hxc : wr.cell? ⟨gx, i, none⟩ = some (.int .u64 (((digs a)[i] : Nat) : Int)) := by
    rw [grown_cell hg (by omega) (by simp; omega), World.cell?_alloc_lt _ _ _ (by exact hgx3)]
    have := dx3.rdl i hik
    rwa [Nat.zero_add] at this
   have hry : Rd wr gy 0 (digs b) := fun j hj => by
    rw [grown_cell hg (by omega) (by simp; omega), World.cell?_alloc_lt _ _ _ (by exact hgy3)]
    exact dy3.rdl j hj
   have hgw : w3.heap.size < wr.heap.size := hdb.lt
   have hsplit : Q ++ List.replicate ((digs a).length - i) 0 = Q.take i ++ (Q.drop i ++ List.replicate ((digs a).length - i) 0) ++ [] := by
    rw [List.append_nil, ← List.append_assoc, List.take_append_drop]
   rw [hsplit] at hdb
   have hdigD : Dig (Q.drop i ++ List.replicate ((digs a).length - i) 0) := (hQd.drop i).app (Dig.zeros _)
   have hlQ : (Q.take i).length = i := by rw [List.length_take]; omega
   have hlD : (Q.drop i ++ List.replicate ((digs a).length - i) 0).length = (digs a).length + (digs b).length - i := by rw [List.length_append, List.length_drop, List.length_replicate]; omega
   have hdm : (Q.drop i ++ List.replicate ((digs a).length - i) 0).drop (digs b).length = 0 :: List.replicate ((digs a).length - i - 1) 0 := by
    rw [List.drop_left' (by rw [List.length_drop]; omega)]
    obtain ⟨j, hj⟩ : ∃ j, (digs a).length - i = j + 1 := ⟨(digs a).length - i - 1, by omega⟩
    rw [hj]; rfl
   have htm : (Q.drop i ++ List.replicate ((digs a).length - i) 0).take (digs b).length = Q.drop i := List.take_left' (by rw [List.length_drop]; omega)
   have hAP := addProduct_any w3.heap.size gy 0 ((digs a).length + (digs b).length - i) cy ((digs a)[i]) (Q.take i) (Q.drop i ++ List.replicate ((digs a).length - i) 0) [] (digs b) hdigD (digs_dig b) ((digs_dig a).get i hik) (by rw [hlD]; omega) (by rw [hlD]; omega) (by omega) wr hdb (by omega) hry
   rw [hlQ, hlD, hdm] at hAP
   have hst := take_snoc (digs a) i hik
   have hdI := (digs_dig a).get i hik
   generalize hdi : (digs a)[i] = dI at *
   have HAP := Lib.hid hAP
   have HST := Lib.hid hst
   have HTM := Lib.hid htm
   have HQV := Lib.hid hQv
   have HQL := Lib.hid hQl
   have HLQ := Lib.hid hlQ
   have hne : ¬ (digs a).length + (digs b).length = i := by omega
   clear hAP hst htm hQv hdm hlD hdigD hsplit hdi hdb hlQ hQl hdI
   go_wp2_with fail
   refine HAP.out.mono ?_
   rintro e w4 ⟨carry, P, rfl, hI, hdb4, hg4⟩
   have hPl := hI.len
   have hPd := hI.dig
   have HC := Lib.hid hI.le
   have hPe := hI.eq
   rw [HTM.out, List.take_length, val_digs] at hPe
   have hQl := HQL.out
   have hlQ := HLQ.out
   have hlen : i + (digs b).length < (Q.take i ++ (P ++ 0 :: List.replicate ((digs a).length - i - 1) 0) ++ []).length := by
    simp only [List.length_append, List.length_cons, List.length_nil, List.length_replicate, hlQ, hPl]; omega
   have hcell := hdb4.cell _ hlen
   have hfz := hdb4.frozen (i + (digs b).length)
   have hnext := hdb4.set _ hlen carry
   have hset : (Q.take i ++ (P ++ 0 :: List.replicate ((digs a).length - i - 1) 0) ++ []).set (i + (digs b).length) carry = (Q.take i ++ (P ++ [carry])) ++ List.replicate ((digs a).length - (i + 1)) 0 := by
    have := set_mid (Q.take i) P (List.replicate ((digs a).length - i - 1) 0) [] 0 carry
    rw [hlQ, hPl] at this
    rw [this, List.append_nil, Nat.sub_sub]; simp
   rw [hset] at hnext
   obtain ⟨x, hx⟩ : ∃ x : Int, w4.cell? ⟨w3.heap.size, i + (digs b).length, none⟩ = some (.int .u64 x) := ⟨_, hcell⟩
   have hval : val (Q.take i ++ (P ++ [carry])) = val ((digs a).take (i + 1)) * b := by
    rw [HST.out, val_append, val_snoc, hPl, hlQ, hPe]
    have h1 : val Q = val (Q.take i) + Bs ^ i * val (Q.drop i) := by
     conv => lhs; rw [← List.take_append_drop i Q, val_append, hlQ]
    have h2 := HQV.out
    rw [Nat.mul_add, Nat.add_mul, ← h2, h1, Nat.mul_assoc]; omega
   have HV := Lib.hid hval
   have HN := Lib.hid hnext
   have HPL := Lib.hid hPl
   clear hcell hlen hset hnext hdb4 hPl hQl hlQ hval hPe hI
   go_wp2
   go_roundw
   case rel =>
    refine ⟨i + 1, Q.take i ++ (P ++ [carry]), by omega, by go_num, ?_, (hQd.take i).app (hPd.app (Dig.cons ?_ Dig.nil)), HV.out, HN.out, grown_trans (grown_trans hg hg4) (grown_set _ _ _ _)⟩
    ·rw [List.length_append, List.length_append, HLQ.out, HPL.out, List.length_singleton]; omega
    ·exact HC.out
   case measure => simp [intOf]; omega
  ·have hik' : i = (digs a).length := by omega
   subst hik'
   rw [List.take_length, val_digs] at hQv
   rw [Nat.sub_self, List.replicate_zero, List.append_nil] at hdb
   have hP := pack_any w3.heap.size 0 ((digs a).length + (digs b).length) Q hQd (by omega) (by omega) wr hdb.lt hdb.rd0
   rw [hQl, hQv] at hP
   have HP := Lib.hid hP
   have hB4 : Below w1.heap.size w1 wr := (hB3.alloc hB3.size _).trans (grown_below hg (by omega) (by simp; omega))
   clear hP hQv hQl
   go_wp2_with fail
   refine HP.out.mono ?_
   rintro e w6 ⟨rfl, hb6⟩
   have hB6 := hB4.trans (hb6.mono hB4.size)
   obtain ⟨r0', r1', rf'⟩ := Bx.below ⟨r0, r1, rf⟩ hB6 (by omega)
   go_wp2
   exact bodyPost_ret (v := natV (a * b)) (by simp [results, Tryd.results48, go_sem, r0', r1']) rfl ⟨rfl, ((hbw.trans (hB6.mono (by omega))).setCell (by simp <;> omega) _).setCell (by simp <;> omega) _⟩
set_option maxHeartbeats 4000000 in
set_option maxRecDepth 100000 in
theorem mul_bigB (a b : Nat) (ha : a < Bs) (hb : Bs ≤ b) (hla : (digs a).length ≤ 549755813887) (hlb : (digs b).length ≤ 549755813887) (w : World) :
  Calls Tryd.prog 48 #[natV a, natV b] w fun e w' => e = .returned (natV (a * b)) ∧ Below w.heap.size w w' := by
 have sa := sm_true.2 ha
 have sb := sm_false.2 hb
 have hla' : (digs a).length ≤ 1099511627776 := by omega
 have hlb' : (digs b).length ≤ 1099511627776 := by omega
 go_enter Tryd.func48, Tryd.ntmps48
 go_wp2_with fail
 refine (small_any a _).mono ?_
 rintro e w0 ⟨rfl, hb0⟩
 obtain ⟨hc0, hf0⟩ := bcell hb0
 go_wp2_with fail
 refine (small_any b _).mono ?_
 rintro e w1 ⟨rfl, hb01⟩
 have hb1 := hb0.trans (hb01.mono hb0.size)
 obtain ⟨a0, a1, af⟩ := (Bx.of _ _ _ _ _ (al3_1 w _ _ _)).below hb1 (by simp <;> omega)
 obtain ⟨b0, b1, bf⟩ := (Bx.of _ _ _ _ _ (al3_2 w _ _ _)).below hb1 (by simp <;> omega)
 obtain ⟨r0, r1, rf⟩ := (Bx.of _ _ _ _ _ (al3 w _ _ _)).below hb1 (by simp)
 have hbw := (below3 w _ _ _).trans (hb1.mono (by simp <;> omega))
 have hs1 : w.heap.size + 3 ≤ w1.heap.size := by have := hb1.size; simp at this; omega
 clear hb1 hb0 hb01 hc0 hf0
 go_wp2_with fail
 go_region_held3 (fun w' => w'.cell? ⟨w.heap.size, 0, none⟩ = some (.int .u64 ((lo a : Nat) : Int)) ∧ w'.cell? ⟨w.heap.size, 1, none⟩ = some (.string (hs a)) ∧ w'.cell? ⟨w.heap.size + 1, 0, none⟩ = some (.int .u64 ((lo b : Nat) : Int)) ∧ w'.cell? ⟨w.heap.size + 1, 1, none⟩ = some (.string (hs b)))
  (first | exact ⟨a0, a1, b0, b1⟩ | exact ⟨a0', a1', b0', b1'⟩ | exact ⟨a0'', a1'', b0'', b1''⟩)
  (first
   | (go_at_call 72; ((with_reducible refine Calls.mono (digits_any a hla' _) ?_); rintro e w2 ⟨gx, cx, zx, rfl, hcx, hgx, hdx, hb2⟩; obtain ⟨a0', a1', af'⟩ := Bx.below (w := w1.drew) ⟨a0, a1, af⟩ hb2 (by simp <;> omega); obtain ⟨b0', b1', bf'⟩ := Bx.below (w := w1.drew) ⟨b0, b1, bf⟩ hb2 (by simp <;> omega)))
   | (go_at_call 72; ((with_reducible refine Calls.mono (digits_any b hlb' _) ?_); rintro e w3 ⟨gy, cy, zy, rfl, hcy, hgy, hdy, hb3⟩; obtain ⟨a0'', a1'', af''⟩ := Bx.below (w := w2) ⟨a0', a1', af'⟩ hb3 (by have := hb2.size; simp at this; omega); obtain ⟨b0'', b1'', bf''⟩ := Bx.below (w := w2) ⟨b0', b1', bf'⟩ hb3 (by have := hb2.size; simp at this; omega))))
 have dx3 : DB w3 gx (digs a ++ List.replicate zx 0) := hdx.below hb3 hdx.lt
 have hB3 : Below w1.heap.size w1 w3 := (((Below.refl w1.heap.size w1).drew).trans hb2).trans (hb3.mono hb2.size)
 have dy3 := hdy
 have hz3 := hB3.size
 clear a0' a1' af' b0' b1' bf' a0'' a1'' af'' b0'' b1'' bf'' a0 a1 af b0 b1 bf hdx hdy hb2 hb3 hgx hgy
 have hmk : ∀ w, (Instr.makeSlice 110 (.int .i64 (((digs a).length : Int) + ((digs b).length : Int))) (.int .i64 (((digs a).length : Int) + ((digs b).length : Int)))).run Tryd.prog w = .ok (.slice (some ⟨w.heap.size, 0, none⟩) ((digs a).length + (digs b).length) ((digs a).length + (digs b).length)) (w.alloc (zobj ((digs a).length + (digs b).length))) :=
  fun w => make64 w _ ((digs a).length + (digs b).length) (by omega) (by omega)
 go_wp2
 go_loopw [36] (fun x wr => ∃ (i : Nat) (Q : List Nat), i ≤ (digs a).length ∧ x = .int .i64 i ∧ Q.length = i + (digs b).length ∧ Dig Q ∧ val Q = val ((digs a).take i) * b ∧ DB wr w3.heap.size (Q ++ List.replicate ((digs a).length - i) 0) ∧ (w3.alloc (zobj ((digs a).length + (digs b).length))).grownBy wr (some w3.heap.size)) (fun x _ => (digs a).length - (intOf x).toNat)
 case atStart =>
  refine ⟨0, List.replicate (digs b).length 0, Nat.zero_le _, rfl, by simp, Dig.zeros _, by simp [val_zeros, val], ?_, grown_refl _ _⟩
  have h := DB.zeros w3 ((digs a).length + (digs b).length)
  rw [Nat.sub_zero, List.replicate_append_replicate, Nat.add_comm (digs b).length]; exact h
 case round =>
  obtain ⟨i, Q, hi, rfl, hQl, hQd, hQv, hdb, hg⟩ := hrel
  have hgx3 := dx3.lt
  have hgy3 := dy3.lt
  by_cases hik : i < (digs a).length
  ·have hxc : wr.cell? ⟨gx, i, none⟩ = some (.int .u64 (((digs a)[i] : Nat) : Int)) := by
    rw [grown_cell hg (by omega) (by simp; omega), World.cell?_alloc_lt _ _ _ (by exact hgx3)]
    have := dx3.rdl i hik
    rwa [Nat.zero_add] at this
   have hry : Rd wr gy 0 (digs b) := fun j hj => by
    rw [grown_cell hg (by omega) (by simp; omega), World.cell?_alloc_lt _ _ _ (by exact hgy3)]
    exact dy3.rdl j hj
   have hgw : w3.heap.size < wr.heap.size := hdb.lt
   have hsplit : Q ++ List.replicate ((digs a).length - i) 0 = Q.take i ++ (Q.drop i ++ List.replicate ((digs a).length - i) 0) ++ [] := by
    rw [List.append_nil, ← List.append_assoc, List.take_append_drop]
   rw [hsplit] at hdb
   have hdigD : Dig (Q.drop i ++ List.replicate ((digs a).length - i) 0) := (hQd.drop i).app (Dig.zeros _)
   have hlQ : (Q.take i).length = i := by rw [List.length_take]; omega
   have hlD : (Q.drop i ++ List.replicate ((digs a).length - i) 0).length = (digs a).length + (digs b).length - i := by rw [List.length_append, List.length_drop, List.length_replicate]; omega
   have hdm : (Q.drop i ++ List.replicate ((digs a).length - i) 0).drop (digs b).length = 0 :: List.replicate ((digs a).length - i - 1) 0 := by
    rw [List.drop_left' (by rw [List.length_drop]; omega)]
    obtain ⟨j, hj⟩ : ∃ j, (digs a).length - i = j + 1 := ⟨(digs a).length - i - 1, by omega⟩
    rw [hj]; rfl
   have htm : (Q.drop i ++ List.replicate ((digs a).length - i) 0).take (digs b).length = Q.drop i := List.take_left' (by rw [List.length_drop]; omega)
   have hAP := addProduct_any w3.heap.size gy 0 ((digs a).length + (digs b).length - i) cy ((digs a)[i]) (Q.take i) (Q.drop i ++ List.replicate ((digs a).length - i) 0) [] (digs b) hdigD (digs_dig b) ((digs_dig a).get i hik) (by rw [hlD]; omega) (by rw [hlD]; omega) (by omega) wr hdb (by omega) hry
   rw [hlQ, hlD, hdm] at hAP
   have hst := take_snoc (digs a) i hik
   have hdI := (digs_dig a).get i hik
   generalize hdi : (digs a)[i] = dI at *
   have HAP := Lib.hid hAP
   have HST := Lib.hid hst
   have HTM := Lib.hid htm
   have HQV := Lib.hid hQv
   have HQL := Lib.hid hQl
   have HLQ := Lib.hid hlQ
   have hne : ¬ (digs a).length + (digs b).length = i := by omega
   clear hAP hst htm hQv hdm hlD hdigD hsplit hdi hdb hlQ hQl hdI
   go_wp2_with fail
   refine HAP.out.mono ?_
   rintro e w4 ⟨carry, P, rfl, hI, hdb4, hg4⟩
   have hPl := hI.len
   have hPd := hI.dig
   have HC := Lib.hid hI.le
   have hPe := hI.eq
   rw [HTM.out, List.take_length, val_digs] at hPe
   have hQl := HQL.out
   have hlQ := HLQ.out
   have hlen : i + (digs b).length < (Q.take i ++ (P ++ 0 :: List.replicate ((digs a).length - i - 1) 0) ++ []).length := by
    simp only [List.length_append, List.length_cons, List.length_nil, List.length_replicate, hlQ, hPl]; omega
   have hcell := hdb4.cell _ hlen
   have hfz := hdb4.frozen (i + (digs b).length)
   have hnext := hdb4.set _ hlen carry
   have hset : (Q.take i ++ (P ++ 0 :: List.replicate ((digs a).length - i - 1) 0) ++ []).set (i + (digs b).length) carry = (Q.take i ++ (P ++ [carry])) ++ List.replicate ((digs a).length - (i + 1)) 0 := by
    have := set_mid (Q.take i) P (List.replicate ((digs a).length - i - 1) 0) [] 0 carry
    rw [hlQ, hPl] at this
    rw [this, List.append_nil, Nat.sub_sub]; simp
   rw [hset] at hnext
   obtain ⟨x, hx⟩ : ∃ x : Int, w4.cell? ⟨w3.heap.size, i + (digs b).length, none⟩ = some (.int .u64 x) := ⟨_, hcell⟩
   have hval : val (Q.take i ++ (P ++ [carry])) = val ((digs a).take (i + 1)) * b := by
    rw [HST.out, val_append, val_snoc, hPl, hlQ, hPe]
    have h1 : val Q = val (Q.take i) + Bs ^ i * val (Q.drop i) := by
     conv => lhs; rw [← List.take_append_drop i Q, val_append, hlQ]
    have h2 := HQV.out
    rw [Nat.mul_add, Nat.add_mul, ← h2, h1, Nat.mul_assoc]; omega
   have HV := Lib.hid hval
   have HN := Lib.hid hnext
   have HPL := Lib.hid hPl
   clear hcell hlen hset hnext hdb4 hPl hQl hlQ hval hPe hI
   go_wp2
   go_roundw
   case rel =>
    refine ⟨i + 1, Q.take i ++ (P ++ [carry]), by omega, by go_num, ?_, (hQd.take i).app (hPd.app (Dig.cons ?_ Dig.nil)), HV.out, HN.out, grown_trans (grown_trans hg hg4) (grown_set _ _ _ _)⟩
    ·rw [List.length_append, List.length_append, HLQ.out, HPL.out, List.length_singleton]; omega
    ·exact HC.out
   case measure => simp [intOf]; omega
  ·have hik' : i = (digs a).length := by omega
   subst hik'
   rw [List.take_length, val_digs] at hQv
   rw [Nat.sub_self, List.replicate_zero, List.append_nil] at hdb
   have hP := pack_any w3.heap.size 0 ((digs a).length + (digs b).length) Q hQd (by omega) (by omega) wr hdb.lt hdb.rd0
   rw [hQl, hQv] at hP
   have HP := Lib.hid hP
   have hB4 : Below w1.heap.size w1 wr := (hB3.alloc hB3.size _).trans (grown_below hg (by omega) (by simp; omega))
   clear hP hQv hQl
   go_wp2_with fail
   refine HP.out.mono ?_
   rintro e w6 ⟨rfl, hb6⟩
   have hB6 := hB4.trans (hb6.mono hB4.size)
   obtain ⟨r0', r1', rf'⟩ := Bx.below ⟨r0, r1, rf⟩ hB6 (by omega)
   go_wp2
   exact bodyPost_ret (v := natV (a * b)) (by simp [results, Tryd.results48, go_sem, r0', r1']) rfl ⟨rfl, ((hbw.trans (hB6.mono (by omega))).setCell (by simp <;> omega) _).setCell (by simp <;> omega) _⟩
theorem mul_any (a b : Nat) (hla : (digs a).length ≤ 549755813887) (hlb : (digs b).length ≤ 549755813887) (w : World) :
  Calls Tryd.prog 48 #[natV a, natV b] w fun e w' => e = .returned (natV (a * b)) ∧ Below w.heap.size w w' := by
 rcases Nat.lt_or_ge a Bs with ha | ha
 ·rcases Nat.lt_or_ge b Bs with hb | hb
  ·exact mul_small a b ha hb w
  ·exact mul_bigB a b ha hb hla hlb w
 ·exact mul_bigA a b ha hla hlb w
end Go.Proofs.YtfmakoiiibacjaaDoor
namespace Go.Proofs.YtfmakoiiibacjaaDoor
open Go.RowKit
attribute [local irreducible] lo hs sm s64 c64 d64 b64 mh ml pd pc qd qc val hiB str cmpI srD lz nb
theorem made_lt {l : List Nat} (h : ∀ x ∈ l, x < 4294967296) : made l < Bs ^ l.length := by
 induction l with
 | nil => exact Nat.one_pos
 | cons x l ih =>
  have h1 := ih fun y hy => h y (List.mem_cons_of_mem _ hy)
  have h2 := h x (List.mem_cons_self)
  rw [made, List.length_cons, Nat.pow_succ]
  have hB : 4294967296 * 2 ≤ Bs := by unfold Bs; omega
  have h3 : Bs ^ l.length * (4294967296 * 2) ≤ Bs ^ l.length * Bs := Nat.mul_le_mul_left _ hB
  generalize Bs ^ l.length = X at *
  generalize X * Bs = Y at *
  omega
theorem made_digs {l : List Nat} (h : ∀ x ∈ l, x < 4294967296) : (digs (made l)).length ≤ l.length := digs_length_iff.2 (made_lt h)
set_option maxHeartbeats 2000000 in
set_option maxRecDepth 100000 in
theorem made_row (a : Addr) (c : Nat) (l : List Nat) (hl : l.length ≤ 1000) (w : World) (hw : Wd w a l) :
  Calls Tryd.prog 42 #[.slice (some a) l.length c] w fun e w' => e = .returned (natV (made l)) ∧ Below w.heap.size w w' := by
 obtain ⟨w0, hw0, hR, hO, hb0, hsz0⟩ := boxes2 w (.int .u64 0) (.string ⟨#[]⟩) (.int .u64 0) (.string ⟨#[]⟩) 45
 obtain ⟨n, hn⟩ : ∃ n, n = l.length := ⟨_, rfl⟩
 have hln := hl
 rw [← hn] at hl
 have hM0 : MS w w0 a l 0 := ⟨by rw [lo_small Bs_pos, hs_small Bs_pos]; exact hO, hR, hw.below hb0, hsz0, hb0⟩
 have hab := hw.blk
 have hlt := hw.lt
 clear hw hR hO hb0 hsz0
 go_enter Tryd.func42, Tryd.ntmps42
 simp only [← hn]
 have HNn := Lib.hid hn
 have hst : made (l.drop n) = 0 := by rw [List.drop_eq_nil_of_le (by omega)]; rfl
 replace hst := Lib.hid hst
 clear hn
 go_wp2_with fail
 go_loopw [4] (fun z wr => ∃ (j m : Nat), j ≤ n ∧ z = .int .i64 ((j : Int) - 1) ∧ m = made (l.drop j) ∧ MS w wr a l m) (fun z _ => (intOf z + 1).toNat)
 case atStart => exact ⟨n, 0, Nat.le_refl _, by first | rfl | go_num, hst.out.symm, hM0⟩
 case round =>
  obtain ⟨j, m, hj, rfl, hm, hS⟩ := hrel
  clear hw0 hM0
  have hn := HNn.out
  cases j with
  | zero =>
   rw [List.drop_zero] at hm
   have HM := Lib.hid hm
   obtain ⟨⟨o0, o1, of⟩, ⟨r0, r1, rf⟩, -, hsz, hB⟩ := id hS
   clear hm hS hn
   go_wp2_with fail
   exact bodyPost_ret (v := natV m) (by simp [results, Tryd.results42, go_sem, r0, r1]) rfl ⟨by rw [HM.out], (hB.setCell (by simp <;> omega) _).setCell (by simp <;> omega) _⟩
  | succ i =>
   have hi : i < l.length := by omega
   obtain ⟨x, hx⟩ : ∃ x, x = l[i] := ⟨_, rfl⟩
   have hx32 : x < 4294967296 := by rw [hx]; exact hlt _ (List.getElem_mem hi)
   have hlm : (digs m).length ≤ 1000 := by
    rw [hm]; exact Nat.le_trans (made_digs fun y hy => hlt y (List.mem_of_mem_drop hy)) (by rw [List.length_drop]; omega)
   have hmd : made (l.drop i) = m * 4294967296 + x := by
    rw [List.drop_eq_getElem_cons hi, made, ← hm, ← hx]; omega
   have hdm : ∀ k, (digs (made (l.drop k))).length ≤ 1000 := fun k => Nat.le_trans (made_digs fun y hy => hlt y (List.mem_of_mem_drop hy)) (by rw [List.length_drop]; omega)
   have hxB : x < Bs := by unfold Bs; omega
   have hlx : (digs x).length ≤ 1 := digs_length_iff.2 (by rw [Nat.pow_one]; exact hxB)
   obtain ⟨C, hC⟩ : ∃ C, C = 4294967296 := ⟨_, rfl⟩
   have hCB : C < Bs := by rw [hC]; unfold Bs; omega
   have hlC : (digs C).length ≤ 1 := digs_length_iff.2 (by rw [Nat.pow_one]; exact hCB)
   have HO1 := Lib.hid (fun w => of_val 4294967296 C (by rw [hC]; rfl) hCB w)
   have HO2 := Lib.hid (fun w => of_any x hxB w)
   have HM := Lib.hid (fun w => mul_any m C (by omega) (by omega) w)
   have hlmc : (digs (m * C)).length ≤ 1000 + 1 := digs_mul_le hlm hlC
   have HA := fun w => add_any (m * C) x (by omega) (by omega) w
   rw [show m * C + x = made (l.drop i) by rw [hmd, hC]] at HA
   obtain ⟨m2, hm2⟩ : ∃ m2, m2 = made (l.drop i) := ⟨_, rfl⟩
   rw [← hm2] at HA
   generalize m * C = mc at *
   replace HA := Lib.hid HA
   have HM2 := Lib.hid hm2
   have hS' := hS.drew
   have h0 := hS.cells i x hi hx
   have h0' := hS'.cells i x hi hx
   have HX := Lib.hid hx
   have e1 : (((i + 1 : Nat) : Int) - 1) = (i : Int) := by omega
   have hwx : IntKind.u64.wrap (x : Int) = (x : Int) := wrapN _ (by omega)
   have hin : (i : Int) < (n : Int) := by omega
   clear hn hx hm hm2 hmd hdm hlm hlmc hlx hlC hC hCB hxB hx32 hlt
   rw [e1]
   go_wp2_with fail
   obtain ⟨o0, o1, of⟩ := id hS'.O
   obtain ⟨g0, g1, g2⟩ := id h0'
   go_region_with
    (first
     | (go_at_call 53; ((with_reducible refine Calls.mono (HO1.out _) ?_); rintro e w1 ⟨rfl, hb1⟩; have hS1 : MS w w1 a l m := (by first | exact hS'.below hb1 | exact hS1.below hb1 | exact hS2.below hb1 | exact hS3.below hb1 | exact hS4.below hb1); obtain ⟨o01, o11, of1⟩ := id hS1.O; have h1 := (hS1.cells i x hi HX.out).2.2))
     | (go_at_call 53; ((with_reducible refine Calls.mono (HO2.out _) ?_); rintro e w2 ⟨rfl, hb2⟩; have hS2 : MS w w2 a l m := (by first | exact hS'.below hb2 | exact hS1.below hb2 | exact hS2.below hb2 | exact hS3.below hb2 | exact hS4.below hb2); obtain ⟨o02, o12, of2⟩ := id hS2.O; have h2 := (hS2.cells i x hi HX.out).2.2))
     | (go_at_call 48; ((with_reducible refine Calls.mono (HM.out _) ?_); rintro e w3 ⟨rfl, hb3⟩; have hS3 : MS w w3 a l m := (by first | exact hS'.below hb3 | exact hS1.below hb3 | exact hS2.below hb3 | exact hS3.below hb3 | exact hS4.below hb3); obtain ⟨o03, o13, of3⟩ := id hS3.O; have h3 := (hS3.cells i x hi HX.out).2.2))
     | (go_at_call 50; ((with_reducible refine Calls.mono (HA.out _) ?_); rintro e w4 ⟨rfl, hb4⟩; have hS4 : MS w w4 a l m := (by first | exact hS'.below hb4 | exact hS1.below hb4 | exact hS2.below hb4 | exact hS3.below hb4 | exact hS4.below hb4); obtain ⟨o04, o14, of4⟩ := id hS4.O; have h4 := (hS4.cells i x hi HX.out).2.2; have hS5 := hS4.put hab m2; have h5 := (hS5.cells i x hi HX.out).2.2)))
   all_goals (
    have HS5 := Lib.hid hS5
    clear hS5 h5 hS h0 h0' hS' o0 o1 of
    go_wp2_with fail
    go_roundw
    case rel => exact ⟨i, m2, by omega, by first | rfl | go_num, HM2.out, HS5.out⟩
    case measure => simp [intOf])
set_option maxHeartbeats 2000000 in
set_option maxRecDepth 100000 in
theorem made_nil (ao : Option Addr) (c : Nat) (w : World) :
  Calls Tryd.prog 42 #[.slice ao 0 c] w fun e w' => e = .returned (natV 0) ∧ Below w.heap.size w w' := by
 obtain ⟨w0, hw0, hR, hO, hb0, hsz0⟩ := boxes2 w (.int .u64 0) (.string ⟨#[]⟩) (.int .u64 0) (.string ⟨#[]⟩) 45
 obtain ⟨o0, o1, of⟩ := id hO
 obtain ⟨r0, r1, rf⟩ := id hR
 rw [natV_zero]
 go_enter Tryd.func42, Tryd.ntmps42
 go_wp2_with fail
 go_loopw [4] (fun z wr => z = .int .i64 (-1) ∧ wr = w0) (fun z _ => (intOf z + 1).toNat)
 case atStart => exact ⟨rfl, rfl⟩
 case round =>
  obtain ⟨rfl, rfl⟩ := hrel
  go_wp2_with fail
  exact bodyPost_ret (v := .agg #[.int .u64 0, .string ⟨#[]⟩]) (by simp [results, Tryd.results42, go_sem, r0, r1]) rfl ⟨rfl, (hb0.setCell (by simp <;> omega) _).setCell (by simp <;> omega) _⟩
theorem made_any (v : Value) (l : List Nat) (hl : l.length ≤ 1000) (w : World) (h : Ws w v l) :
  Calls Tryd.prog 42 #[v] w fun e w' => e = .returned (natV (made l)) ∧ Below w.heap.size w w' := by
 rcases h with ⟨ao, c, rfl, rfl⟩ | ⟨a, c, rfl, h2⟩
 ·exact made_nil ao c w
 ·exact made_row a c l hl w h2
end Go.Proofs.YtfmakoiiibacjaaDoor
namespace Go.Proofs.YtfmakoiiibacjaaDoor
open Go.RowKit
attribute [local irreducible] lo hs sm s64 c64 d64 b64 mh ml pd pc qd qc val hiB str cmpI srD lz nb
theorem region_cls {P : Program} {α : Type} {F : α → World} {id : Nat} {Q : Exit → Act → World → Prop} {a : Act} {w : World} {l : List Oper} (hm : P.follows .mixedOrders = true) (hB : Region.lexB .any l.toArray = true)
  (hC : ∃ x, w.drew = F x) (h : wpQuiet P l.toArray (fun w' => ∃ x, w' = F x) (fun a' => ∀ w', (∃ x, w' = F x) → Q .normal a' w') l a) : (Code.region id l.toArray true).wp P Q a w :=
 wp_region_quiet (C := fun w' => ∃ x, w' = F x) hm hB hC (by simpa using h)
end Go.Proofs.YtfmakoiiibacjaaDoor
namespace Go.Proofs.YtfmakoiiibacjaaDoor
open Go.RowKit
attribute [local irreducible] lo hs sm s64 c64 d64 b64 mh ml pd pc qd qc val hiB str cmpI srD lz nb
set_option maxHeartbeats 4000000 in
set_option maxRecDepth 100000 in
theorem imul_true_true (m n : Nat) (hm : (digs m).length ≤ 1000000000) (hn : (digs n).length ≤ 1000000000) (w : World) :
  Calls Tryd.prog 26 #[zV true m, zV true n] w fun e w' => e = .returned (zV false (m * n)) ∧ Below w.heap.size w w' := by
 have hL0 : GL w w [] := GL.start w
 have HM := Lib.hid (fun w => mul_any m n (by omega) (by omega) w)
 generalize m * n = p at *
 have HF := Lib.hid (fun w => from_any false p w)
 simp only [Bool.false_and] at HF
 clear hm hn
 replace hL0 := (((hL0.new rfl [.int .u64 ((lo m : Nat) : Int), .string (hs m), .bool true] 47).new (K := w.heap.size + 1) (szA _ _) [.int .u64 ((lo n : Nat) : Int), .string (hs n), .bool true] 47).new (K := w.heap.size + 1 + 1) (by simp only [World.size_alloc]) [.int .u64 0, .string ⟨#[]⟩, .bool false] 47)
 generalize hweq : (((w.alloc (.cells #[.int .u64 ((lo m : Nat) : Int), .string (hs m), .bool true] 47)).alloc (.cells #[.int .u64 ((lo n : Nat) : Int), .string (hs n), .bool true] 47)).alloc (.cells #[.int .u64 0, .string ⟨#[]⟩, .bool false] 47)) = x1 at hL0
 go_enter Tryd.func26, Tryd.ntmps26
 have hA := hL0.fc
 simp only [fcG, cellsF, neK, and_true, ne_eq, Nat.zero_add, Nat.reduceAdd] at hA
 go_upto_region 1 with fail
 clear hA
 clear hweq
 obtain ⟨α, iα, F, hF1, hF2⟩ := cls x1
 have hq := GL.fcC hF1 hL0
 simp only [fcC, cellsC, and_true, Nat.zero_add, Nat.reduceAdd] at hq
 refine region_qs 11 (C := fun w' => ∃ x, w' = F x) (by kernel_rfl) (by kernel_rfl) (cls_drew hF2) ?_
 simp only [List.take_succ_cons, List.take_zero, List.drop_succ_cons, List.drop_zero, List.take_nil, List.drop_nil]
 repeat (go_big_quiet_step (first | fail | (go_at_call 48; with_reducible exact cls_call hF1 hF2 HM.out _) | (go_at_call 41; with_reducible exact cls_call hF1 hF2 HF.out _)))
 refine wpQuiet_nil ?_
 rintro wq ⟨xq, rfl⟩
 replace hL0 := hL0.call (hF1 xq)
 clear hq hF2
 generalize F xq = x2 at hL0 ⊢
 clear hF1 xq iα F α
 have hA := hL0.fc
 simp only [fcG, cellsF, neK, and_true, ne_eq, Nat.zero_add, Nat.reduceAdd] at hA
 have hP := hL0.put 0 (w.heap.size + 1 + 1) _ rfl [.int .u64 ((lo p : Nat) : Int), .string (hs p), .bool false] rfl
 simp only [setAll, List.set_cons_zero, List.set_cons_succ] at hP
 generalize hput1 : (((x2.setCell ⟨w.heap.size + 1 + 1, 0, none⟩ (.int .u64 ((lo p : Nat) : Int))).setCell ⟨w.heap.size + 1 + 1, 1, none⟩ (.string (hs p))).setCell ⟨w.heap.size + 1 + 1, 2, none⟩ (.bool false)) = x3 at hP
 have hB1 := hP.fc
 simp only [fcG, cellsF, neK, and_true, ne_eq, Nat.zero_add, Nat.reduceAdd] at hB1
 replace hL0 := hP
 go_wp2_with fail
 exact bodyPost_ret (v := zV false p) (by simp [results, Tryd.results26, go_sem, hB1]) rfl ⟨rfl, hL0.bl⟩
set_option maxHeartbeats 4000000 in
set_option maxRecDepth 100000 in
theorem imul_true_false (m n : Nat) (hm : (digs m).length ≤ 1000000000) (hn : (digs n).length ≤ 1000000000) (w : World) :
  Calls Tryd.prog 26 #[zV true m, zV false n] w fun e w' => e = .returned (zV (decide (m * n ≠ 0)) (m * n)) ∧ Below w.heap.size w w' := by
 have hL0 : GL w w [] := GL.start w
 have HM := Lib.hid (fun w => mul_any m n (by omega) (by omega) w)
 generalize m * n = p at *
 have HF := Lib.hid (fun w => from_any true p w)
 simp only [Bool.true_and] at HF
 obtain ⟨d, hd⟩ : ∃ d, d = decide (p ≠ 0) := ⟨_, rfl⟩
 rw [← hd] at HF ⊢
 clear hd
 clear hm hn
 replace hL0 := (((hL0.new rfl [.int .u64 ((lo m : Nat) : Int), .string (hs m), .bool true] 47).new (K := w.heap.size + 1) (szA _ _) [.int .u64 ((lo n : Nat) : Int), .string (hs n), .bool false] 47).new (K := w.heap.size + 1 + 1) (by simp only [World.size_alloc]) [.int .u64 0, .string ⟨#[]⟩, .bool false] 47)
 generalize hweq : (((w.alloc (.cells #[.int .u64 ((lo m : Nat) : Int), .string (hs m), .bool true] 47)).alloc (.cells #[.int .u64 ((lo n : Nat) : Int), .string (hs n), .bool false] 47)).alloc (.cells #[.int .u64 0, .string ⟨#[]⟩, .bool false] 47)) = x1 at hL0
 go_enter Tryd.func26, Tryd.ntmps26
 have hA := hL0.fc
 simp only [fcG, cellsF, neK, and_true, ne_eq, Nat.zero_add, Nat.reduceAdd] at hA
 go_upto_region 1 with fail
 clear hA
 clear hweq
 obtain ⟨α, iα, F, hF1, hF2⟩ := cls x1
 have hq := GL.fcC hF1 hL0
 simp only [fcC, cellsC, and_true, Nat.zero_add, Nat.reduceAdd] at hq
 refine region_qs 11 (C := fun w' => ∃ x, w' = F x) (by kernel_rfl) (by kernel_rfl) (cls_drew hF2) ?_
 simp only [List.take_succ_cons, List.take_zero, List.drop_succ_cons, List.drop_zero, List.take_nil, List.drop_nil]
 repeat (go_big_quiet_step (first | fail | (go_at_call 48; with_reducible exact cls_call hF1 hF2 HM.out _) | (go_at_call 41; with_reducible exact cls_call hF1 hF2 HF.out _)))
 refine wpQuiet_nil ?_
 rintro wq ⟨xq, rfl⟩
 replace hL0 := hL0.call (hF1 xq)
 clear hq hF2
 generalize F xq = x2 at hL0 ⊢
 clear hF1 xq iα F α
 have hA := hL0.fc
 simp only [fcG, cellsF, neK, and_true, ne_eq, Nat.zero_add, Nat.reduceAdd] at hA
 have hP := hL0.put 0 (w.heap.size + 1 + 1) _ rfl [.int .u64 ((lo p : Nat) : Int), .string (hs p), .bool d] rfl
 simp only [setAll, List.set_cons_zero, List.set_cons_succ] at hP
 generalize hput1 : (((x2.setCell ⟨w.heap.size + 1 + 1, 0, none⟩ (.int .u64 ((lo p : Nat) : Int))).setCell ⟨w.heap.size + 1 + 1, 1, none⟩ (.string (hs p))).setCell ⟨w.heap.size + 1 + 1, 2, none⟩ (.bool d)) = x3 at hP
 have hB1 := hP.fc
 simp only [fcG, cellsF, neK, and_true, ne_eq, Nat.zero_add, Nat.reduceAdd] at hB1
 replace hL0 := hP
 go_wp2_with fail
 exact bodyPost_ret (v := zV d p) (by simp [results, Tryd.results26, go_sem, hB1]) rfl ⟨rfl, hL0.bl⟩
set_option maxHeartbeats 4000000 in
set_option maxRecDepth 100000 in
theorem imul_false_true (m n : Nat) (hm : (digs m).length ≤ 1000000000) (hn : (digs n).length ≤ 1000000000) (w : World) :
  Calls Tryd.prog 26 #[zV false m, zV true n] w fun e w' => e = .returned (zV (decide (m * n ≠ 0)) (m * n)) ∧ Below w.heap.size w w' := by
 have hL0 : GL w w [] := GL.start w
 have HM := Lib.hid (fun w => mul_any m n (by omega) (by omega) w)
 generalize m * n = p at *
 have HF := Lib.hid (fun w => from_any true p w)
 simp only [Bool.true_and] at HF
 obtain ⟨d, hd⟩ : ∃ d, d = decide (p ≠ 0) := ⟨_, rfl⟩
 rw [← hd] at HF ⊢
 clear hd
 clear hm hn
 replace hL0 := (((hL0.new rfl [.int .u64 ((lo m : Nat) : Int), .string (hs m), .bool false] 47).new (K := w.heap.size + 1) (szA _ _) [.int .u64 ((lo n : Nat) : Int), .string (hs n), .bool true] 47).new (K := w.heap.size + 1 + 1) (by simp only [World.size_alloc]) [.int .u64 0, .string ⟨#[]⟩, .bool false] 47)
 generalize hweq : (((w.alloc (.cells #[.int .u64 ((lo m : Nat) : Int), .string (hs m), .bool false] 47)).alloc (.cells #[.int .u64 ((lo n : Nat) : Int), .string (hs n), .bool true] 47)).alloc (.cells #[.int .u64 0, .string ⟨#[]⟩, .bool false] 47)) = x1 at hL0
 go_enter Tryd.func26, Tryd.ntmps26
 have hA := hL0.fc
 simp only [fcG, cellsF, neK, and_true, ne_eq, Nat.zero_add, Nat.reduceAdd] at hA
 go_upto_region 1 with fail
 clear hA
 clear hweq
 obtain ⟨α, iα, F, hF1, hF2⟩ := cls x1
 have hq := GL.fcC hF1 hL0
 simp only [fcC, cellsC, and_true, Nat.zero_add, Nat.reduceAdd] at hq
 refine region_qs 11 (C := fun w' => ∃ x, w' = F x) (by kernel_rfl) (by kernel_rfl) (cls_drew hF2) ?_
 simp only [List.take_succ_cons, List.take_zero, List.drop_succ_cons, List.drop_zero, List.take_nil, List.drop_nil]
 repeat (go_big_quiet_step (first | fail | (go_at_call 48; with_reducible exact cls_call hF1 hF2 HM.out _) | (go_at_call 41; with_reducible exact cls_call hF1 hF2 HF.out _)))
 refine wpQuiet_nil ?_
 rintro wq ⟨xq, rfl⟩
 replace hL0 := hL0.call (hF1 xq)
 clear hq hF2
 generalize F xq = x2 at hL0 ⊢
 clear hF1 xq iα F α
 have hA := hL0.fc
 simp only [fcG, cellsF, neK, and_true, ne_eq, Nat.zero_add, Nat.reduceAdd] at hA
 have hP := hL0.put 0 (w.heap.size + 1 + 1) _ rfl [.int .u64 ((lo p : Nat) : Int), .string (hs p), .bool d] rfl
 simp only [setAll, List.set_cons_zero, List.set_cons_succ] at hP
 generalize hput1 : (((x2.setCell ⟨w.heap.size + 1 + 1, 0, none⟩ (.int .u64 ((lo p : Nat) : Int))).setCell ⟨w.heap.size + 1 + 1, 1, none⟩ (.string (hs p))).setCell ⟨w.heap.size + 1 + 1, 2, none⟩ (.bool d)) = x3 at hP
 have hB1 := hP.fc
 simp only [fcG, cellsF, neK, and_true, ne_eq, Nat.zero_add, Nat.reduceAdd] at hB1
 replace hL0 := hP
 go_wp2_with fail
 exact bodyPost_ret (v := zV d p) (by simp [results, Tryd.results26, go_sem, hB1]) rfl ⟨rfl, hL0.bl⟩
set_option maxHeartbeats 4000000 in
set_option maxRecDepth 100000 in
theorem imul_false_false (m n : Nat) (hm : (digs m).length ≤ 1000000000) (hn : (digs n).length ≤ 1000000000) (w : World) :
  Calls Tryd.prog 26 #[zV false m, zV false n] w fun e w' => e = .returned (zV false (m * n)) ∧ Below w.heap.size w w' := by
 have hL0 : GL w w [] := GL.start w
 have HM := Lib.hid (fun w => mul_any m n (by omega) (by omega) w)
 generalize m * n = p at *
 have HF := Lib.hid (fun w => from_any false p w)
 simp only [Bool.false_and] at HF
 clear hm hn
 replace hL0 := (((hL0.new rfl [.int .u64 ((lo m : Nat) : Int), .string (hs m), .bool false] 47).new (K := w.heap.size + 1) (szA _ _) [.int .u64 ((lo n : Nat) : Int), .string (hs n), .bool false] 47).new (K := w.heap.size + 1 + 1) (by simp only [World.size_alloc]) [.int .u64 0, .string ⟨#[]⟩, .bool false] 47)
 generalize hweq : (((w.alloc (.cells #[.int .u64 ((lo m : Nat) : Int), .string (hs m), .bool false] 47)).alloc (.cells #[.int .u64 ((lo n : Nat) : Int), .string (hs n), .bool false] 47)).alloc (.cells #[.int .u64 0, .string ⟨#[]⟩, .bool false] 47)) = x1 at hL0
 go_enter Tryd.func26, Tryd.ntmps26
 have hA := hL0.fc
 simp only [fcG, cellsF, neK, and_true, ne_eq, Nat.zero_add, Nat.reduceAdd] at hA
 go_upto_region 1 with fail
 clear hA
 clear hweq
 obtain ⟨α, iα, F, hF1, hF2⟩ := cls x1
 have hq := GL.fcC hF1 hL0
 simp only [fcC, cellsC, and_true, Nat.zero_add, Nat.reduceAdd] at hq
 refine region_qs 11 (C := fun w' => ∃ x, w' = F x) (by kernel_rfl) (by kernel_rfl) (cls_drew hF2) ?_
 simp only [List.take_succ_cons, List.take_zero, List.drop_succ_cons, List.drop_zero, List.take_nil, List.drop_nil]
 repeat (go_big_quiet_step (first | fail | (go_at_call 48; with_reducible exact cls_call hF1 hF2 HM.out _) | (go_at_call 41; with_reducible exact cls_call hF1 hF2 HF.out _)))
 refine wpQuiet_nil ?_
 rintro wq ⟨xq, rfl⟩
 replace hL0 := hL0.call (hF1 xq)
 clear hq hF2
 generalize F xq = x2 at hL0 ⊢
 clear hF1 xq iα F α
 have hA := hL0.fc
 simp only [fcG, cellsF, neK, and_true, ne_eq, Nat.zero_add, Nat.reduceAdd] at hA
 have hP := hL0.put 0 (w.heap.size + 1 + 1) _ rfl [.int .u64 ((lo p : Nat) : Int), .string (hs p), .bool false] rfl
 simp only [setAll, List.set_cons_zero, List.set_cons_succ] at hP
 generalize hput1 : (((x2.setCell ⟨w.heap.size + 1 + 1, 0, none⟩ (.int .u64 ((lo p : Nat) : Int))).setCell ⟨w.heap.size + 1 + 1, 1, none⟩ (.string (hs p))).setCell ⟨w.heap.size + 1 + 1, 2, none⟩ (.bool false)) = x3 at hP
 have hB1 := hP.fc
 simp only [fcG, cellsF, neK, and_true, ne_eq, Nat.zero_add, Nat.reduceAdd] at hB1
 replace hL0 := hP
 go_wp2_with fail
 exact bodyPost_ret (v := zV false p) (by simp [results, Tryd.results26, go_sem, hB1]) rfl ⟨rfl, hL0.bl⟩
end Go.Proofs.YtfmakoiiibacjaaDoor
namespace Go.Proofs.YtfmakoiiibacjaaDoor
open Go.RowKit
attribute [local irreducible] lo hs sm s64 c64 d64 b64 mh ml pd pc qd qc val hiB str cmpI srD lz nb
set_option maxHeartbeats 4000000 in
set_option maxRecDepth 100000 in
theorem out_true (m n : Nat) (hm : (digs m).length ≤ 1000000000) (hn : (digs n).length ≤ 1000000000) (w : World) :
  Calls Tryd.prog 46 #[zV true m, natV n] w fun e w' => e = .returned (zV (decide (m + n ≠ 0)) (m + n)) ∧ Below w.heap.size w w' := by
 have hL0 : GL w w [] := GL.start w
 have HA := Lib.hid (fun w => add_any m n (by omega) (by omega) w)
 generalize m + n = p at *
 have HF := Lib.hid (fun w => from_any true p w)
 simp only [Bool.true_and] at HF
 obtain ⟨d, hd⟩ : ∃ d, d = decide (p ≠ 0) := ⟨_, rfl⟩
 rw [← hd] at HF ⊢
 clear hd
 clear hm hn
 replace hL0 := (((hL0.new rfl [.int .u64 ((lo m : Nat) : Int), .string (hs m), .bool true] 47).new (K := w.heap.size + 1) (szA _ _) [.int .u64 ((lo n : Nat) : Int), .string (hs n)] 45).new (K := w.heap.size + 1 + 1) (by simp only [World.size_alloc]) [.int .u64 0, .string ⟨#[]⟩, .bool false] 47)
 generalize hweq : (((w.alloc (.cells #[.int .u64 ((lo m : Nat) : Int), .string (hs m), .bool true] 47)).alloc (.cells #[.int .u64 ((lo n : Nat) : Int), .string (hs n)] 45)).alloc (.cells #[.int .u64 0, .string ⟨#[]⟩, .bool false] 47)) = x1 at hL0
 go_enter Tryd.func46, Tryd.ntmps46
 have hA := hL0.fc
 simp only [fcG, cellsF, neK, and_true, ne_eq, Nat.zero_add, Nat.reduceAdd] at hA
 go_upto_region 1 with fail
 clear hA
 clear hweq
 obtain ⟨α, iα, F, hF1, hF2⟩ := cls x1
 have hq := GL.fcC hF1 hL0
 simp only [fcC, cellsC, and_true, Nat.zero_add, Nat.reduceAdd] at hq
 refine region_qs 7 (C := fun w' => ∃ x, w' = F x) (by kernel_rfl) (by kernel_rfl) (cls_drew hF2) ?_
 simp only [List.take_succ_cons, List.take_zero, List.drop_succ_cons, List.drop_zero, List.take_nil, List.drop_nil]
 repeat (go_big_quiet_step (first | fail | (go_at_call 50; with_reducible exact cls_call hF1 hF2 HA.out _) | (go_at_call 41; with_reducible exact cls_call hF1 hF2 HF.out _)))
 refine wpQuiet_nil ?_
 rintro wq ⟨xq, rfl⟩
 replace hL0 := hL0.call (hF1 xq)
 clear hq hF2
 generalize F xq = x2 at hL0 ⊢
 clear hF1 xq iα F α
 have hA := hL0.fc
 simp only [fcG, cellsF, neK, and_true, ne_eq, Nat.zero_add, Nat.reduceAdd] at hA
 have hP := hL0.put 0 (w.heap.size + 1 + 1) _ rfl [.int .u64 ((lo p : Nat) : Int), .string (hs p), .bool d] rfl
 simp only [setAll, List.set_cons_zero, List.set_cons_succ] at hP
 generalize hput1 : (((x2.setCell ⟨w.heap.size + 1 + 1, 0, none⟩ (.int .u64 ((lo p : Nat) : Int))).setCell ⟨w.heap.size + 1 + 1, 1, none⟩ (.string (hs p))).setCell ⟨w.heap.size + 1 + 1, 2, none⟩ (.bool d)) = x3 at hP
 have hB1 := hP.fc
 simp only [fcG, cellsF, neK, and_true, ne_eq, Nat.zero_add, Nat.reduceAdd] at hB1
 replace hL0 := hP
 go_wp2_with fail
 exact bodyPost_ret (v := zV d p) (by simp [results, Tryd.results46, go_sem, hB1]) rfl ⟨rfl, hL0.bl⟩
set_option maxHeartbeats 4000000 in
set_option maxRecDepth 100000 in
theorem out_false (m n : Nat) (hm : (digs m).length ≤ 1000000000) (hn : (digs n).length ≤ 1000000000) (w : World) :
  Calls Tryd.prog 46 #[zV false m, natV n] w fun e w' => e = .returned (zV false (m + n)) ∧ Below w.heap.size w w' := by
 have hL0 : GL w w [] := GL.start w
 have HA := Lib.hid (fun w => add_any m n (by omega) (by omega) w)
 generalize m + n = p at *
 have HF := Lib.hid (fun w => from_any false p w)
 simp only [Bool.false_and] at HF
 clear hm hn
 replace hL0 := (((hL0.new rfl [.int .u64 ((lo m : Nat) : Int), .string (hs m), .bool false] 47).new (K := w.heap.size + 1) (szA _ _) [.int .u64 ((lo n : Nat) : Int), .string (hs n)] 45).new (K := w.heap.size + 1 + 1) (by simp only [World.size_alloc]) [.int .u64 0, .string ⟨#[]⟩, .bool false] 47)
 generalize hweq : (((w.alloc (.cells #[.int .u64 ((lo m : Nat) : Int), .string (hs m), .bool false] 47)).alloc (.cells #[.int .u64 ((lo n : Nat) : Int), .string (hs n)] 45)).alloc (.cells #[.int .u64 0, .string ⟨#[]⟩, .bool false] 47)) = x1 at hL0
 go_enter Tryd.func46, Tryd.ntmps46
 have hA := hL0.fc
 simp only [fcG, cellsF, neK, and_true, ne_eq, Nat.zero_add, Nat.reduceAdd] at hA
 go_upto_region 1 with fail
 clear hA
 clear hweq
 obtain ⟨α, iα, F, hF1, hF2⟩ := cls x1
 have hq := GL.fcC hF1 hL0
 simp only [fcC, cellsC, and_true, Nat.zero_add, Nat.reduceAdd] at hq
 refine region_qs 7 (C := fun w' => ∃ x, w' = F x) (by kernel_rfl) (by kernel_rfl) (cls_drew hF2) ?_
 simp only [List.take_succ_cons, List.take_zero, List.drop_succ_cons, List.drop_zero, List.take_nil, List.drop_nil]
 repeat (go_big_quiet_step (first | fail | (go_at_call 50; with_reducible exact cls_call hF1 hF2 HA.out _) | (go_at_call 41; with_reducible exact cls_call hF1 hF2 HF.out _)))
 refine wpQuiet_nil ?_
 rintro wq ⟨xq, rfl⟩
 replace hL0 := hL0.call (hF1 xq)
 clear hq hF2
 generalize F xq = x2 at hL0 ⊢
 clear hF1 xq iα F α
 have hA := hL0.fc
 simp only [fcG, cellsF, neK, and_true, ne_eq, Nat.zero_add, Nat.reduceAdd] at hA
 have hP := hL0.put 0 (w.heap.size + 1 + 1) _ rfl [.int .u64 ((lo p : Nat) : Int), .string (hs p), .bool false] rfl
 simp only [setAll, List.set_cons_zero, List.set_cons_succ] at hP
 generalize hput1 : (((x2.setCell ⟨w.heap.size + 1 + 1, 0, none⟩ (.int .u64 ((lo p : Nat) : Int))).setCell ⟨w.heap.size + 1 + 1, 1, none⟩ (.string (hs p))).setCell ⟨w.heap.size + 1 + 1, 2, none⟩ (.bool false)) = x3 at hP
 have hB1 := hP.fc
 simp only [fcG, cellsF, neK, and_true, ne_eq, Nat.zero_add, Nat.reduceAdd] at hB1
 replace hL0 := hP
 go_wp2_with fail
 exact bodyPost_ret (v := zV false p) (by simp [results, Tryd.results46, go_sem, hB1]) rfl ⟨rfl, hL0.bl⟩
set_option maxHeartbeats 4000000 in
set_option maxRecDepth 100000 in
theorem in_true_ge (m n : Nat) (h : n ≤ m) (hm : (digs m).length ≤ 1000000000) (hn : (digs n).length ≤ 1000000000) (w : World) :
  Calls Tryd.prog 47 #[zV true m, natV n] w fun e w' => e = .returned (zV (decide (m - n ≠ 0)) (m - n)) ∧ Below w.heap.size w w' := by
 have hL0 : GL w w [] := GL.start w
 have HS := Lib.hid (fun w => sub_ge m n h (by omega) w)
 generalize m - n = p at *
 have HF := Lib.hid (fun w => from_any true p w)
 simp only [Bool.true_and] at HF
 obtain ⟨d, hd⟩ : ∃ d, d = decide (p ≠ 0) := ⟨_, rfl⟩
 rw [← hd] at HF ⊢
 clear hd
 clear hm hn h
 replace hL0 := (((hL0.new rfl [.int .u64 ((lo m : Nat) : Int), .string (hs m), .bool true] 47).new (K := w.heap.size + 1) (szA _ _) [.int .u64 ((lo n : Nat) : Int), .string (hs n)] 45).new (K := w.heap.size + 1 + 1) (by simp only [World.size_alloc]) [.int .u64 0, .string ⟨#[]⟩, .bool false] 47)
 generalize hweq : (((w.alloc (.cells #[.int .u64 ((lo m : Nat) : Int), .string (hs m), .bool true] 47)).alloc (.cells #[.int .u64 ((lo n : Nat) : Int), .string (hs n)] 45)).alloc (.cells #[.int .u64 0, .string ⟨#[]⟩, .bool false] 47)) = x1 at hL0
 go_enter Tryd.func47, Tryd.ntmps47
 have hA := hL0.fc
 simp only [fcG, cellsF, neK, and_true, ne_eq, Nat.zero_add, Nat.reduceAdd] at hA
 go_wp2_with fail
 clear hA
 with_reducible refine Calls.mono (HS.out _) ?_
 rintro e x2 ⟨rfl, hb⟩
 replace hL0 := hL0.call hb
 clear hb hweq
 replace hL0 := (hL0.new rfl [.int .u64 ((lo p : Nat) : Int), .string (hs p)] 45)
 generalize hweq : (x2.alloc (.cells #[.int .u64 ((lo p : Nat) : Int), .string (hs p)] 45)) = x3 at hL0
 have hA := hL0.fc
 simp only [fcG, cellsF, neK, and_true, ne_eq, Nat.zero_add, Nat.reduceAdd] at hA
 go_wp2_with fail
 clear hA
 with_reducible refine Calls.mono (HF.out _) ?_
 rintro e x4 ⟨rfl, hb⟩
 replace hL0 := hL0.call hb
 clear hb hweq
 have hA := hL0.fc
 simp only [fcG, cellsF, neK, and_true, ne_eq, Nat.zero_add, Nat.reduceAdd] at hA
 have hP := hL0.put 1 (w.heap.size + 1 + 1) _ rfl [.int .u64 ((lo p : Nat) : Int), .string (hs p), .bool d] rfl
 simp only [setAll, List.set_cons_zero, List.set_cons_succ] at hP
 generalize hput1 : (((x4.setCell ⟨w.heap.size + 1 + 1, 0, none⟩ (.int .u64 ((lo p : Nat) : Int))).setCell ⟨w.heap.size + 1 + 1, 1, none⟩ (.string (hs p))).setCell ⟨w.heap.size + 1 + 1, 2, none⟩ (.bool d)) = x5 at hP
 have hB1 := hP.fc
 simp only [fcG, cellsF, neK, and_true, ne_eq, Nat.zero_add, Nat.reduceAdd] at hB1
 replace hL0 := hP
 go_wp2_with fail
 exact bodyPost_ret (v := zV d p) (by simp [results, Tryd.results47, go_sem, hB1]) rfl ⟨rfl, hL0.bl⟩
set_option maxHeartbeats 4000000 in
set_option maxRecDepth 100000 in
theorem in_true_lt (m n : Nat) (h : m < n) (hm : (digs m).length ≤ 1000000000) (hn : (digs n).length ≤ 1000000000) (w : World) :
  Calls Tryd.prog 47 #[zV true m, natV n] w fun e w' => e = .returned (zV false (n - m)) ∧ Below w.heap.size w w' := by
 have hL0 : GL w w [] := GL.start w
 have HS := Lib.hid (fun w => sub_lt m n h w)
 have HT := Lib.hid (fun w => sub_ge n m (by omega) (by omega) w)
 generalize n - m = p at *
 have HF := Lib.hid (fun w => from_any false p w)
 simp only [Bool.false_and] at HF
 clear hm hn h
 replace hL0 := (((hL0.new rfl [.int .u64 ((lo m : Nat) : Int), .string (hs m), .bool true] 47).new (K := w.heap.size + 1) (szA _ _) [.int .u64 ((lo n : Nat) : Int), .string (hs n)] 45).new (K := w.heap.size + 1 + 1) (by simp only [World.size_alloc]) [.int .u64 0, .string ⟨#[]⟩, .bool false] 47)
 generalize hweq : (((w.alloc (.cells #[.int .u64 ((lo m : Nat) : Int), .string (hs m), .bool true] 47)).alloc (.cells #[.int .u64 ((lo n : Nat) : Int), .string (hs n)] 45)).alloc (.cells #[.int .u64 0, .string ⟨#[]⟩, .bool false] 47)) = x1 at hL0
 go_enter Tryd.func47, Tryd.ntmps47
 have hA := hL0.fc
 simp only [fcG, cellsF, neK, and_true, ne_eq, Nat.zero_add, Nat.reduceAdd] at hA
 go_wp2_with fail
 clear hA
 with_reducible refine Calls.mono (HS.out _) ?_
 rintro e x2 ⟨rfl, hb⟩
 replace hL0 := hL0.call hb
 clear hb hweq
 replace hL0 := (hL0.new rfl [.int .u64 ((lo 0 : Nat) : Int), .string (hs 0)] 45)
 generalize hweq : (x2.alloc (.cells #[.int .u64 ((lo 0 : Nat) : Int), .string (hs 0)] 45)) = x3 at hL0
 have hA := hL0.fc
 simp only [fcG, cellsF, neK, and_true, ne_eq, Nat.zero_add, Nat.reduceAdd] at hA
 go_wp2_with fail
 clear hA
 with_reducible refine Calls.mono (HT.out _) ?_
 rintro e x4 ⟨rfl, hb⟩
 replace hL0 := hL0.call hb
 clear hb hweq
 replace hL0 := (hL0.new rfl [.int .u64 ((lo p : Nat) : Int), .string (hs p)] 45)
 generalize hweq : (x4.alloc (.cells #[.int .u64 ((lo p : Nat) : Int), .string (hs p)] 45)) = x5 at hL0
 have hA := hL0.fc
 simp only [fcG, cellsF, neK, and_true, ne_eq, Nat.zero_add, Nat.reduceAdd] at hA
 go_wp2_with fail
 clear hA
 with_reducible refine Calls.mono (HF.out _) ?_
 rintro e x6 ⟨rfl, hb⟩
 replace hL0 := hL0.call hb
 clear hb hweq
 have hA := hL0.fc
 simp only [fcG, cellsF, neK, and_true, ne_eq, Nat.zero_add, Nat.reduceAdd] at hA
 have hP := hL0.put 2 (w.heap.size + 1 + 1) _ rfl [.int .u64 ((lo p : Nat) : Int), .string (hs p), .bool false] rfl
 simp only [setAll, List.set_cons_zero, List.set_cons_succ] at hP
 generalize hput1 : (((x6.setCell ⟨w.heap.size + 1 + 1, 0, none⟩ (.int .u64 ((lo p : Nat) : Int))).setCell ⟨w.heap.size + 1 + 1, 1, none⟩ (.string (hs p))).setCell ⟨w.heap.size + 1 + 1, 2, none⟩ (.bool false)) = x7 at hP
 have hB1 := hP.fc
 simp only [fcG, cellsF, neK, and_true, ne_eq, Nat.zero_add, Nat.reduceAdd] at hB1
 replace hL0 := hP
 go_wp2_with fail
 exact bodyPost_ret (v := zV false p) (by simp [results, Tryd.results47, go_sem, hB1]) rfl ⟨rfl, hL0.bl⟩
set_option maxHeartbeats 4000000 in
set_option maxRecDepth 100000 in
theorem in_false_ge (m n : Nat) (h : n ≤ m) (hm : (digs m).length ≤ 1000000000) (hn : (digs n).length ≤ 1000000000) (w : World) :
  Calls Tryd.prog 47 #[zV false m, natV n] w fun e w' => e = .returned (zV false (m - n)) ∧ Below w.heap.size w w' := by
 have hL0 : GL w w [] := GL.start w
 have HS := Lib.hid (fun w => sub_ge m n h (by omega) w)
 generalize m - n = p at *
 have HF := Lib.hid (fun w => from_any false p w)
 simp only [Bool.false_and] at HF
 clear hm hn h
 replace hL0 := (((hL0.new rfl [.int .u64 ((lo m : Nat) : Int), .string (hs m), .bool false] 47).new (K := w.heap.size + 1) (szA _ _) [.int .u64 ((lo n : Nat) : Int), .string (hs n)] 45).new (K := w.heap.size + 1 + 1) (by simp only [World.size_alloc]) [.int .u64 0, .string ⟨#[]⟩, .bool false] 47)
 generalize hweq : (((w.alloc (.cells #[.int .u64 ((lo m : Nat) : Int), .string (hs m), .bool false] 47)).alloc (.cells #[.int .u64 ((lo n : Nat) : Int), .string (hs n)] 45)).alloc (.cells #[.int .u64 0, .string ⟨#[]⟩, .bool false] 47)) = x1 at hL0
 go_enter Tryd.func47, Tryd.ntmps47
 have hA := hL0.fc
 simp only [fcG, cellsF, neK, and_true, ne_eq, Nat.zero_add, Nat.reduceAdd] at hA
 go_wp2_with fail
 clear hA
 with_reducible refine Calls.mono (HS.out _) ?_
 rintro e x2 ⟨rfl, hb⟩
 replace hL0 := hL0.call hb
 clear hb hweq
 replace hL0 := (hL0.new rfl [.int .u64 ((lo p : Nat) : Int), .string (hs p)] 45)
 generalize hweq : (x2.alloc (.cells #[.int .u64 ((lo p : Nat) : Int), .string (hs p)] 45)) = x3 at hL0
 have hA := hL0.fc
 simp only [fcG, cellsF, neK, and_true, ne_eq, Nat.zero_add, Nat.reduceAdd] at hA
 go_wp2_with fail
 clear hA
 with_reducible refine Calls.mono (HF.out _) ?_
 rintro e x4 ⟨rfl, hb⟩
 replace hL0 := hL0.call hb
 clear hb hweq
 have hA := hL0.fc
 simp only [fcG, cellsF, neK, and_true, ne_eq, Nat.zero_add, Nat.reduceAdd] at hA
 have hP := hL0.put 1 (w.heap.size + 1 + 1) _ rfl [.int .u64 ((lo p : Nat) : Int), .string (hs p), .bool false] rfl
 simp only [setAll, List.set_cons_zero, List.set_cons_succ] at hP
 generalize hput1 : (((x4.setCell ⟨w.heap.size + 1 + 1, 0, none⟩ (.int .u64 ((lo p : Nat) : Int))).setCell ⟨w.heap.size + 1 + 1, 1, none⟩ (.string (hs p))).setCell ⟨w.heap.size + 1 + 1, 2, none⟩ (.bool false)) = x5 at hP
 have hB1 := hP.fc
 simp only [fcG, cellsF, neK, and_true, ne_eq, Nat.zero_add, Nat.reduceAdd] at hB1
 replace hL0 := hP
 go_wp2_with fail
 exact bodyPost_ret (v := zV false p) (by simp [results, Tryd.results47, go_sem, hB1]) rfl ⟨rfl, hL0.bl⟩
set_option maxHeartbeats 4000000 in
set_option maxRecDepth 100000 in
theorem in_false_lt (m n : Nat) (h : m < n) (hm : (digs m).length ≤ 1000000000) (hn : (digs n).length ≤ 1000000000) (w : World) :
  Calls Tryd.prog 47 #[zV false m, natV n] w fun e w' => e = .returned (zV (decide (n - m ≠ 0)) (n - m)) ∧ Below w.heap.size w w' := by
 have hL0 : GL w w [] := GL.start w
 have HS := Lib.hid (fun w => sub_lt m n h w)
 have HT := Lib.hid (fun w => sub_ge n m (by omega) (by omega) w)
 generalize n - m = p at *
 have HF := Lib.hid (fun w => from_any true p w)
 simp only [Bool.true_and] at HF
 obtain ⟨d, hd⟩ : ∃ d, d = decide (p ≠ 0) := ⟨_, rfl⟩
 rw [← hd] at HF ⊢
 clear hd
 clear hm hn h
 replace hL0 := (((hL0.new rfl [.int .u64 ((lo m : Nat) : Int), .string (hs m), .bool false] 47).new (K := w.heap.size + 1) (szA _ _) [.int .u64 ((lo n : Nat) : Int), .string (hs n)] 45).new (K := w.heap.size + 1 + 1) (by simp only [World.size_alloc]) [.int .u64 0, .string ⟨#[]⟩, .bool false] 47)
 generalize hweq : (((w.alloc (.cells #[.int .u64 ((lo m : Nat) : Int), .string (hs m), .bool false] 47)).alloc (.cells #[.int .u64 ((lo n : Nat) : Int), .string (hs n)] 45)).alloc (.cells #[.int .u64 0, .string ⟨#[]⟩, .bool false] 47)) = x1 at hL0
 go_enter Tryd.func47, Tryd.ntmps47
 have hA := hL0.fc
 simp only [fcG, cellsF, neK, and_true, ne_eq, Nat.zero_add, Nat.reduceAdd] at hA
 go_wp2_with fail
 clear hA
 with_reducible refine Calls.mono (HS.out _) ?_
 rintro e x2 ⟨rfl, hb⟩
 replace hL0 := hL0.call hb
 clear hb hweq
 replace hL0 := (hL0.new rfl [.int .u64 ((lo 0 : Nat) : Int), .string (hs 0)] 45)
 generalize hweq : (x2.alloc (.cells #[.int .u64 ((lo 0 : Nat) : Int), .string (hs 0)] 45)) = x3 at hL0
 have hA := hL0.fc
 simp only [fcG, cellsF, neK, and_true, ne_eq, Nat.zero_add, Nat.reduceAdd] at hA
 go_wp2_with fail
 clear hA
 with_reducible refine Calls.mono (HT.out _) ?_
 rintro e x4 ⟨rfl, hb⟩
 replace hL0 := hL0.call hb
 clear hb hweq
 replace hL0 := (hL0.new rfl [.int .u64 ((lo p : Nat) : Int), .string (hs p)] 45)
 generalize hweq : (x4.alloc (.cells #[.int .u64 ((lo p : Nat) : Int), .string (hs p)] 45)) = x5 at hL0
 have hA := hL0.fc
 simp only [fcG, cellsF, neK, and_true, ne_eq, Nat.zero_add, Nat.reduceAdd] at hA
 go_wp2_with fail
 clear hA
 with_reducible refine Calls.mono (HF.out _) ?_
 rintro e x6 ⟨rfl, hb⟩
 replace hL0 := hL0.call hb
 clear hb hweq
 have hA := hL0.fc
 simp only [fcG, cellsF, neK, and_true, ne_eq, Nat.zero_add, Nat.reduceAdd] at hA
 have hP := hL0.put 2 (w.heap.size + 1 + 1) _ rfl [.int .u64 ((lo p : Nat) : Int), .string (hs p), .bool d] rfl
 simp only [setAll, List.set_cons_zero, List.set_cons_succ] at hP
 generalize hput1 : (((x6.setCell ⟨w.heap.size + 1 + 1, 0, none⟩ (.int .u64 ((lo p : Nat) : Int))).setCell ⟨w.heap.size + 1 + 1, 1, none⟩ (.string (hs p))).setCell ⟨w.heap.size + 1 + 1, 2, none⟩ (.bool d)) = x7 at hP
 have hB1 := hP.fc
 simp only [fcG, cellsF, neK, and_true, ne_eq, Nat.zero_add, Nat.reduceAdd] at hB1
 replace hL0 := hP
 go_wp2_with fail
 exact bodyPost_ret (v := zV d p) (by simp [results, Tryd.results47, go_sem, hB1]) rfl ⟨rfl, hL0.bl⟩
set_option maxHeartbeats 4000000 in
set_option maxRecDepth 100000 in
theorem byadd_true_true (m n k : Nat) (u : Bool) (H : ∀ w, Calls Tryd.prog 46 #[zV true m, natV n] w fun e w' => e = .returned (zV u k) ∧ Below w.heap.size w w') (w : World) :
  Calls Tryd.prog 45 #[zV true m, zV true n, .func (.func 46) #[] #[], .func (.func 47) #[] #[]] w fun e w' => e = .returned (zV u k) ∧ Below w.heap.size w w' := by
 have hL0 : GL w w [] := GL.start w
 replace H := Lib.hid H
 replace hL0 := (((hL0.new rfl [.int .u64 ((lo m : Nat) : Int), .string (hs m), .bool true] 47).new (K := w.heap.size + 1) (szA _ _) [.int .u64 ((lo n : Nat) : Int), .string (hs n), .bool true] 47).new (K := w.heap.size + 1 + 1) (by simp only [World.size_alloc]) [.int .u64 0, .string ⟨#[]⟩, .bool false] 47)
 generalize hweq : (((w.alloc (.cells #[.int .u64 ((lo m : Nat) : Int), .string (hs m), .bool true] 47)).alloc (.cells #[.int .u64 ((lo n : Nat) : Int), .string (hs n), .bool true] 47)).alloc (.cells #[.int .u64 0, .string ⟨#[]⟩, .bool false] 47)) = x1 at hL0
 go_enter Tryd.func45, Tryd.ntmps45
 have hA := hL0.fc
 simp only [fcG, cellsF, neK, and_true, ne_eq, Nat.zero_add, Nat.reduceAdd] at hA
 go_wp2_with fail
 clear hA
 with_reducible refine Calls.mono (H.out _) ?_
 rintro e x2 ⟨rfl, hb⟩
 replace hL0 := hL0.call hb
 clear hb hweq
 have hA := hL0.fc
 simp only [fcG, cellsF, neK, and_true, ne_eq, Nat.zero_add, Nat.reduceAdd] at hA
 have hP := hL0.put 0 (w.heap.size + 1 + 1) _ rfl [.int .u64 ((lo k : Nat) : Int), .string (hs k), .bool u] rfl
 simp only [setAll, List.set_cons_zero, List.set_cons_succ] at hP
 generalize hput1 : (((x2.setCell ⟨w.heap.size + 1 + 1, 0, none⟩ (.int .u64 ((lo k : Nat) : Int))).setCell ⟨w.heap.size + 1 + 1, 1, none⟩ (.string (hs k))).setCell ⟨w.heap.size + 1 + 1, 2, none⟩ (.bool u)) = x3 at hP
 have hB1 := hP.fc
 simp only [fcG, cellsF, neK, and_true, ne_eq, Nat.zero_add, Nat.reduceAdd] at hB1
 replace hL0 := hP
 go_wp2_with fail
 exact bodyPost_ret (v := zV u k) (by simp [results, Tryd.results45, go_sem, hB1]) rfl ⟨rfl, hL0.bl⟩
set_option maxHeartbeats 4000000 in
set_option maxRecDepth 100000 in
theorem byadd_true_false (m n k : Nat) (u : Bool) (H : ∀ w, Calls Tryd.prog 47 #[zV true m, natV n] w fun e w' => e = .returned (zV u k) ∧ Below w.heap.size w w') (w : World) :
  Calls Tryd.prog 45 #[zV true m, zV false n, .func (.func 46) #[] #[], .func (.func 47) #[] #[]] w fun e w' => e = .returned (zV u k) ∧ Below w.heap.size w w' := by
 have hL0 : GL w w [] := GL.start w
 replace H := Lib.hid H
 replace hL0 := (((hL0.new rfl [.int .u64 ((lo m : Nat) : Int), .string (hs m), .bool true] 47).new (K := w.heap.size + 1) (szA _ _) [.int .u64 ((lo n : Nat) : Int), .string (hs n), .bool false] 47).new (K := w.heap.size + 1 + 1) (by simp only [World.size_alloc]) [.int .u64 0, .string ⟨#[]⟩, .bool false] 47)
 generalize hweq : (((w.alloc (.cells #[.int .u64 ((lo m : Nat) : Int), .string (hs m), .bool true] 47)).alloc (.cells #[.int .u64 ((lo n : Nat) : Int), .string (hs n), .bool false] 47)).alloc (.cells #[.int .u64 0, .string ⟨#[]⟩, .bool false] 47)) = x1 at hL0
 go_enter Tryd.func45, Tryd.ntmps45
 have hA := hL0.fc
 simp only [fcG, cellsF, neK, and_true, ne_eq, Nat.zero_add, Nat.reduceAdd] at hA
 go_wp2_with fail
 clear hA
 with_reducible refine Calls.mono (H.out _) ?_
 rintro e x2 ⟨rfl, hb⟩
 replace hL0 := hL0.call hb
 clear hb hweq
 have hA := hL0.fc
 simp only [fcG, cellsF, neK, and_true, ne_eq, Nat.zero_add, Nat.reduceAdd] at hA
 have hP := hL0.put 0 (w.heap.size + 1 + 1) _ rfl [.int .u64 ((lo k : Nat) : Int), .string (hs k), .bool u] rfl
 simp only [setAll, List.set_cons_zero, List.set_cons_succ] at hP
 generalize hput1 : (((x2.setCell ⟨w.heap.size + 1 + 1, 0, none⟩ (.int .u64 ((lo k : Nat) : Int))).setCell ⟨w.heap.size + 1 + 1, 1, none⟩ (.string (hs k))).setCell ⟨w.heap.size + 1 + 1, 2, none⟩ (.bool u)) = x3 at hP
 have hB1 := hP.fc
 simp only [fcG, cellsF, neK, and_true, ne_eq, Nat.zero_add, Nat.reduceAdd] at hB1
 replace hL0 := hP
 go_wp2_with fail
 exact bodyPost_ret (v := zV u k) (by simp [results, Tryd.results45, go_sem, hB1]) rfl ⟨rfl, hL0.bl⟩
set_option maxHeartbeats 4000000 in
set_option maxRecDepth 100000 in
theorem byadd_false_true (m n k : Nat) (u : Bool) (H : ∀ w, Calls Tryd.prog 47 #[zV false m, natV n] w fun e w' => e = .returned (zV u k) ∧ Below w.heap.size w w') (w : World) :
  Calls Tryd.prog 45 #[zV false m, zV true n, .func (.func 46) #[] #[], .func (.func 47) #[] #[]] w fun e w' => e = .returned (zV u k) ∧ Below w.heap.size w w' := by
 have hL0 : GL w w [] := GL.start w
 replace H := Lib.hid H
 replace hL0 := (((hL0.new rfl [.int .u64 ((lo m : Nat) : Int), .string (hs m), .bool false] 47).new (K := w.heap.size + 1) (szA _ _) [.int .u64 ((lo n : Nat) : Int), .string (hs n), .bool true] 47).new (K := w.heap.size + 1 + 1) (by simp only [World.size_alloc]) [.int .u64 0, .string ⟨#[]⟩, .bool false] 47)
 generalize hweq : (((w.alloc (.cells #[.int .u64 ((lo m : Nat) : Int), .string (hs m), .bool false] 47)).alloc (.cells #[.int .u64 ((lo n : Nat) : Int), .string (hs n), .bool true] 47)).alloc (.cells #[.int .u64 0, .string ⟨#[]⟩, .bool false] 47)) = x1 at hL0
 go_enter Tryd.func45, Tryd.ntmps45
 have hA := hL0.fc
 simp only [fcG, cellsF, neK, and_true, ne_eq, Nat.zero_add, Nat.reduceAdd] at hA
 go_wp2_with fail
 clear hA
 with_reducible refine Calls.mono (H.out _) ?_
 rintro e x2 ⟨rfl, hb⟩
 replace hL0 := hL0.call hb
 clear hb hweq
 have hA := hL0.fc
 simp only [fcG, cellsF, neK, and_true, ne_eq, Nat.zero_add, Nat.reduceAdd] at hA
 have hP := hL0.put 0 (w.heap.size + 1 + 1) _ rfl [.int .u64 ((lo k : Nat) : Int), .string (hs k), .bool u] rfl
 simp only [setAll, List.set_cons_zero, List.set_cons_succ] at hP
 generalize hput1 : (((x2.setCell ⟨w.heap.size + 1 + 1, 0, none⟩ (.int .u64 ((lo k : Nat) : Int))).setCell ⟨w.heap.size + 1 + 1, 1, none⟩ (.string (hs k))).setCell ⟨w.heap.size + 1 + 1, 2, none⟩ (.bool u)) = x3 at hP
 have hB1 := hP.fc
 simp only [fcG, cellsF, neK, and_true, ne_eq, Nat.zero_add, Nat.reduceAdd] at hB1
 replace hL0 := hP
 go_wp2_with fail
 exact bodyPost_ret (v := zV u k) (by simp [results, Tryd.results45, go_sem, hB1]) rfl ⟨rfl, hL0.bl⟩
set_option maxHeartbeats 4000000 in
set_option maxRecDepth 100000 in
theorem byadd_false_false (m n k : Nat) (u : Bool) (H : ∀ w, Calls Tryd.prog 46 #[zV false m, natV n] w fun e w' => e = .returned (zV u k) ∧ Below w.heap.size w w') (w : World) :
  Calls Tryd.prog 45 #[zV false m, zV false n, .func (.func 46) #[] #[], .func (.func 47) #[] #[]] w fun e w' => e = .returned (zV u k) ∧ Below w.heap.size w w' := by
 have hL0 : GL w w [] := GL.start w
 replace H := Lib.hid H
 replace hL0 := (((hL0.new rfl [.int .u64 ((lo m : Nat) : Int), .string (hs m), .bool false] 47).new (K := w.heap.size + 1) (szA _ _) [.int .u64 ((lo n : Nat) : Int), .string (hs n), .bool false] 47).new (K := w.heap.size + 1 + 1) (by simp only [World.size_alloc]) [.int .u64 0, .string ⟨#[]⟩, .bool false] 47)
 generalize hweq : (((w.alloc (.cells #[.int .u64 ((lo m : Nat) : Int), .string (hs m), .bool false] 47)).alloc (.cells #[.int .u64 ((lo n : Nat) : Int), .string (hs n), .bool false] 47)).alloc (.cells #[.int .u64 0, .string ⟨#[]⟩, .bool false] 47)) = x1 at hL0
 go_enter Tryd.func45, Tryd.ntmps45
 have hA := hL0.fc
 simp only [fcG, cellsF, neK, and_true, ne_eq, Nat.zero_add, Nat.reduceAdd] at hA
 go_wp2_with fail
 clear hA
 with_reducible refine Calls.mono (H.out _) ?_
 rintro e x2 ⟨rfl, hb⟩
 replace hL0 := hL0.call hb
 clear hb hweq
 have hA := hL0.fc
 simp only [fcG, cellsF, neK, and_true, ne_eq, Nat.zero_add, Nat.reduceAdd] at hA
 have hP := hL0.put 0 (w.heap.size + 1 + 1) _ rfl [.int .u64 ((lo k : Nat) : Int), .string (hs k), .bool u] rfl
 simp only [setAll, List.set_cons_zero, List.set_cons_succ] at hP
 generalize hput1 : (((x2.setCell ⟨w.heap.size + 1 + 1, 0, none⟩ (.int .u64 ((lo k : Nat) : Int))).setCell ⟨w.heap.size + 1 + 1, 1, none⟩ (.string (hs k))).setCell ⟨w.heap.size + 1 + 1, 2, none⟩ (.bool u)) = x3 at hP
 have hB1 := hP.fc
 simp only [fcG, cellsF, neK, and_true, ne_eq, Nat.zero_add, Nat.reduceAdd] at hB1
 replace hL0 := hP
 go_wp2_with fail
 exact bodyPost_ret (v := zV u k) (by simp [results, Tryd.results45, go_sem, hB1]) rfl ⟨rfl, hL0.bl⟩
set_option maxHeartbeats 4000000 in
set_option maxRecDepth 100000 in
theorem iadd (s t u : Bool) (m n k : Nat) (H : ∀ w, Calls Tryd.prog 45 #[zV s m, zV t n, .func (.func 46) #[] #[], .func (.func 47) #[] #[]] w fun e w' => e = .returned (zV u k) ∧ Below w.heap.size w w') (w : World) :
  Calls Tryd.prog 25 #[zV s m, zV t n] w fun e w' => e = .returned (zV u k) ∧ Below w.heap.size w w' := by
 have hL0 : GL w w [] := GL.start w
 replace H := Lib.hid H
 replace hL0 := (((hL0.new rfl [.int .u64 ((lo m : Nat) : Int), .string (hs m), .bool s] 47).new (K := w.heap.size + 1) (szA _ _) [.int .u64 ((lo n : Nat) : Int), .string (hs n), .bool t] 47).new (K := w.heap.size + 1 + 1) (by simp only [World.size_alloc]) [.int .u64 0, .string ⟨#[]⟩, .bool false] 47)
 generalize hweq : (((w.alloc (.cells #[.int .u64 ((lo m : Nat) : Int), .string (hs m), .bool s] 47)).alloc (.cells #[.int .u64 ((lo n : Nat) : Int), .string (hs n), .bool t] 47)).alloc (.cells #[.int .u64 0, .string ⟨#[]⟩, .bool false] 47)) = x1 at hL0
 go_enter Tryd.func25, Tryd.ntmps25
 have hA := hL0.fc
 simp only [fcG, cellsF, neK, and_true, ne_eq, Nat.zero_add, Nat.reduceAdd] at hA
 go_wp2_with fail
 clear hA
 with_reducible refine Calls.mono (H.out _) ?_
 rintro e x2 ⟨rfl, hb⟩
 replace hL0 := hL0.call hb
 clear hb hweq
 have hA := hL0.fc
 simp only [fcG, cellsF, neK, and_true, ne_eq, Nat.zero_add, Nat.reduceAdd] at hA
 have hP := hL0.put 0 (w.heap.size + 1 + 1) _ rfl [.int .u64 ((lo k : Nat) : Int), .string (hs k), .bool u] rfl
 simp only [setAll, List.set_cons_zero, List.set_cons_succ] at hP
 generalize hput1 : (((x2.setCell ⟨w.heap.size + 1 + 1, 0, none⟩ (.int .u64 ((lo k : Nat) : Int))).setCell ⟨w.heap.size + 1 + 1, 1, none⟩ (.string (hs k))).setCell ⟨w.heap.size + 1 + 1, 2, none⟩ (.bool u)) = x3 at hP
 have hB1 := hP.fc
 simp only [fcG, cellsF, neK, and_true, ne_eq, Nat.zero_add, Nat.reduceAdd] at hB1
 replace hL0 := hP
 go_wp2_with fail
 exact bodyPost_ret (v := zV u k) (by simp [results, Tryd.results25, go_sem, hB1]) rfl ⟨rfl, hL0.bl⟩
end Go.Proofs.YtfmakoiiibacjaaDoor
namespace Go.Proofs.YtfmakoiiibacjaaDoor
open Go.RowKit
attribute [local irreducible] lo hs sm s64 c64 d64 b64 mh ml pd pc qd qc val hiB str cmpI srD lz nb
end Go.Proofs.YtfmakoiiibacjaaDoor
namespace Go.Proofs.YtfmakoiiibacjaaDoor
open Go.RowKit
attribute [local irreducible] lo hs
theorem mulI (x y : Int) (hx : dI x ≤ 1000000000) (hy : dI y ≤ 1000000000) (w : World) : Calls Tryd.prog 26 #[intV x, intV y] w fun e w' => e = .returned (intV (x * y)) ∧ Below w.heap.size w w' := by
 rcases int_cases x with ⟨m, rfl, ex⟩ | ⟨m, hm, rfl, ex⟩ <;> rcases int_cases y with ⟨n, rfl, ey⟩ | ⟨n, hn, rfl, ey⟩ <;> rw [ex, ey] <;> simp only [dI_neg, dI_nat] at hx hy
 ·rw [res_f (k := m * n) (by simp)]; exact imul_false_false m n hx hy w
 ·rw [res_m (k := m * n) (by simp [Int.mul_neg])]; exact imul_false_true m n hx hy w
 ·rw [res_m (k := m * n) (by simp [Int.neg_mul])]; exact imul_true_false m n hx hy w
 ·rw [res_f (k := m * n) (by simp [Int.neg_mul, Int.mul_neg])]; exact imul_true_true m n hx hy w
theorem addI (x y : Int) (hx : dI x ≤ 1000000000) (hy : dI y ≤ 1000000000) (w : World) : Calls Tryd.prog 25 #[intV x, intV y] w fun e w' => e = .returned (intV (x + y)) ∧ Below w.heap.size w w' := by
 rcases int_cases x with ⟨m, rfl, ex⟩ | ⟨m, hm, rfl, ex⟩ <;> rcases int_cases y with ⟨n, rfl, ey⟩ | ⟨n, hn, rfl, ey⟩ <;> rw [ex, ey] <;> simp only [dI_neg, dI_nat] at hx hy
 ·rw [res_f (k := m + n) (by omega)]; exact iadd _ _ _ m n _ (byadd_false_false m n _ _ (out_false m n hx hy)) w
 ·rcases Nat.lt_or_ge m n with h | h
  ·rw [res_m (k := n - m) (by omega)]; exact iadd _ _ _ m n _ (byadd_false_true m n _ _ (in_false_lt m n h hx hy)) w
  ·rw [res_f (k := m - n) (by omega)]; exact iadd _ _ _ m n _ (byadd_false_true m n _ _ (in_false_ge m n h hx hy)) w
 ·rcases Nat.lt_or_ge m n with h | h
  ·rw [res_f (k := n - m) (by omega)]; exact iadd _ _ _ m n _ (byadd_true_false m n _ _ (in_true_lt m n h hx hy)) w
  ·rw [res_m (k := m - n) (by omega)]; exact iadd _ _ _ m n _ (byadd_true_false m n _ _ (in_true_ge m n h hx hy)) w
 ·rw [res_m (k := m + n) (by omega)]; exact iadd _ _ _ m n _ (byadd_true_true m n _ _ (out_true m n hx hy)) w
end Go.Proofs.YtfmakoiiibacjaaDoor
namespace Go.Proofs.YtfmakoiiibacjaaDoor
open Go.RowKit
attribute [local irreducible] lo hs
end Go.Proofs.YtfmakoiiibacjaaDoor
namespace Go.Proofs.YtfmakoiiibacjaaDoor
open Go.RowKit
theorem rmul_parts (a b : Rat) : (a * b).num = a.num.tdiv (Nat.gcd a.num.natAbs b.den : Nat) * b.num.tdiv (Nat.gcd b.num.natAbs a.den : Nat) ∧
  (a * b).den = b.den / Nat.gcd a.num.natAbs b.den * (a.den / Nat.gcd b.num.natAbs a.den) := by
 have h : a * b = Rat.mul a b := rfl
 rw [h]; unfold Rat.mul
 simp only [Int.divExact_eq_tdiv]
 exact ⟨trivial, Nat.mul_comm _ _⟩
theorem radd_parts (a b : Rat) :
  (a + b).num = (a.num * ((b.den / Nat.gcd a.den b.den : Nat) : Int) + b.num * ((a.den / Nat.gcd a.den b.den : Nat) : Int)).tdiv (Nat.gcd (a.num * ((b.den / Nat.gcd a.den b.den : Nat) : Int) + b.num * ((a.den / Nat.gcd a.den b.den : Nat) : Int)).natAbs (Nat.gcd a.den b.den) : Nat) ∧
  (a + b).den = a.den / Nat.gcd a.den b.den * (b.den / Nat.gcd a.den b.den) * (Nat.gcd a.den b.den / Nat.gcd (a.num * ((b.den / Nat.gcd a.den b.den : Nat) : Int) + b.num * ((a.den / Nat.gcd a.den b.den : Nat) : Int)).natAbs (Nat.gcd a.den b.den)) := by
 have h : a + b = Rat.add a b := rfl
 rw [h]; unfold Rat.add
 by_cases hg : a.den.gcd b.den = 1
 ·simp only [hg, dif_pos]
  simp
 ·simp only [hg, dif_neg, not_false_eq_true, Rat.maybeNormalize_eq]
  refine ⟨Int.divExact_eq_tdiv .., ?_⟩
  generalize hx : a.num * ((b.den / Nat.gcd a.den b.den : Nat) : Int) + b.num * ((a.den / Nat.gcd a.den b.den : Nat) : Int) = x
  have e1 : b.den = b.den / Nat.gcd a.den b.den * Nat.gcd a.den b.den := (Nat.div_mul_cancel (Nat.gcd_dvd_right _ _)).symm
  generalize hg' : Nat.gcd a.den b.den = g at *
  generalize hq : b.den / g = q at *
  rw [e1, ← Nat.mul_assoc, Nat.mul_div_assoc _ (Nat.gcd_dvd_right _ _)]
theorem new_frac (w : World) : (Instr.alloc 53 true (.tuple #[])).run Tryd.prog w = .ok (.pointer (some ⟨w.heap.size, 0, none⟩)) (w.alloc (.cells #[.int .u64 0, .string ⟨#[]⟩, .bool false, .int .u64 0, .string ⟨#[]⟩] 53)) := by
 simp [go_sem, Instr.alloc]
theorem put_frac (i0 i : Int) (s0 s : ByteArray) (b0 b : Bool) (j0 j : Int) (t0 t : ByteArray) (w : World) (k : Nat) (h : Hd w k [.int .u64 i0, .string s0, .bool b0, .int .u64 j0, .string t0]) :
  ∃ w', (Instr.storeAt 53 (.pointer (some ⟨k, 0, none⟩)) (.agg #[.int .u64 i, .string s, .bool b, .int .u64 j, .string t])).run Tryd.prog w = .ok () w' ∧ Hd w' k [.int .u64 i, .string s, .bool b, .int .u64 j, .string t] ∧ Upd k w w' := by
 have h0 : w.cell? ⟨k, 0, none⟩ = some (.int .u64 i0) := h.cell 0 (by simp)
 have h1 : w.cell? ⟨k, 1, none⟩ = some (.string s0) := h.cell 1 (by simp)
 have h2 : w.cell? ⟨k, 2, none⟩ = some (.bool b0) := h.cell 2 (by simp)
 have h3 : w.cell? ⟨k, 3, none⟩ = some (.int .u64 j0) := h.cell 3 (by simp)
 have h4 : w.cell? ⟨k, 4, none⟩ = some (.string t0) := h.cell 4 (by simp)
 have hf := h.frz
 refine ⟨_, ?_, setAll_hd [.int .u64 i, .string s, .bool b, .int .u64 j, .string t] 0 w k [] [.int .u64 i0, .string s0, .bool b0, .int .u64 j0, .string t0] rfl rfl h, ((((((Upd.refl k w).setCell 0 _).setCell 1 _).setCell 2 _).setCell 3 _).setCell 4 _)⟩
 simp [go_sem, Instr.storeAt, Instr.sureAddr, h0, h1, h2, h3, h4, hf, setAll]
theorem Keeps.ws (v : Value) (l : List Nat) : Keeps (fun w => Ws w v l) := fun _ _ hb h => h.below hb
theorem seg_callK {α : Type} {F : α → World} {x : World} {K : World → Prop} (hK : Keeps K) (h1 : ∀ y, Below x.drew.heap.size x.drew (F y)) (h2 : ∀ x W, Below (F x).heap.size (F x) W → ∃ y, W = F y) (hk : K x) {P : Program} {f : FuncId} {args : Array Value} {v : Value}
  (h : ∀ w, K w → Calls P f args w fun e w' => e = .returned v ∧ Below w.heap.size w w') (y : α) : Calls P f args (F y) fun e w'' => e = .returned v ∧ ∃ y, w'' = F y :=
 (h (F y) (hK _ _ (below_drew (h1 y)) hk)).mono fun _ _ ⟨he, hb⟩ => ⟨he, h2 y _ hb⟩
end Go.Proofs.YtfmakoiiibacjaaDoor
namespace Go.Proofs.YtfmakoiiibacjaaDoor
open Go.RowKit
attribute [local irreducible] lo hs sm s64 c64 d64 b64 mh ml pd pc qd qc val hiB str cmpI srD lz nb zl zh zs
theorem cls_callW {α : Type} {F : α → World} {w0 : World} (h1 : ∀ x, Below w0.heap.size w0 (F x)) (h2 : ∀ W, Below w0.heap.size w0 W → ∃ x, W = F x) {v0 : Value} {l : List Nat} (hw : Ws w0 v0 l) {P : Program} {f : FuncId} {args : Array Value} {v : Value}
  (h : ∀ w, Ws w v0 l → Calls P f args w fun e w' => e = .returned v ∧ Below w.heap.size w w') (x : α) : Calls P f args (F x) fun e w'' => e = .returned v ∧ ∃ y, w'' = F y :=
 (h (F x) (hw.below (h1 x))).mono fun _ _ ⟨he, hb⟩ => ⟨he, h2 _ ((h1 x).trans (hb.mono (h1 x).size))⟩
/-- An integer as plain data. -/
def zmade (s : Bool) (l : List Nat) : Int := if s then -(made l : Int) else (made l : Int)
theorem zmade_dI {s : Bool} {l : List Nat} (h : ∀ x ∈ l, x < 4294967296) : dI (zmade s l) ≤ l.length := by
 unfold zmade
 cases s
 ·simp only [Bool.false_eq_true, if_false, dI_nat]; exact made_digs h
 ·simp only [if_true, dI_neg, dI_nat]; exact made_digs h
set_option maxHeartbeats 4000000 in
set_option maxRecDepth 100000 in
theorem zof_any (s : Bool) (a : Option Addr) (n c : Nat) (l : List Nat) (hl : l.length ≤ 1000) (w : World) (hw : Ws w (.slice a n c) l) :
  Calls Tryd.prog 23 #[.agg #[.bool s, .slice a n c]] w fun e w' => e = .returned (intV (zmade s l)) ∧ Below w.heap.size w w' := by
 have hL0 : GL w w [] := GL.start w
 have HM := Lib.hid (fun w h => made_any (.slice a n c) l hl w h)
 have HF := Lib.hid (fun w => fromI s (made l) (zmade s l) rfl w)
 generalize hz : zmade s l = z at *
 replace hz := Lib.hid hz
 generalize made l = m at *
 clear hl
 replace hL0 := ((hL0.new rfl [.bool s, .slice a n c] 41).new (K := w.heap.size + 1) (szA _ _) [.int .u64 0, .string ⟨#[]⟩, .bool false] 47)
 generalize hweq : ((w.alloc (.cells #[.bool s, .slice a n c] 41)).alloc (.cells #[.int .u64 0, .string ⟨#[]⟩, .bool false] 47)) = x1 at hL0
 have hW := Lib.hid (hw.below hL0.bl)
 clear hw
 go_enter Tryd.func23, Tryd.ntmps23
 have hA := hL0.fc
 simp only [fcG, cellsF, neK, and_true, ne_eq, Nat.zero_add, Nat.reduceAdd] at hA
 go_upto_region 1 with fail
 clear hA
 clear hweq
 obtain ⟨α, iα, F, hF1, hF2⟩ := cls x1
 have hq := GL.fcC hF1 hL0
 simp only [fcC, cellsC, and_true, Nat.zero_add, Nat.reduceAdd] at hq
 refine region_qs 6 (C := fun w' => ∃ x, w' = F x) (by kernel_rfl) (by kernel_rfl) (cls_drew hF2) ?_
 simp only [List.take_succ_cons, List.take_zero, List.drop_succ_cons, List.drop_zero, List.take_nil, List.drop_nil]
 repeat (go_big_quiet_step (first | fail | (go_at_call 42; with_reducible exact cls_callW hF1 hF2 hW.out HM.out _) | (go_at_call 41; with_reducible exact cls_call hF1 hF2 HF.out _)))
 refine wpQuiet_nil ?_
 rintro wq ⟨xq, rfl⟩
 replace hL0 := hL0.call (hF1 xq)
 clear hq hF2
 generalize F xq = x2 at hL0 ⊢
 clear hF1 xq iα F α
 have hA := hL0.fc
 simp only [fcG, cellsF, neK, and_true, ne_eq, Nat.zero_add, Nat.reduceAdd] at hA
 have hP := hL0.put 0 (w.heap.size + 1) _ rfl [.int .u64 ((zl z : Nat) : Int), .string (zh z), .bool (zs z)] rfl
 simp only [setAll, List.set_cons_zero, List.set_cons_succ] at hP
 generalize hput1 : (((x2.setCell ⟨w.heap.size + 1, 0, none⟩ (.int .u64 ((zl z : Nat) : Int))).setCell ⟨w.heap.size + 1, 1, none⟩ (.string (zh z))).setCell ⟨w.heap.size + 1, 2, none⟩ (.bool (zs z))) = x3 at hP
 have hB1 := hP.fc
 simp only [fcG, cellsF, neK, and_true, ne_eq, Nat.zero_add, Nat.reduceAdd] at hB1
 replace hL0 := hP
 go_wp2_with fail
 exact bodyPost_ret (v := intV z) (by simp [results, Tryd.results23, go_sem, hB1]) rfl ⟨rfl, hL0.bl⟩
end Go.Proofs.YtfmakoiiibacjaaDoor
namespace Go.Proofs.YtfmakoiiibacjaaDoor
open Go.RowKit
attribute [local irreducible] lo hs sm s64 c64 d64 b64 mh ml pd pc qd qc val hiB str cmpI srD lz nb zl zh zs
end Go.Proofs.YtfmakoiiibacjaaDoor
namespace Go.Proofs.YtfmakoiiibacjaaDoor
open Go.RowKit
attribute [local irreducible] lo hs zl zh zs
end Go.Proofs.YtfmakoiiibacjaaDoor
namespace Go.Proofs.YtfmakoiiibacjaaDoor
open Go.RowKit
attribute [local irreducible] lo hs sm s64 c64 d64 b64 mh ml pd pc qd qc val hiB str cmpI srD lz nb zl zh zs
set_option maxHeartbeats 4000000 in
set_option maxRecDepth 100000 in
theorem times_one (z : Int) (HO : RT 53 #[.int .u64 1] (natV 1)) (w : World) :
  Calls Tryd.prog 80 #[intV z, natV 1] w fun xe w' => xe = .returned (intV z) ∧ Below w.heap.size w w' := by
 have hL0 : GL w w [] := GL.start w
 replace HO := Lib.hid HO
 replace hL0 := (((hL0.new rfl [.int .u64 ((zl z : Nat) : Int), .string (zh z), .bool (zs z)] 47).new (K := w.heap.size + 1) (szA _ _) [.int .u64 ((lo 1 : Nat) : Int), .string (hs 1)] 45).new (K := w.heap.size + 1 + 1) (by simp only [World.size_alloc]) [.int .u64 0, .string ⟨#[]⟩, .bool false] 47)
 generalize hweq : (((w.alloc (.cells #[.int .u64 ((zl z : Nat) : Int), .string (zh z), .bool (zs z)] 47)).alloc (.cells #[.int .u64 ((lo 1 : Nat) : Int), .string (hs 1)] 45)).alloc (.cells #[.int .u64 0, .string ⟨#[]⟩, .bool false] 47)) = x1 at hL0
 go_enter Tryd.func80, Tryd.ntmps80
 go_upto_region 1 with fail
 clear hweq
 obtain ⟨α, iα, F, hF1, hF2⟩ := cls x1
 have hq0 := cls_box hF1 hL0 _ _ (List.mem_cons_of_mem _ List.mem_cons_self)
 simp only [cellsC, and_true, Nat.zero_add, Nat.reduceAdd] at hq0
 refine region_qs 3 (C := fun w' => ∃ x, w' = F x) (by kernel_rfl) (by kernel_rfl) (cls_drew hF2) ?_
 simp only [List.take_succ_cons, List.take_zero, List.drop_succ_cons, List.drop_zero, List.take_nil, List.drop_nil]
 repeat (go_big_quiet_step (first | fail | (go_at_call 53; with_reducible exact cls_call hF1 hF2 HO.out _)))
 refine wpQuiet_nil ?_
 rintro wq ⟨xq, rfl⟩
 replace hL0 := hL0.call (hF1 xq)
 clear  hq0 hF2
 generalize F xq = x2 at hL0 ⊢
 clear hF1 xq iα F α
 have hA := hL0.fc
 simp only [fcG, cellsF, neK, and_true, ne_eq, Nat.zero_add, Nat.reduceAdd] at hA
 have hP := hL0.put 0 (w.heap.size + 1 + 1) _ rfl [.int .u64 ((zl z : Nat) : Int), .string (zh z), .bool (zs z)] rfl
 simp only [setAll, List.set_cons_zero, List.set_cons_succ] at hP
 generalize hput1 : (((x2.setCell ⟨w.heap.size + 1 + 1, 0, none⟩ (.int .u64 ((zl z : Nat) : Int))).setCell ⟨w.heap.size + 1 + 1, 1, none⟩ (.string (zh z))).setCell ⟨w.heap.size + 1 + 1, 2, none⟩ (.bool (zs z))) = x3 at hP
 have hB1 := hP.fc
 simp only [fcG, cellsF, neK, and_true, ne_eq, Nat.zero_add, Nat.reduceAdd] at hB1
 replace hL0 := hP
 go_wp2_with fail
 exact bodyPost_ret (v := intV z) (by simp [results, Tryd.results80, go_sem, hB1]) rfl ⟨rfl, hL0.bl⟩
set_option maxHeartbeats 4000000 in
set_option maxRecDepth 100000 in
theorem times_mul (z f p : Int) (d : Nat) (HO : RT 53 #[.int .u64 1] (natV 1)) (HF : RT 41 #[.bool false, natV d] (intV f)) (HM : RT 26 #[intV z, intV f] (intV p)) (hd : d ≠ 1) (w : World) :
  Calls Tryd.prog 80 #[intV z, natV d] w fun xe w' => xe = .returned (intV p) ∧ Below w.heap.size w w' := by
 have hL0 : GL w w [] := GL.start w
 replace HO := Lib.hid HO
 replace HF := Lib.hid HF
 replace HM := Lib.hid HM
 have hz := ne_nat hd
 clear hd
 rcases hz with e0 | ⟨e0, e1⟩
 all_goals (
  replace hL0 := (((hL0.new rfl [.int .u64 ((zl z : Nat) : Int), .string (zh z), .bool (zs z)] 47).new (K := w.heap.size + 1) (szA _ _) [.int .u64 ((lo d : Nat) : Int), .string (hs d)] 45).new (K := w.heap.size + 1 + 1) (by simp only [World.size_alloc]) [.int .u64 0, .string ⟨#[]⟩, .bool false] 47)
  generalize hweq : (((w.alloc (.cells #[.int .u64 ((zl z : Nat) : Int), .string (zh z), .bool (zs z)] 47)).alloc (.cells #[.int .u64 ((lo d : Nat) : Int), .string (hs d)] 45)).alloc (.cells #[.int .u64 0, .string ⟨#[]⟩, .bool false] 47)) = x1 at hL0
  go_enter Tryd.func80, Tryd.ntmps80
  go_upto_region 1 with fail
  clear hweq
  obtain ⟨α, iα, F, hF1, hF2⟩ := cls x1
  have hq0 := cls_box hF1 hL0 _ _ (List.mem_cons_of_mem _ List.mem_cons_self)
  simp only [cellsC, and_true, Nat.zero_add, Nat.reduceAdd] at hq0
  refine region_qs 3 (C := fun w' => ∃ x, w' = F x) (by kernel_rfl) (by kernel_rfl) (cls_drew hF2) ?_
  simp only [List.take_succ_cons, List.take_zero, List.drop_succ_cons, List.drop_zero, List.take_nil, List.drop_nil]
  repeat (go_big_quiet_step (first | fail | (go_at_call 53; with_reducible exact cls_call hF1 hF2 HO.out _)))
  refine wpQuiet_nil ?_
  rintro wq ⟨xq, rfl⟩
  replace hL0 := hL0.call (hF1 xq)
  clear  hq0 hF2
  generalize F xq = x2 at hL0 ⊢
  clear hF1 xq iα F α
  go_upto_region 3 with fail
  obtain ⟨α, iα, F, hF1, hF2⟩ := cls x2
  have hq0 := cls_box hF1 hL0 _ _ (List.mem_cons_of_mem _ List.mem_cons_self)
  simp only [cellsC, and_true, Nat.zero_add, Nat.reduceAdd] at hq0
  have hq1 := cls_box hF1 hL0 _ _ (List.mem_cons_of_mem _ (List.mem_cons_of_mem _ List.mem_cons_self))
  simp only [cellsC, and_true, Nat.zero_add, Nat.reduceAdd] at hq1
  refine region_qs 4 (C := fun w' => ∃ x, w' = F x) (by kernel_rfl) (by kernel_rfl) (cls_drew hF2) ?_
  simp only [List.take_succ_cons, List.take_zero, List.drop_succ_cons, List.drop_zero, List.take_nil, List.drop_nil]
  repeat (go_big_quiet_step (first | fail | (go_at_call 41; with_reducible exact cls_call hF1 hF2 HF.out _) | (go_at_call 26; with_reducible exact cls_call hF1 hF2 HM.out _)))
  refine wpQuiet_nil ?_
  rintro wq ⟨xq, rfl⟩
  replace hL0 := hL0.call (hF1 xq)
  clear  hq0 hq1 hF2
  generalize F xq = x3 at hL0 ⊢
  clear hF1 xq iα F α
  have hA := hL0.fc
  simp only [fcG, cellsF, neK, and_true, ne_eq, Nat.zero_add, Nat.reduceAdd] at hA
  have hP := hL0.put 0 (w.heap.size + 1 + 1) _ rfl [.int .u64 ((zl p : Nat) : Int), .string (zh p), .bool (zs p)] rfl
  simp only [setAll, List.set_cons_zero, List.set_cons_succ] at hP
  generalize hput1 : (((x3.setCell ⟨w.heap.size + 1 + 1, 0, none⟩ (.int .u64 ((zl p : Nat) : Int))).setCell ⟨w.heap.size + 1 + 1, 1, none⟩ (.string (zh p))).setCell ⟨w.heap.size + 1 + 1, 2, none⟩ (.bool (zs p))) = x4 at hP
  have hB1 := hP.fc
  simp only [fcG, cellsF, neK, and_true, ne_eq, Nat.zero_add, Nat.reduceAdd] at hB1
  replace hL0 := hP
  go_wp2_with fail
  exact bodyPost_ret (v := intV p) (by simp [results, Tryd.results80, go_sem, hB1]) rfl ⟨rfl, hL0.bl⟩)
end Go.Proofs.YtfmakoiiibacjaaDoor
namespace Go.Proofs.YtfmakoiiibacjaaDoor
open Go.RowKit
attribute [local irreducible] lo hs sm s64 c64 d64 b64 mh ml pd pc qd qc val hiB str cmpI srD lz nb zl zh zs
set_option maxHeartbeats 4000000 in
set_option maxRecDepth 100000 in
theorem fmul_w (m n u v x y : Int) (d e p q g h k f : Nat) (HD : RT 54 #[frV m d] (natV p)) (HE : RT 54 #[frV n e] (natV q)) (HX : RT 57 #[intV m, natV q] (.tuple #[intV u, natV g])) (HY : RT 57 #[intV n, natV p] (.tuple #[intV v, natV h])) (HM : RT 26 #[intV u, intV v] (intV x)) (HP : RT 48 #[natV h, natV g] (natV k)) (HL : RT 58 #[intV x, natV k] (frV y f)) (w : World) :
  Calls Tryd.prog 31 #[frV m d, frV n e] w fun xe w' => xe = .returned (frV y f) ∧ Below w.heap.size w w' := by
 have hL0 : GL w w [] := GL.start w
 replace HD := Lib.hid HD
 replace HE := Lib.hid HE
 replace HX := Lib.hid HX
 replace HY := Lib.hid HY
 replace HM := Lib.hid HM
 replace HP := Lib.hid HP
 replace HL := Lib.hid HL
 replace hL0 := (((hL0.new rfl [.int .u64 ((zl m : Nat) : Int), .string (zh m), .bool (zs m), .int .u64 ((lo d : Nat) : Int), .string (hs d)] 53).new (K := w.heap.size + 1) (szA _ _) [.int .u64 ((zl n : Nat) : Int), .string (zh n), .bool (zs n), .int .u64 ((lo e : Nat) : Int), .string (hs e)] 53).new (K := w.heap.size + 1 + 1) (by simp only [World.size_alloc]) [.int .u64 0, .string ⟨#[]⟩, .bool false, .int .u64 0, .string ⟨#[]⟩] 53)
 generalize hweq : (((w.alloc (.cells #[.int .u64 ((zl m : Nat) : Int), .string (zh m), .bool (zs m), .int .u64 ((lo d : Nat) : Int), .string (hs d)] 53)).alloc (.cells #[.int .u64 ((zl n : Nat) : Int), .string (zh n), .bool (zs n), .int .u64 ((lo e : Nat) : Int), .string (hs e)] 53)).alloc (.cells #[.int .u64 0, .string ⟨#[]⟩, .bool false, .int .u64 0, .string ⟨#[]⟩] 53)) = x1 at hL0
 go_enter Tryd.func31, Tryd.ntmps31
 go_upto_region 1 with fail
 clear hweq
 refine region_gh (by kernel_rfl) (by kernel_rfl) ?_
 refine lex_seg (gl := []) 8 (by kernel_rfl) ?_
 intro α iα F hF1 hF2
 have hq := GL.seg hF1 hL0
 simp only [fcC, cellsC, and_true, Nat.zero_add, Nat.reduceAdd] at hq
 simp only [List.take_succ_cons, List.take_zero, List.drop_succ_cons, List.drop_zero, List.take_nil, List.drop_nil]
 repeat (go_big_quiet_step (first | fail | (go_at_call 54; with_reducible exact seg_call hF2 HE.out _) | (go_at_call 57; with_reducible exact seg_call hF2 HX.out _)))
 refine wpQuiet_nil ?_
 clear hq hF1 hF2 iα F α
 refine lex_new [.int .u64 0, .string ⟨#[]⟩, .bool false] 5 47 47 rfl rfl (of_decide_eq_true (by kernel_rfl)) (by kernel_rfl) rfl new_int ?_
 simp only [Act.put, List.setIfInBounds_toArray, List.set_cons_succ, List.set_cons_zero]
 refine lex_new [.int .u64 0, .string ⟨#[]⟩] 6 45 45 rfl rfl (of_decide_eq_true (by kernel_rfl)) (by kernel_rfl) rfl new_natc ?_
 simp only [Act.put, List.setIfInBounds_toArray, List.set_cons_succ, List.set_cons_zero]
 refine lex_put [.int .u64 ((zl u : Nat) : Int), .string (zh u), .bool (zs u)] [.int .u64 0, .string ⟨#[]⟩, .bool false] 5 47 (.tmp 15) rfl (by kernel_rfl) (by simp [toG, upd]) rfl (fun w k h => put_int _ _ _ _ _ _ w k h) ?_
 simp only [Act.put]
 refine lex_put [.int .u64 ((lo g : Nat) : Int), .string (hs g)] [.int .u64 0, .string ⟨#[]⟩] 6 45 (.tmp 16) rfl (by kernel_rfl) (by simp [toG, upd]) rfl (fun w k h => put_natc _ _ _ _ w k h) ?_
 simp only [Act.put]
 refine lexG_nil ?_
 intro κ x2 hS
 replace hL0 := hL0.ghs hS [(6, [.int .u64 ((lo g : Nat) : Int), .string (hs g)]), (5, [.int .u64 ((zl u : Nat) : Int), .string (zh u), .bool (zs u)])] (by simp) (by intro p hp; simp only [List.mem_cons, List.not_mem_nil, or_false] at hp; rcases hp with rfl | rfl <;> exact ⟨_, by simp only [toG, upd]; rfl⟩)
 simp only [List.map_cons, List.map_nil, List.cons_append, List.nil_append] at hL0
 simp only [over_toG, over_nil, Act.put, List.setIfInBounds_toArray, List.set_cons_succ, List.set_cons_zero]
 clear hS
 generalize κ 6 = k2_6 at *
 generalize κ 5 = k2_5 at *
 go_upto_region 2 with fail
 refine region_gh (by kernel_rfl) (by kernel_rfl) ?_
 refine lex_seg (gl := []) 8 (by kernel_rfl) ?_
 intro α iα F hF1 hF2
 have hq := GL.seg hF1 hL0
 simp only [fcC, cellsC, and_true, Nat.zero_add, Nat.reduceAdd] at hq
 simp only [List.take_succ_cons, List.take_zero, List.drop_succ_cons, List.drop_zero, List.take_nil, List.drop_nil]
 repeat (go_big_quiet_step (first | fail | (go_at_call 54; with_reducible exact seg_call hF2 HD.out _) | (go_at_call 57; with_reducible exact seg_call hF2 HY.out _)))
 refine wpQuiet_nil ?_
 clear hq hF1 hF2 iα F α
 refine lex_new [.int .u64 0, .string ⟨#[]⟩, .bool false] 7 47 47 rfl rfl (of_decide_eq_true (by kernel_rfl)) (by kernel_rfl) rfl new_int ?_
 simp only [Act.put, List.setIfInBounds_toArray, List.set_cons_succ, List.set_cons_zero]
 refine lex_new [.int .u64 0, .string ⟨#[]⟩] 8 45 45 rfl rfl (of_decide_eq_true (by kernel_rfl)) (by kernel_rfl) rfl new_natc ?_
 simp only [Act.put, List.setIfInBounds_toArray, List.set_cons_succ, List.set_cons_zero]
 refine lex_put [.int .u64 ((zl v : Nat) : Int), .string (zh v), .bool (zs v)] [.int .u64 0, .string ⟨#[]⟩, .bool false] 7 47 (.tmp 23) rfl (by kernel_rfl) (by simp [toG, upd]) rfl (fun w k h => put_int _ _ _ _ _ _ w k h) ?_
 simp only [Act.put]
 refine lex_put [.int .u64 ((lo h : Nat) : Int), .string (hs h)] [.int .u64 0, .string ⟨#[]⟩] 8 45 (.tmp 24) rfl (by kernel_rfl) (by simp [toG, upd]) rfl (fun w k h => put_natc _ _ _ _ w k h) ?_
 simp only [Act.put]
 refine lexG_nil ?_
 intro κ x3 hS
 replace hL0 := hL0.ghs hS [(8, [.int .u64 ((lo h : Nat) : Int), .string (hs h)]), (7, [.int .u64 ((zl v : Nat) : Int), .string (zh v), .bool (zs v)])] (by simp) (by intro p hp; simp only [List.mem_cons, List.not_mem_nil, or_false] at hp; rcases hp with rfl | rfl <;> exact ⟨_, by simp only [toG, upd]; rfl⟩)
 simp only [List.map_cons, List.map_nil, List.cons_append, List.nil_append] at hL0
 simp only [over_toG, over_nil, Act.put, List.setIfInBounds_toArray, List.set_cons_succ, List.set_cons_zero]
 clear hS
 generalize κ 8 = k3_8 at *
 generalize κ 7 = k3_7 at *
 go_upto_region 3 with fail
 obtain ⟨α, iα, F, hF1, hF2⟩ := cls x3
 have hq0 := cls_box hF1 hL0 _ _ List.mem_cons_self
 simp only [cellsC, and_true, Nat.zero_add, Nat.reduceAdd] at hq0
 have hq1 := cls_box hF1 hL0 _ _ (List.mem_cons_of_mem _ List.mem_cons_self)
 simp only [cellsC, and_true, Nat.zero_add, Nat.reduceAdd] at hq1
 have hq2 := cls_box hF1 hL0 _ _ (List.mem_cons_of_mem _ (List.mem_cons_of_mem _ List.mem_cons_self))
 simp only [cellsC, and_true, Nat.zero_add, Nat.reduceAdd] at hq2
 have hq3 := cls_box hF1 hL0 _ _ (List.mem_cons_of_mem _ (List.mem_cons_of_mem _ (List.mem_cons_of_mem _ List.mem_cons_self)))
 simp only [cellsC, and_true, Nat.zero_add, Nat.reduceAdd] at hq3
 refine region_qs 7 (C := fun w' => ∃ x, w' = F x) (by kernel_rfl) (by kernel_rfl) (cls_drew hF2) ?_
 simp only [List.take_succ_cons, List.take_zero, List.drop_succ_cons, List.drop_zero, List.take_nil, List.drop_nil]
 repeat (go_big_quiet_step (first | fail | (go_at_call 26; with_reducible exact cls_call hF1 hF2 HM.out _) | (go_at_call 48; with_reducible exact cls_call hF1 hF2 HP.out _) | (go_at_call 58; with_reducible exact cls_call hF1 hF2 HL.out _)))
 refine wpQuiet_nil ?_
 rintro wq ⟨xq, rfl⟩
 replace hL0 := hL0.call (hF1 xq)
 clear  hq0 hq1 hq2 hq3 hF2
 generalize F xq = x4 at hL0 ⊢
 clear hF1 xq iα F α
 have hA := hL0.fc
 simp only [fcG, cellsF, neK, and_true, ne_eq, Nat.zero_add, Nat.reduceAdd] at hA
 have hP := hL0.put 4 (w.heap.size + 1 + 1) _ rfl [.int .u64 ((zl y : Nat) : Int), .string (zh y), .bool (zs y), .int .u64 ((lo f : Nat) : Int), .string (hs f)] rfl
 simp only [setAll, List.set_cons_zero, List.set_cons_succ] at hP
 generalize hput1 : (((((x4.setCell ⟨w.heap.size + 1 + 1, 0, none⟩ (.int .u64 ((zl y : Nat) : Int))).setCell ⟨w.heap.size + 1 + 1, 1, none⟩ (.string (zh y))).setCell ⟨w.heap.size + 1 + 1, 2, none⟩ (.bool (zs y))).setCell ⟨w.heap.size + 1 + 1, 3, none⟩ (.int .u64 ((lo f : Nat) : Int))).setCell ⟨w.heap.size + 1 + 1, 4, none⟩ (.string (hs f))) = x5 at hP
 have hB1 := hP.fc
 simp only [fcG, cellsF, neK, and_true, ne_eq, Nat.zero_add, Nat.reduceAdd] at hB1
 replace hL0 := hP
 go_wp2_with fail
 exact bodyPost_ret (v := frV y f) (by simp [results, Tryd.results31, go_sem, hB1]) rfl ⟨rfl, hL0.bl⟩
set_option maxHeartbeats 4000000 in
set_option maxRecDepth 100000 in
theorem fcombine_add (m n x y s u z : Int) (d e p0 q0 g p q r t v f : Nat) (HD : RT 54 #[frV m d] (natV p0)) (HE : RT 54 #[frV n e] (natV q0)) (HG : RT 78 #[natV p0, natV q0] (natV g)) (HP : RT 79 #[natV p0, natV g] (natV p)) (HQ : RT 79 #[natV q0, natV g] (natV q)) (HS : RT 80 #[intV m, natV q] (intV x)) (HT : RT 80 #[intV n, natV p] (intV y)) (HB : RT 25 #[intV x, intV y] (intV s)) (HC : RT 57 #[intV s, natV g] (.tuple #[intV u, natV r])) (HU : RT 48 #[natV p, natV q] (natV t)) (HV : RT 48 #[natV t, natV r] (natV v)) (HL : RT 58 #[intV u, natV v] (frV z f)) (w : World) :
  Calls Tryd.prog 56 #[frV m d, frV n e, .func (.func 25) #[] #[]] w fun xe w' => xe = .returned (frV z f) ∧ Below w.heap.size w w' := by
 have hL0 : GL w w [] := GL.start w
 replace HD := Lib.hid HD
 replace HE := Lib.hid HE
 replace HG := Lib.hid HG
 replace HP := Lib.hid HP
 replace HQ := Lib.hid HQ
 replace HS := Lib.hid HS
 replace HT := Lib.hid HT
 replace HB := Lib.hid HB
 replace HC := Lib.hid HC
 replace HU := Lib.hid HU
 replace HV := Lib.hid HV
 replace HL := Lib.hid HL
 replace hL0 := (((hL0.new rfl [.int .u64 ((zl m : Nat) : Int), .string (zh m), .bool (zs m), .int .u64 ((lo d : Nat) : Int), .string (hs d)] 53).new (K := w.heap.size + 1) (szA _ _) [.int .u64 ((zl n : Nat) : Int), .string (zh n), .bool (zs n), .int .u64 ((lo e : Nat) : Int), .string (hs e)] 53).new (K := w.heap.size + 1 + 1) (by simp only [World.size_alloc]) [.int .u64 0, .string ⟨#[]⟩, .bool false, .int .u64 0, .string ⟨#[]⟩] 53)
 generalize hweq : (((w.alloc (.cells #[.int .u64 ((zl m : Nat) : Int), .string (zh m), .bool (zs m), .int .u64 ((lo d : Nat) : Int), .string (hs d)] 53)).alloc (.cells #[.int .u64 ((zl n : Nat) : Int), .string (zh n), .bool (zs n), .int .u64 ((lo e : Nat) : Int), .string (hs e)] 53)).alloc (.cells #[.int .u64 0, .string ⟨#[]⟩, .bool false, .int .u64 0, .string ⟨#[]⟩] 53)) = x1 at hL0
 go_enter Tryd.func56, Tryd.ntmps56
 go_upto_region 1 with fail
 clear hweq
 refine region_gh (by kernel_rfl) (by kernel_rfl) ?_
 refine lex_seg (gl := []) 5 (by kernel_rfl) ?_
 intro α iα F hF1 hF2
 have hq := GL.seg hF1 hL0
 simp only [fcC, cellsC, and_true, Nat.zero_add, Nat.reduceAdd] at hq
 simp only [List.take_succ_cons, List.take_zero, List.drop_succ_cons, List.drop_zero, List.take_nil, List.drop_nil]
 repeat (go_big_quiet_step (first | fail | (go_at_call 54; with_reducible exact seg_call hF2 HD.out _) | (go_at_call 54; with_reducible exact seg_call hF2 HE.out _) | (go_at_call 78; with_reducible exact seg_call hF2 HG.out _)))
 refine wpQuiet_nil ?_
 clear hq hF1 hF2 iα F α
 refine lex_new [.int .u64 0, .string ⟨#[]⟩] 7 45 45 rfl rfl (of_decide_eq_true (by kernel_rfl)) (by kernel_rfl) rfl new_natc ?_
 simp only [Act.put, List.setIfInBounds_toArray, List.set_cons_succ, List.set_cons_zero]
 refine lex_put [.int .u64 ((lo g : Nat) : Int), .string (hs g)] [.int .u64 0, .string ⟨#[]⟩] 7 45 (.tmp 16) rfl (by kernel_rfl) (by simp [toG, upd]) rfl (fun w k h => put_natc _ _ _ _ w k h) ?_
 simp only [Act.put]
 refine lexG_nil ?_
 intro κ x2 hS
 replace hL0 := hL0.ghs hS [(7, [.int .u64 ((lo g : Nat) : Int), .string (hs g)])] (by simp) (by intro p hp; simp only [List.mem_cons, List.not_mem_nil, or_false] at hp; rcases hp with rfl <;> exact ⟨_, by simp only [toG, upd]; rfl⟩)
 simp only [List.map_cons, List.map_nil, List.cons_append, List.nil_append] at hL0
 simp only [over_toG, over_nil, Act.put, List.setIfInBounds_toArray, List.set_cons_succ, List.set_cons_zero]
 clear hS
 generalize κ 7 = k2_7 at *
 go_upto_region 2 with fail
 refine region_gh (by kernel_rfl) (by kernel_rfl) ?_
 refine lex_seg (gl := []) 8 (by kernel_rfl) ?_
 intro α iα F hF1 hF2
 have hq := GL.seg hF1 hL0
 simp only [fcC, cellsC, and_true, Nat.zero_add, Nat.reduceAdd] at hq
 simp only [List.take_succ_cons, List.take_zero, List.drop_succ_cons, List.drop_zero, List.take_nil, List.drop_nil]
 repeat (go_big_quiet_step (first | fail | (go_at_call 54; with_reducible exact seg_call hF2 HD.out _) | (go_at_call 79; with_reducible exact seg_call hF2 HP.out _) | (go_at_call 54; with_reducible exact seg_call hF2 HE.out _) | (go_at_call 79; with_reducible exact seg_call hF2 HQ.out _)))
 refine wpQuiet_nil ?_
 clear hq hF1 hF2 iα F α
 refine lex_new [.int .u64 0, .string ⟨#[]⟩] 8 45 45 rfl rfl (of_decide_eq_true (by kernel_rfl)) (by kernel_rfl) rfl new_natc ?_
 simp only [Act.put, List.setIfInBounds_toArray, List.set_cons_succ, List.set_cons_zero]
 refine lex_new [.int .u64 0, .string ⟨#[]⟩] 9 45 45 rfl rfl (of_decide_eq_true (by kernel_rfl)) (by kernel_rfl) rfl new_natc ?_
 simp only [Act.put, List.setIfInBounds_toArray, List.set_cons_succ, List.set_cons_zero]
 refine lex_put [.int .u64 ((lo p : Nat) : Int), .string (hs p)] [.int .u64 0, .string ⟨#[]⟩] 8 45 (.tmp 20) rfl (by kernel_rfl) (by simp [toG, upd]) rfl (fun w k h => put_natc _ _ _ _ w k h) ?_
 simp only [Act.put]
 refine lex_put [.int .u64 ((lo q : Nat) : Int), .string (hs q)] [.int .u64 0, .string ⟨#[]⟩] 9 45 (.tmp 24) rfl (by kernel_rfl) (by simp [toG, upd]) rfl (fun w k h => put_natc _ _ _ _ w k h) ?_
 simp only [Act.put]
 refine lexG_nil ?_
 intro κ x3 hS
 replace hL0 := hL0.ghs hS [(9, [.int .u64 ((lo q : Nat) : Int), .string (hs q)]), (8, [.int .u64 ((lo p : Nat) : Int), .string (hs p)])] (by simp) (by intro p hp; simp only [List.mem_cons, List.not_mem_nil, or_false] at hp; rcases hp with rfl | rfl <;> exact ⟨_, by simp only [toG, upd]; rfl⟩)
 simp only [List.map_cons, List.map_nil, List.cons_append, List.nil_append] at hL0
 simp only [over_toG, over_nil, Act.put, List.setIfInBounds_toArray, List.set_cons_succ, List.set_cons_zero]
 clear hS
 generalize κ 9 = k3_9 at *
 generalize κ 8 = k3_8 at *
 go_upto_region 3 with fail
 refine region_gh (by kernel_rfl) (by kernel_rfl) ?_
 refine lex_seg (gl := []) 15 (by kernel_rfl) ?_
 intro α iα F hF1 hF2
 have hq := GL.seg hF1 hL0
 simp only [fcC, cellsC, and_true, Nat.zero_add, Nat.reduceAdd] at hq
 simp only [List.take_succ_cons, List.take_zero, List.drop_succ_cons, List.drop_zero, List.take_nil, List.drop_nil]
 repeat (go_big_quiet_step (first | fail | (go_at_call 80; with_reducible exact seg_call hF2 HS.out _) | (go_at_call 80; with_reducible exact seg_call hF2 HT.out _) | (go_at_call 25; with_reducible exact seg_call hF2 HB.out _) | (go_at_call 57; with_reducible exact seg_call hF2 HC.out _)))
 refine wpQuiet_nil ?_
 clear hq hF1 hF2 iα F α
 refine lex_new [.int .u64 0, .string ⟨#[]⟩, .bool false] 10 47 47 rfl rfl (of_decide_eq_true (by kernel_rfl)) (by kernel_rfl) rfl new_int ?_
 simp only [Act.put, List.setIfInBounds_toArray, List.set_cons_succ, List.set_cons_zero]
 refine lex_new [.int .u64 0, .string ⟨#[]⟩] 11 45 45 rfl rfl (of_decide_eq_true (by kernel_rfl)) (by kernel_rfl) rfl new_natc ?_
 simp only [Act.put, List.setIfInBounds_toArray, List.set_cons_succ, List.set_cons_zero]
 refine lex_put [.int .u64 ((zl u : Nat) : Int), .string (zh u), .bool (zs u)] [.int .u64 0, .string ⟨#[]⟩, .bool false] 10 47 (.tmp 38) rfl (by kernel_rfl) (by simp [toG, upd]) rfl (fun w k h => put_int _ _ _ _ _ _ w k h) ?_
 simp only [Act.put]
 refine lex_put [.int .u64 ((lo r : Nat) : Int), .string (hs r)] [.int .u64 0, .string ⟨#[]⟩] 11 45 (.tmp 39) rfl (by kernel_rfl) (by simp [toG, upd]) rfl (fun w k h => put_natc _ _ _ _ w k h) ?_
 simp only [Act.put]
 refine lexG_nil ?_
 intro κ x4 hS
 replace hL0 := hL0.ghs hS [(11, [.int .u64 ((lo r : Nat) : Int), .string (hs r)]), (10, [.int .u64 ((zl u : Nat) : Int), .string (zh u), .bool (zs u)])] (by simp) (by intro p hp; simp only [List.mem_cons, List.not_mem_nil, or_false] at hp; rcases hp with rfl | rfl <;> exact ⟨_, by simp only [toG, upd]; rfl⟩)
 simp only [List.map_cons, List.map_nil, List.cons_append, List.nil_append] at hL0
 simp only [over_toG, over_nil, Act.put, List.setIfInBounds_toArray, List.set_cons_succ, List.set_cons_zero]
 clear hS
 generalize κ 11 = k4_11 at *
 generalize κ 10 = k4_10 at *
 go_upto_region 4 with fail
 obtain ⟨α, iα, F, hF1, hF2⟩ := cls x4
 have hq0 := cls_box hF1 hL0 _ _ List.mem_cons_self
 simp only [cellsC, and_true, Nat.zero_add, Nat.reduceAdd] at hq0
 have hq1 := cls_box hF1 hL0 _ _ (List.mem_cons_of_mem _ List.mem_cons_self)
 simp only [cellsC, and_true, Nat.zero_add, Nat.reduceAdd] at hq1
 have hq2 := cls_box hF1 hL0 _ _ (List.mem_cons_of_mem _ (List.mem_cons_of_mem _ List.mem_cons_self))
 simp only [cellsC, and_true, Nat.zero_add, Nat.reduceAdd] at hq2
 have hq3 := cls_box hF1 hL0 _ _ (List.mem_cons_of_mem _ (List.mem_cons_of_mem _ (List.mem_cons_of_mem _ List.mem_cons_self)))
 simp only [cellsC, and_true, Nat.zero_add, Nat.reduceAdd] at hq3
 refine region_qs 7 (C := fun w' => ∃ x, w' = F x) (by kernel_rfl) (by kernel_rfl) (cls_drew hF2) ?_
 simp only [List.take_succ_cons, List.take_zero, List.drop_succ_cons, List.drop_zero, List.take_nil, List.drop_nil]
 repeat (go_big_quiet_step (first | fail | (go_at_call 48; with_reducible exact cls_call hF1 hF2 HU.out _) | (go_at_call 48; with_reducible exact cls_call hF1 hF2 HV.out _) | (go_at_call 58; with_reducible exact cls_call hF1 hF2 HL.out _)))
 refine wpQuiet_nil ?_
 rintro wq ⟨xq, rfl⟩
 replace hL0 := hL0.call (hF1 xq)
 clear  hq0 hq1 hq2 hq3 hF2
 generalize F xq = x5 at hL0 ⊢
 clear hF1 xq iα F α
 have hA := hL0.fc
 simp only [fcG, cellsF, neK, and_true, ne_eq, Nat.zero_add, Nat.reduceAdd] at hA
 have hP := hL0.put 5 (w.heap.size + 1 + 1) _ rfl [.int .u64 ((zl z : Nat) : Int), .string (zh z), .bool (zs z), .int .u64 ((lo f : Nat) : Int), .string (hs f)] rfl
 simp only [setAll, List.set_cons_zero, List.set_cons_succ] at hP
 generalize hput1 : (((((x5.setCell ⟨w.heap.size + 1 + 1, 0, none⟩ (.int .u64 ((zl z : Nat) : Int))).setCell ⟨w.heap.size + 1 + 1, 1, none⟩ (.string (zh z))).setCell ⟨w.heap.size + 1 + 1, 2, none⟩ (.bool (zs z))).setCell ⟨w.heap.size + 1 + 1, 3, none⟩ (.int .u64 ((lo f : Nat) : Int))).setCell ⟨w.heap.size + 1 + 1, 4, none⟩ (.string (hs f))) = x6 at hP
 have hB1 := hP.fc
 simp only [fcG, cellsF, neK, and_true, ne_eq, Nat.zero_add, Nat.reduceAdd] at hB1
 replace hL0 := hP
 go_wp2_with fail
 exact bodyPost_ret (v := frV z f) (by simp [results, Tryd.results56, go_sem, hB1]) rfl ⟨rfl, hL0.bl⟩
set_option maxHeartbeats 4000000 in
set_option maxRecDepth 100000 in
theorem fadd_w (m n z : Int) (d e f : Nat) (HC : RT 56 #[frV m d, frV n e, .func (.func 25) #[] #[]] (frV z f)) (w : World) :
  Calls Tryd.prog 30 #[frV m d, frV n e] w fun xe w' => xe = .returned (frV z f) ∧ Below w.heap.size w w' := by
 have hL0 : GL w w [] := GL.start w
 replace HC := Lib.hid HC
 replace hL0 := (((hL0.new rfl [.int .u64 ((zl m : Nat) : Int), .string (zh m), .bool (zs m), .int .u64 ((lo d : Nat) : Int), .string (hs d)] 53).new (K := w.heap.size + 1) (szA _ _) [.int .u64 ((zl n : Nat) : Int), .string (zh n), .bool (zs n), .int .u64 ((lo e : Nat) : Int), .string (hs e)] 53).new (K := w.heap.size + 1 + 1) (by simp only [World.size_alloc]) [.int .u64 0, .string ⟨#[]⟩, .bool false, .int .u64 0, .string ⟨#[]⟩] 53)
 generalize hweq : (((w.alloc (.cells #[.int .u64 ((zl m : Nat) : Int), .string (zh m), .bool (zs m), .int .u64 ((lo d : Nat) : Int), .string (hs d)] 53)).alloc (.cells #[.int .u64 ((zl n : Nat) : Int), .string (zh n), .bool (zs n), .int .u64 ((lo e : Nat) : Int), .string (hs e)] 53)).alloc (.cells #[.int .u64 0, .string ⟨#[]⟩, .bool false, .int .u64 0, .string ⟨#[]⟩] 53)) = x1 at hL0
 go_enter Tryd.func30, Tryd.ntmps30
 have hN0 := cells_of _ 0 [] rfl (hL0.get _ _ (List.mem_cons_of_mem _ List.mem_cons_self))
 simp only [cellsF, and_true, Nat.zero_add, Nat.reduceAdd] at hN0
 have hN1 := cells_of _ 0 [] rfl (hL0.get _ _ (List.mem_cons_of_mem _ (List.mem_cons_of_mem _ List.mem_cons_self)))
 simp only [cellsF, and_true, Nat.zero_add, Nat.reduceAdd] at hN1
 go_wp2_with fail
 clear hN0 hN1
 with_reducible refine Calls.mono (HC.out _) ?_
 rintro e x2 ⟨rfl, hb⟩
 replace hL0 := hL0.call hb
 clear hb hweq
 have hA := hL0.fc
 simp only [fcG, cellsF, neK, and_true, ne_eq, Nat.zero_add, Nat.reduceAdd] at hA
 have hP := hL0.put 0 (w.heap.size + 1 + 1) _ rfl [.int .u64 ((zl z : Nat) : Int), .string (zh z), .bool (zs z), .int .u64 ((lo f : Nat) : Int), .string (hs f)] rfl
 simp only [setAll, List.set_cons_zero, List.set_cons_succ] at hP
 generalize hput1 : (((((x2.setCell ⟨w.heap.size + 1 + 1, 0, none⟩ (.int .u64 ((zl z : Nat) : Int))).setCell ⟨w.heap.size + 1 + 1, 1, none⟩ (.string (zh z))).setCell ⟨w.heap.size + 1 + 1, 2, none⟩ (.bool (zs z))).setCell ⟨w.heap.size + 1 + 1, 3, none⟩ (.int .u64 ((lo f : Nat) : Int))).setCell ⟨w.heap.size + 1 + 1, 4, none⟩ (.string (hs f))) = x3 at hP
 have hB1 := hP.fc
 simp only [fcG, cellsF, neK, and_true, ne_eq, Nat.zero_add, Nat.reduceAdd] at hB1
 replace hL0 := hP
 go_wp2_with fail
 exact bodyPost_ret (v := frV z f) (by simp [results, Tryd.results30, go_sem, hB1]) rfl ⟨rfl, hL0.bl⟩
end Go.Proofs.YtfmakoiiibacjaaDoor
namespace Go.Proofs.YtfmakoiiibacjaaDoor
open Go.RowKit
attribute [local irreducible] lo hs sm s64 c64 d64 b64 mh ml pd pc qd qc val hiB str cmpI srD lz nb zl zh zs
theorem times_raw (z : Int) (d : Nat) (hz : dI z ≤ 100000000) (hd : (digs d).length ≤ 100000000) (w : World) : Calls Tryd.prog 80 #[intV z, natV d] w fun x w' => x = .returned (intV (z * (d : Int))) ∧ Below w.heap.size w w' := by
 by_cases h : d = 1
 ·subst h; rw [show z * ((1 : Nat) : Int) = z by omega]; exact times_one z one_o w
 ·exact times_mul z (d : Int) _ d one_o (fun w => fromI false d (d : Int) rfl w) (fun w => mulI z (d : Int) (by omega) (by rw [dI_nat]; omega) w) h w
end Go.Proofs.YtfmakoiiibacjaaDoor
namespace Go.Proofs.YtfmakoiiibacjaaDoor
open Go.RowKit
attribute [local irreducible] lo hs sm s64 c64 d64 b64 mh ml pd pc qd qc val hiB str cmpI srD lz nb zl zh zs
theorem tdiv_dI {z : Int} {g k : Nat} (h : dI z ≤ k) : dI (z.tdiv (g : Int)) ≤ k := by
 refine Nat.le_trans (dI_mono ?_) h
 rw [Int.natAbs_tdiv]; exact Nat.div_le_self _ _
theorem ndiv_digs {n g k : Nat} (h : (digs n).length ≤ k) : (digs (n / g)).length ≤ k := Nat.le_trans (digs_mono (Nat.div_le_self _ _)) h
theorem mulF (p q : Rat) (k : Nat) (hp : Sz p k) (hq : Sz q k) (hk : k ≤ 100000000) (w : World) : Calls Tryd.prog 31 #[fracV p, fracV q] w fun x w' => x = .returned (fracV (p * q)) ∧ Below w.heap.size w w' := by
 obtain ⟨h1, h2⟩ := rmul_parts p q
 rw [Nat.mul_comm] at h2
 exact fmul_w p.num q.num _ _ _ _ (fe p) (fe q) p.den q.den _ _ _ _ (denF p) (denF q) (cancel_raw p.num q.den q.den_nz (Nat.le_trans hp.1 hk) (Nat.le_trans hq.2 hk)) (cancel_raw q.num p.den p.den_nz (Nat.le_trans hq.1 hk) (Nat.le_trans hp.2 hk))
  (fun w => mulI _ _ (Nat.le_trans (tdiv_dI hp.1) (by omega)) (Nat.le_trans (tdiv_dI hq.1) (by omega)) w) (fun w => mul_any _ _ (Nat.le_trans (ndiv_digs hp.2) (by omega)) (Nat.le_trans (ndiv_digs hq.2) (by omega)) w) (fun w => lowestF h1 h2 w) w
theorem addF (p q : Rat) (k : Nat) (hp : Sz p k) (hq : Sz q k) (hk : k ≤ 10000000) (w : World) : Calls Tryd.prog 30 #[fracV p, fracV q] w fun x w' => x = .returned (fracV (p + q)) ∧ Below w.heap.size w w' := by
 obtain ⟨h1, h2⟩ := radd_parts p q
 have hg : Nat.gcd p.den q.den ≠ 0 := fun e => p.den_nz (Nat.gcd_eq_zero_iff.1 e).1
 have l1 : (digs (p.den / Nat.gcd p.den q.den)).length ≤ k := ndiv_digs hp.2
 have l2 : (digs (q.den / Nat.gcd p.den q.den)).length ≤ k := ndiv_digs hq.2
 have l3 : (digs (Nat.gcd p.den q.den)).length ≤ k := Nat.le_trans (digs_mono (Nat.gcd_le_left _ p.den_pos)) hp.2
 have lx : dI (p.num * ((q.den / Nat.gcd p.den q.den : Nat) : Int)) ≤ k + k := dI_mul hp.1 (by rw [dI_nat]; exact l2)
 have ly : dI (q.num * ((p.den / Nat.gcd p.den q.den : Nat) : Int)) ≤ k + k := dI_mul hq.1 (by rw [dI_nat]; exact l1)
 have ls := dI_add lx ly
 refine fadd_w p.num q.num _ (fe p) (fe q) _ ?_ w
 exact fcombine_add p.num q.num _ _ _ _ _ (fe p) (fe q) p.den q.den _ _ _ _ _ _ _ (denF p) (denF q) (fun w => gcd_any _ _ (Nat.le_trans hp.2 (by omega)) (Nat.le_trans hq.2 (by omega)) w)
  (pon_raw _ _ hg (Nat.le_trans hp.2 (by omega))) (pon_raw _ _ hg (Nat.le_trans hq.2 (by omega))) (times_raw _ _ (Nat.le_trans hp.1 (by omega)) (by omega)) (times_raw _ _ (Nat.le_trans hq.1 (by omega)) (by omega))
  (fun w => addI _ _ (by omega) (by omega) w) (cancel_raw _ _ hg (by omega) (by omega)) (fun w => mul_any _ _ (by omega) (by omega) w)
  (fun w => mul_any _ _ (Nat.le_trans (digs_mul_le l1 l2) (by omega)) (Nat.le_trans (ndiv_digs l3) (by omega)) w) (fun w => lowestF h1 h2 w)
end Go.Proofs.YtfmakoiiibacjaaDoor
namespace Go.Proofs.YtfmakoiiibacjaaDoor
open Go.RowKit
theorem frR_lt32 (q : Rat) {p : Nat} (hp : p < 4294967296) : frR q p < 4294967296 := by
 unfold frR; split
 ·exact rsd_lt32 _ hp
 ·omega
end Go.Proofs.YtfmakoiiibacjaaDoor
namespace Go.Proofs.YtfmakoiiibacjaaDoor
/-- Every operation waits for earlier ones alone, and what comes behind it waits for it or is apart from it. -/
def fastFrom (md : Region.Mode) (ops : Array Oper) : Nat → List Oper → Bool
 | _, [] => true
 | k, o :: l => (o.after.all fun e => !Region.binds md e || decide (e.on < k)) &&
   (l.all fun oj => (oj.after.any fun e => Region.binds md e && e.on == k) || o.apart ops oj) && fastFrom md ops (k + 1) l
def fastB (md : Region.Mode) (l : List Oper) : Bool := Region.noSelect l.toArray && fastFrom md l.toArray 0 l
def preL (s n : Nat) : Array Bool := ((List.range s).map fun i => decide (i < n)).toArray
theorem preL_get (s n i : Nat) (d : Bool) : (preL s n).getD i d = if i < s then decide (i < n) else d := by
 unfold preL
 by_cases h : i < s
 ·simp [h]
 ·simp [h]
theorem preL_set (s n : Nat) : (preL s n).setIfInBounds n true = preL s (n + 1) := by
 apply Array.ext
 ·simp [preL]
 ·intro i h1 h2
  simp only [preL, List.setIfInBounds_toArray, List.getElem_toArray]
  by_cases e : n = i
  ·subst e; simp
  ·rw [List.getElem_set_ne e]
   simp only [List.getElem_map, List.getElem_range]
   by_cases h : i < n
   ·rw [decide_eq_true h, decide_eq_true (by omega)]
   ·rw [decide_eq_false h, decide_eq_false (by omega)]
theorem preL_zero (s : Nat) : preL s 0 = Array.replicate s false := by
 apply Array.ext
 ·simp [preL]
 ·intro i h1 h2; simp [preL]
theorem lexFrom_of_fast {md : Region.Mode} {ops : Array Oper} : ∀ (l : List Oper) (k : Nat), (∀ j, l[j]? = ops[k + j]?) → k + l.length = ops.size → fastFrom md ops k l = true → Region.lexFrom md ops l.length k (preL ops.size k) = true
 | [], k, hl, hs, _ => by
  have : Region.ready md ops (preL ops.size k) = [] := by
   apply List.eq_nil_iff_forall_not_mem.2
   intro j hj
   obtain ⟨h1, o, ho, -⟩ := mem_ready.1 hj
   have hj' : j < ops.size := (Array.getElem?_eq_some_iff.1 ho).1
   rw [preL_get, if_pos hj', decide_eq_true (by simp at hs; omega)] at h1
   cases h1
  simp [Region.lexFrom, this]
 | o :: l, k, hl, hs, h => by
  have h0 : ops[k]? = some o := by simpa using (hl 0).symm
  have hk : k < ops.size := (Array.getElem?_eq_some_iff.1 h0).1
  simp only [fastFrom, Bool.and_eq_true] at h
  obtain ⟨⟨hw, hf⟩, hr⟩ := h
  simp only [List.length_cons, Region.lexFrom, Bool.and_eq_true]
  refine ⟨⟨List.contains_iff_mem.2 (mem_ready.2 ⟨by rw [preL_get, if_pos hk, decide_eq_false (by omega)], o, h0, fun e he hb => ?_⟩), ?_⟩, ?_⟩
  ·have h1 := (Array.all_eq_true_iff_forall_mem.1 hw) e he
   simp only [hb, Bool.not_true, Bool.false_or, decide_eq_true_eq] at h1
   rw [preL_get, if_pos (by omega), decide_eq_true h1]
  ·simp only [Region.free, h0, List.all_eq_true, List.mem_range]
   intro j hj
   by_cases e : j = k
   ·simp [e]
   ·by_cases hjk : j < k
    ·rw [preL_get, if_pos hj, decide_eq_true hjk]; simp
    ·have h2 : l[j - k - 1]? = ops[j]? := by
      have := hl (j - k)
      rw [show k + (j - k) = j by omega] at this
      rw [← this, show j - k = (j - k - 1) + 1 by omega, List.getElem?_cons_succ]
      rfl
     rw [Array.getElem?_eq_getElem hj] at h2
     have h3 := (List.all_eq_true.1 hf) ops[j] (List.mem_of_getElem? h2)
     rw [Array.getElem?_eq_getElem hj]
     simp only [Bool.or_eq_true] at h3 ⊢
     exact .inr h3
  ·rw [preL_set]
   exact lexFrom_of_fast l (k + 1) (fun j => by have := hl (j + 1); simpa [Nat.add_assoc, Nat.add_comm 1 j] using this) (by simp at hs; omega) hr
theorem lexB_of_fast {md : Region.Mode} {l : List Oper} (h : fastB md l = true) : Region.lexB md l.toArray = true := by
 simp only [fastB, Bool.and_eq_true] at h
 simp only [Region.lexB, Bool.and_eq_true]
 refine ⟨h.1, ?_⟩
 have := lexFrom_of_fast (md := md) (ops := l.toArray) l 0 (fun j => by simp) (by simp) h.2
 rw [preL_zero] at this
 simpa using this
end Go.Proofs.YtfmakoiiibacjaaDoor
namespace Go.Proofs.YtfmakoiiibacjaaDoor
open Go.RowKit
theorem adM {p x y r : Nat} (hp : p < 4294967296) (hx : x < 4294967296) (hy : y < 4294967296) (h : rsd (x + y) p = r) (w : World) :
  Calls Tryd.prog 15 #[.int .u32 (x : Int), .int .u32 (y : Int), .int .u32 (p : Int)] w fun e w' => e = .returned (.int .u32 (r : Int)) ∧ Below w.heap.size w w' := toBelow (by have := madd_any x y p hx hy hp w; rwa [h] at this)
theorem suM {p x y r : Nat} (hp : p < 4294967296) (hx : x < 4294967296) (hy : y < 4294967296) (h : subN x y p = r) (w : World) :
  Calls Tryd.prog 17 #[.int .u32 (x : Int), .int .u32 (y : Int), .int .u32 (p : Int)] w fun e w' => e = .returned (.int .u32 (r : Int)) ∧ Below w.heap.size w w' := toBelow (by have := msub_any x y p hx hy hp w; rwa [h] at this)
end Go.Proofs.YtfmakoiiibacjaaDoor
namespace Go.Proofs.YtfmakoiiibacjaaDoor
open Go.ChangeShapes Go.WideShapes Go.ChangeAt Go.RowKit
theorem laidOut : laidOutB Tryd.prog = true := by kernel_rfl
section
variable {H : Type} {enc : TypeId × Value → H} {P : Program} {w : World} {base : Nat} {spare : Nat → Bool} {held : Bool}
end
end Go.Proofs.YtfmakoiiibacjaaDoor
namespace Go.Proofs.YtfmakoiiibacjaaDoor
open Go.RowKit
attribute [local irreducible] lo hs sm s64 c64 d64 b64 mh ml pd pc qd qc val hiB str cmpI srD lz nb zl zh zs
set_option maxHeartbeats 4000000 in
set_option maxRecDepth 100000 in
theorem gden_w (s : Bool) (a b : Option Addr) (n c m d : Nat) (w : World) :
  Calls Tryd.prog 52 #[.agg #[.bool s, .slice a n c, .slice b m d]] w fun xe w' => xe = .returned (.agg #[.bool false, .slice b m d]) ∧ Below w.heap.size w w' := by
 have hL0 : GL w w [] := GL.start w
 replace hL0 := ((hL0.new rfl [.bool s, .slice a n c, .slice b m d] 43).new (K := w.heap.size + 1) (szA _ _) [.bool false, .slice b m d] 41)
 generalize hweq : ((w.alloc (.cells #[.bool s, .slice a n c, .slice b m d] 43)).alloc (.cells #[.bool false, .slice b m d] 41)) = x1 at hL0
 go_enter Tryd.func52, Tryd.ntmps52
 have hN0 := cells_of _ 0 [] rfl (hL0.get _ _ List.mem_cons_self)
 simp only [cellsF, and_true, Nat.zero_add, Nat.reduceAdd] at hN0
 have hN1 := cells_of _ 0 [] rfl (hL0.get _ _ (List.mem_cons_of_mem _ List.mem_cons_self))
 simp only [cellsF, and_true, Nat.zero_add, Nat.reduceAdd] at hN1
 go_wp2_with fail
 exact bodyPost_ret (v := .agg #[.bool false, .slice b m d]) (by simp [results, Tryd.results52, go_sem, hN0 ,hN1]) rfl ⟨rfl, hL0.bl⟩
set_option maxHeartbeats 4000000 in
set_option maxRecDepth 100000 in
theorem gof_w (s : Bool) (a b : Option Addr) (n c m d : Nat) (y z x : Int) (p q e : Nat) (K : World → Prop) (hK : Keeps K) (HZ : RK K 23 #[.agg #[.bool s, .slice a n c]] (intV z)) (HD : RT 52 #[.agg #[.bool s, .slice a n c, .slice b m d]] (.agg #[.bool false, .slice b m d])) (L : World → Prop) (hL : Keeps L) (HY : RK L 23 #[.agg #[.bool false, .slice b m d]] (intV y)) (HA : RT 51 #[intV y] (natV p)) (HO : RT 53 #[.int .u64 1] (natV 1)) (HP : RT 50 #[natV p, natV 1] (natV q)) (HF : RT 49 #[intV z, natV q] (.tuple #[frV x e, .int .i64 0])) (w : World) (kK : K w) (kL : L w) :
  Calls Tryd.prog 28 #[.agg #[.bool s, .slice a n c, .slice b m d]] w fun xe w' => xe = .returned (frV x e) ∧ Below w.heap.size w w' := by
 have hL0 : GL w w [] := GL.start w
 replace hK := Lib.hid hK
 replace HZ := Lib.hid HZ
 replace HD := Lib.hid HD
 replace hL := Lib.hid hL
 replace HY := Lib.hid HY
 replace HA := Lib.hid HA
 replace HO := Lib.hid HO
 replace HP := Lib.hid HP
 replace HF := Lib.hid HF
 replace hL0 := ((hL0.new rfl [.bool s, .slice a n c, .slice b m d] 43).new (K := w.heap.size + 1) (szA _ _) [.int .u64 0, .string ⟨#[]⟩, .bool false, .int .u64 0, .string ⟨#[]⟩] 53)
 generalize hweq : ((w.alloc (.cells #[.bool s, .slice a n c, .slice b m d] 43)).alloc (.cells #[.int .u64 0, .string ⟨#[]⟩, .bool false, .int .u64 0, .string ⟨#[]⟩] 53)) = x1 at hL0
 go_enter Tryd.func28, Tryd.ntmps28
 go_upto_region 1 with fail
 have kK1 := hK.out.at hL0.bl kK
 have kL1 := hL.out.at hL0.bl kL
 clear hweq
 refine region_gh (by kernel_rfl) (by kernel_rfl) ?_
 refine lex_seg (gl := []) 13 (by kernel_rfl) ?_
 intro α iα F hF1 hF2
 have hq := GL.seg hF1 hL0
 simp only [fcC, cellsC, and_true, Nat.zero_add, Nat.reduceAdd] at hq
 simp only [List.take_succ_cons, List.take_zero, List.drop_succ_cons, List.drop_zero, List.take_nil, List.drop_nil]
 repeat (go_big_quiet_step (first | fail | (go_at_call 23; with_reducible exact seg_callK hK.out hF1 hF2 kK1 HZ.out _) | (go_at_call 52; with_reducible exact seg_call hF2 HD.out _) | (go_at_call 23; with_reducible exact seg_callK hL.out hF1 hF2 kL1 HY.out _) | (go_at_call 51; with_reducible exact seg_call hF2 HA.out _) | (go_at_call 53; with_reducible exact seg_call hF2 HO.out _) | (go_at_call 50; with_reducible exact seg_call hF2 HP.out _) | (go_at_call 49; with_reducible exact seg_call hF2 HF.out _)))
 refine wpQuiet_nil ?_
 clear hq hF1 hF2 iα F α
 refine lex_new [.int .u64 0, .string ⟨#[]⟩, .bool false, .int .u64 0, .string ⟨#[]⟩] 3 53 53 rfl rfl (of_decide_eq_true (by kernel_rfl)) (by kernel_rfl) rfl new_frac ?_
 simp only [Act.put, List.setIfInBounds_toArray, List.set_cons_succ, List.set_cons_zero]
 refine lex_put [.int .u64 ((zl x : Nat) : Int), .string (zh x), .bool (zs x), .int .u64 ((lo e : Nat) : Int), .string (hs e)] [.int .u64 0, .string ⟨#[]⟩, .bool false, .int .u64 0, .string ⟨#[]⟩] 3 53 (.tmp 16) rfl (by kernel_rfl) (by simp [toG, upd]) rfl (fun w k h => put_frac _ _ _ _ _ _ _ _ _ _ w k h) ?_
 simp only [Act.put]
 refine lex_seg (gl := [(3, [.int .u64 ((zl x : Nat) : Int), .string (zh x), .bool (zs x), .int .u64 ((lo e : Nat) : Int), .string (hs e)], true), (3, [.int .u64 0, .string ⟨#[]⟩, .bool false, .int .u64 0, .string ⟨#[]⟩], false)]) 1 (by kernel_rfl) ?_
 intro α iα F hF1 hF2
 have hq := GL.seg hF1 hL0
 simp only [fcC, cellsC, and_true, Nat.zero_add, Nat.reduceAdd] at hq
 simp only [List.take_succ_cons, List.take_zero, List.drop_succ_cons, List.drop_zero, List.take_nil, List.drop_nil]
 repeat (go_big_quiet_step (first | fail | (go_at_call 23; with_reducible exact seg_callK hK.out hF1 hF2 kK1 HZ.out _) | (go_at_call 52; with_reducible exact seg_call hF2 HD.out _) | (go_at_call 23; with_reducible exact seg_callK hL.out hF1 hF2 kL1 HY.out _) | (go_at_call 51; with_reducible exact seg_call hF2 HA.out _) | (go_at_call 53; with_reducible exact seg_call hF2 HO.out _) | (go_at_call 50; with_reducible exact seg_call hF2 HP.out _) | (go_at_call 49; with_reducible exact seg_call hF2 HF.out _)))
 refine wpQuiet_nil ?_
 clear hq hF1 hF2 iα F α
 refine lexG_nil ?_
 intro κ x2 hS
 replace hL0 := hL0.ghs hS [(3, [.int .u64 ((zl x : Nat) : Int), .string (zh x), .bool (zs x), .int .u64 ((lo e : Nat) : Int), .string (hs e)])] (by simp) (by intro p hp; simp only [List.mem_cons, List.not_mem_nil, or_false] at hp; rcases hp with rfl <;> exact ⟨_, by simp only [toG, upd]; rfl⟩)
 simp only [List.map_cons, List.map_nil, List.cons_append, List.nil_append] at hL0
 simp only [over_toG, over_nil, Act.put, List.setIfInBounds_toArray, List.set_cons_succ, List.set_cons_zero]
 clear hS
 generalize κ 3 = k2_3 at *
 clear kK1 kL1
 have hA := hL0.fc
 simp only [fcG, cellsF, neK, and_true, ne_eq, Nat.zero_add, Nat.reduceAdd] at hA
 have hP := hL0.put 1 (w.heap.size + 1) _ rfl [.int .u64 ((zl x : Nat) : Int), .string (zh x), .bool (zs x), .int .u64 ((lo e : Nat) : Int), .string (hs e)] rfl
 simp only [setAll, List.set_cons_zero, List.set_cons_succ] at hP
 generalize hput1 : (((((x2.setCell ⟨w.heap.size + 1, 0, none⟩ (.int .u64 ((zl x : Nat) : Int))).setCell ⟨w.heap.size + 1, 1, none⟩ (.string (zh x))).setCell ⟨w.heap.size + 1, 2, none⟩ (.bool (zs x))).setCell ⟨w.heap.size + 1, 3, none⟩ (.int .u64 ((lo e : Nat) : Int))).setCell ⟨w.heap.size + 1, 4, none⟩ (.string (hs e))) = x3 at hP
 have hB1 := hP.fc
 simp only [fcG, cellsF, neK, and_true, ne_eq, Nat.zero_add, Nat.reduceAdd] at hB1
 replace hL0 := hP
 go_wp2_with fail
 exact bodyPost_ret (v := frV x e) (by simp [results, Tryd.results28, go_sem, hB1]) rfl ⟨rfl, hL0.bl⟩
end Go.Proofs.YtfmakoiiibacjaaDoor
namespace Go.Proofs.YtfmakoiiibacjaaDoor
open Go.RowKit
attribute [local irreducible] lo hs sm s64 c64 d64 b64 mh ml pd pc qd qc val hiB str cmpI srD lz nb zl zh zs fe
/-- A slice's fractions. -/
structure FS (w : World) (g : Nat) (qs : List Rat) : Prop where
 cell : ∀ i (h : i < qs.length), w.cell? ⟨g, i * 5, none⟩ = some (.int .u64 ((zl qs[i].num : Nat) : Int)) ∧ w.cell? ⟨g, i * 5 + 1, none⟩ = some (.string (zh qs[i].num)) ∧ w.cell? ⟨g, i * 5 + 2, none⟩ = some (.bool (zs qs[i].num)) ∧
  w.cell? ⟨g, i * 5 + 3, none⟩ = some (.int .u64 ((lo (fe qs[i]) : Nat) : Int)) ∧ w.cell? ⟨g, i * 5 + 4, none⟩ = some (.string (hs (fe qs[i])))
 lt : g < w.heap.size
theorem FS.below {w w' : World} {g : Nat} {qs : List Rat} (h : FS w g qs) (hb : Below w.heap.size w w') : FS w' g qs := by
 have hs := hb.size
 have hl := h.lt
 refine ⟨fun i hi => ?_, by omega⟩
 obtain ⟨h0, h1, h2, h3, h4⟩ := h.cell i hi
 exact ⟨(hb.cell (p := ⟨g, i * 5, none⟩) hl).trans h0, (hb.cell (p := ⟨g, i * 5 + 1, none⟩) hl).trans h1, (hb.cell (p := ⟨g, i * 5 + 2, none⟩) hl).trans h2, (hb.cell (p := ⟨g, i * 5 + 3, none⟩) hl).trans h3, (hb.cell (p := ⟨g, i * 5 + 4, none⟩) hl).trans h4⟩
def SlQ (w : World) (v : Value) (qs : List Rat) : Prop := (∃ ao c, v = .slice ao 0 c ∧ qs = []) ∨ ∃ g c, v = .slice (some ⟨g, 0, none⟩) qs.length c ∧ FS w g qs
theorem SlQ.below {w w' : World} {v : Value} {qs : List Rat} (h : SlQ w v qs) (hb : Below w.heap.size w w') : SlQ w' v qs := by
 rcases h with h | ⟨g, c, h1, h2⟩
 ·exact .inl h
 ·exact .inr ⟨g, c, h1, h2.below hb⟩
theorem SlQ.keeps (v : Value) (qs : List Rat) : Keeps (fun w => SlQ w v qs) := fun _ _ hb h => h.below hb
end Go.Proofs.YtfmakoiiibacjaaDoor
namespace Go.Proofs.YtfmakoiiibacjaaDoor
open Go.RowKit
attribute [local irreducible] lo hs sm s64 c64 d64 b64 mh ml pd pc qd qc val hiB str cmpI srD lz nb zl zh zs
/-- A Great as plain data. -/
def gmade (s : Bool) (l k : List Nat) : Rat := mkRat (zmade s l) (made k + 1)
theorem gof_any (s : Bool) (a b : Option Addr) (n c m d : Nat) (l k : List Nat) (hl : l.length ≤ 1000) (hk : k.length ≤ 1000) (w : World) (h1 : Ws w (.slice a n c) l) (h2 : Ws w (.slice b m d) k) :
  Calls Tryd.prog 28 #[.agg #[.bool s, .slice a n c, .slice b m d]] w fun xe w' => xe = .returned (fracV (gmade s l k)) ∧ Below w.heap.size w w' := by
 have d1 := zmade_dI (s := s) h1.lt
 have d2 := made_digs h2.lt
 have dz1 : (digs 1).length ≤ 1 := digs_length_iff.2 (by rw [Nat.pow_one]; exact Bs_gt)
 have d3 : (digs (made k + 1)).length ≤ 1001 := Nat.le_trans (digs_add_le (k := 1000) (by omega) (Nat.le_trans dz1 (by omega))) (by omega)
 refine gof_w s a b n c m d (zmade false k) (zmade s l) _ (made k) (made k + 1) _ _ (Keeps.ws _ l) (fun w h => zof_any s a n c l hl w h) (fun w => gden_w s a b n c m d w) _ (Keeps.ws _ k) (fun w h => zof_any false b m d k hk w h) (fun w => ?_) one_o (fun w => add_any (made k) 1 (by omega) (by omega) w) (fromF (zmade s l) (made k + 1) (by omega) (by omega) (by omega)) w h1 h2
 have h := absI (zmade false k) w
 rw [show (zmade false k).natAbs = made k from rfl] at h
 exact h
theorem gmade_sz {s : Bool} {w : World} {a b : Option Addr} {n c m d : Nat} {l k : List Nat} {most : Nat} (hp : 0 < most) (h1 : Ws w (.slice a n c) l) (h2 : Ws w (.slice b m d) k) (hn : n ≤ most) (hm : m ≤ most) : Sz (gmade s l k) (most + 1) := by
 have e1 := h1.len
 have e2 := h2.len
 have d1 := zmade_dI (s := s) h1.lt
 have d2 := made_digs h2.lt
 refine Sz.mk (by omega) ?_ (by omega)
 have dz1 : (digs 1).length ≤ 1 := digs_length_iff.2 (by rw [Nat.pow_one]; exact Bs_gt)
 exact digs_add_le (k := most) (by omega) (by omega)
end Go.Proofs.YtfmakoiiibacjaaDoor
namespace Go.Proofs.YtfmakoiiibacjaaDoor
open Go.RowKit
attribute [local irreducible] lo hs sm s64 c64 d64 b64 mh ml pd pc qd qc val hiB str cmpI srD lz nb zl zh zs fe rsd subN invV invB rsz frR frB
set_option maxHeartbeats 4000000 in
set_option maxRecDepth 100000 in
theorem mrings_big0 (sx sy : Bool) (ax qx ay qy : Option Addr) (nx cx mx dx ny cy my dy : Nat) (p : Int) (KT : World → Prop) (hKT : Keeps KT) (HW : ∀ w, KT w → Calls Tryd.prog 12 #[] w fun xe w' => xe = .returned (.bool true) ∧ Below w.heap.size w w') (l0 : decide ((6 : Int) < ((nx : Nat) : Int)) = true) (k0 : decide (6 < nx) = true) (w : World) (kKT : KT w) :
  Calls Tryd.prog 7 #[.agg #[.bool sx, .slice ax nx cx, .slice qx mx dx], .agg #[.bool sy, .slice ay ny cy, .slice qy my dy], .int .u32 p] w fun xe w' => xe = .returned (.bool true) ∧ Below w.heap.size w w' := by
 have hL0 : GL w w [] := GL.start w
 replace hKT := Lib.hid hKT
 replace HW := Lib.hid HW
 replace hL0 := ((hL0.new rfl [.bool sx, .slice ax nx cx, .slice qx mx dx] 43).new (K := w.heap.size + 1) (szA _ _) [.bool sy, .slice ay ny cy, .slice qy my dy] 43)
 generalize hweq : ((w.alloc (.cells #[.bool sx, .slice ax nx cx, .slice qx mx dx] 43)).alloc (.cells #[.bool sy, .slice ay ny cy, .slice qy my dy] 43)) = x1 at hL0
 go_enter Tryd.func7, Tryd.ntmps7
 have hN0 := cells_of _ 0 [] rfl (hL0.get _ _ (List.mem_cons_of_mem _ List.mem_cons_self))
 simp only [cellsF, and_true, Nat.zero_add, Nat.reduceAdd] at hN0
 go_wp2_with fail
 clear hN0
 with_reducible refine Calls.mono (HW.out _ (hKT.out.at hL0.bl kKT)) ?_
 rintro e x2 ⟨rfl, hb⟩
 replace hL0 := hL0.call hb
 clear hb hweq
 go_wp2_with fail
 exact bodyPost_ret (v := .bool true) (by simp [results, Tryd.results7, go_sem]) rfl ⟨rfl, hL0.bl⟩
set_option maxHeartbeats 4000000 in
set_option maxRecDepth 100000 in
theorem mrings_big1 (sx sy : Bool) (ax qx ay qy : Option Addr) (nx cx mx dx ny cy my dy : Nat) (p : Int) (KT : World → Prop) (hKT : Keeps KT) (HW : ∀ w, KT w → Calls Tryd.prog 12 #[] w fun xe w' => xe = .returned (.bool true) ∧ Below w.heap.size w w') (l0 : decide ((6 : Int) < ((nx : Nat) : Int)) = false) (k0 : decide (6 < nx) = false) (l1 : decide ((6 : Int) < ((mx : Nat) : Int)) = true) (k1 : decide (6 < mx) = true) (w : World) (kKT : KT w) :
  Calls Tryd.prog 7 #[.agg #[.bool sx, .slice ax nx cx, .slice qx mx dx], .agg #[.bool sy, .slice ay ny cy, .slice qy my dy], .int .u32 p] w fun xe w' => xe = .returned (.bool true) ∧ Below w.heap.size w w' := by
 have hL0 : GL w w [] := GL.start w
 replace hKT := Lib.hid hKT
 replace HW := Lib.hid HW
 replace hL0 := ((hL0.new rfl [.bool sx, .slice ax nx cx, .slice qx mx dx] 43).new (K := w.heap.size + 1) (szA _ _) [.bool sy, .slice ay ny cy, .slice qy my dy] 43)
 generalize hweq : ((w.alloc (.cells #[.bool sx, .slice ax nx cx, .slice qx mx dx] 43)).alloc (.cells #[.bool sy, .slice ay ny cy, .slice qy my dy] 43)) = x1 at hL0
 go_enter Tryd.func7, Tryd.ntmps7
 have hN0 := cells_of _ 0 [] rfl (hL0.get _ _ (List.mem_cons_of_mem _ List.mem_cons_self))
 simp only [cellsF, and_true, Nat.zero_add, Nat.reduceAdd] at hN0
 go_wp2_with fail
 clear hN0
 with_reducible refine Calls.mono (HW.out _ (hKT.out.at hL0.bl kKT)) ?_
 rintro e x2 ⟨rfl, hb⟩
 replace hL0 := hL0.call hb
 clear hb hweq
 go_wp2_with fail
 exact bodyPost_ret (v := .bool true) (by simp [results, Tryd.results7, go_sem]) rfl ⟨rfl, hL0.bl⟩
set_option maxHeartbeats 4000000 in
set_option maxRecDepth 100000 in
theorem mrings_big2 (sx sy : Bool) (ax qx ay qy : Option Addr) (nx cx mx dx ny cy my dy : Nat) (p : Int) (KT : World → Prop) (hKT : Keeps KT) (HW : ∀ w, KT w → Calls Tryd.prog 12 #[] w fun xe w' => xe = .returned (.bool true) ∧ Below w.heap.size w w') (l0 : decide ((6 : Int) < ((nx : Nat) : Int)) = false) (k0 : decide (6 < nx) = false) (l1 : decide ((6 : Int) < ((mx : Nat) : Int)) = false) (k1 : decide (6 < mx) = false) (l2 : decide ((6 : Int) < ((ny : Nat) : Int)) = true) (k2 : decide (6 < ny) = true) (w : World) (kKT : KT w) :
  Calls Tryd.prog 7 #[.agg #[.bool sx, .slice ax nx cx, .slice qx mx dx], .agg #[.bool sy, .slice ay ny cy, .slice qy my dy], .int .u32 p] w fun xe w' => xe = .returned (.bool true) ∧ Below w.heap.size w w' := by
 have hL0 : GL w w [] := GL.start w
 replace hKT := Lib.hid hKT
 replace HW := Lib.hid HW
 replace hL0 := ((hL0.new rfl [.bool sx, .slice ax nx cx, .slice qx mx dx] 43).new (K := w.heap.size + 1) (szA _ _) [.bool sy, .slice ay ny cy, .slice qy my dy] 43)
 generalize hweq : ((w.alloc (.cells #[.bool sx, .slice ax nx cx, .slice qx mx dx] 43)).alloc (.cells #[.bool sy, .slice ay ny cy, .slice qy my dy] 43)) = x1 at hL0
 go_enter Tryd.func7, Tryd.ntmps7
 have hN0 := cells_of _ 0 [] rfl (hL0.get _ _ List.mem_cons_self)
 simp only [cellsF, and_true, Nat.zero_add, Nat.reduceAdd] at hN0
 have hN1 := cells_of _ 0 [] rfl (hL0.get _ _ (List.mem_cons_of_mem _ List.mem_cons_self))
 simp only [cellsF, and_true, Nat.zero_add, Nat.reduceAdd] at hN1
 go_wp2_with fail
 clear hN0 hN1
 with_reducible refine Calls.mono (HW.out _ (hKT.out.at hL0.bl kKT)) ?_
 rintro e x2 ⟨rfl, hb⟩
 replace hL0 := hL0.call hb
 clear hb hweq
 go_wp2_with fail
 exact bodyPost_ret (v := .bool true) (by simp [results, Tryd.results7, go_sem]) rfl ⟨rfl, hL0.bl⟩
set_option maxHeartbeats 4000000 in
set_option maxRecDepth 100000 in
theorem mrings_big3 (sx sy : Bool) (ax qx ay qy : Option Addr) (nx cx mx dx ny cy my dy : Nat) (p : Int) (KT : World → Prop) (hKT : Keeps KT) (HW : ∀ w, KT w → Calls Tryd.prog 12 #[] w fun xe w' => xe = .returned (.bool true) ∧ Below w.heap.size w w') (l0 : decide ((6 : Int) < ((nx : Nat) : Int)) = false) (k0 : decide (6 < nx) = false) (l1 : decide ((6 : Int) < ((mx : Nat) : Int)) = false) (k1 : decide (6 < mx) = false) (l2 : decide ((6 : Int) < ((ny : Nat) : Int)) = false) (k2 : decide (6 < ny) = false) (l3 : decide ((6 : Int) < ((my : Nat) : Int)) = true) (k3 : decide (6 < my) = true) (w : World) (kKT : KT w) :
  Calls Tryd.prog 7 #[.agg #[.bool sx, .slice ax nx cx, .slice qx mx dx], .agg #[.bool sy, .slice ay ny cy, .slice qy my dy], .int .u32 p] w fun xe w' => xe = .returned (.bool true) ∧ Below w.heap.size w w' := by
 have hL0 : GL w w [] := GL.start w
 replace hKT := Lib.hid hKT
 replace HW := Lib.hid HW
 replace hL0 := ((hL0.new rfl [.bool sx, .slice ax nx cx, .slice qx mx dx] 43).new (K := w.heap.size + 1) (szA _ _) [.bool sy, .slice ay ny cy, .slice qy my dy] 43)
 generalize hweq : ((w.alloc (.cells #[.bool sx, .slice ax nx cx, .slice qx mx dx] 43)).alloc (.cells #[.bool sy, .slice ay ny cy, .slice qy my dy] 43)) = x1 at hL0
 go_enter Tryd.func7, Tryd.ntmps7
 have hN0 := cells_of _ 0 [] rfl (hL0.get _ _ List.mem_cons_self)
 simp only [cellsF, and_true, Nat.zero_add, Nat.reduceAdd] at hN0
 have hN1 := cells_of _ 0 [] rfl (hL0.get _ _ (List.mem_cons_of_mem _ List.mem_cons_self))
 simp only [cellsF, and_true, Nat.zero_add, Nat.reduceAdd] at hN1
 go_wp2_with fail
 clear hN0 hN1
 with_reducible refine Calls.mono (HW.out _ (hKT.out.at hL0.bl kKT)) ?_
 rintro e x2 ⟨rfl, hb⟩
 replace hL0 := hL0.call hb
 clear hb hweq
 go_wp2_with fail
 exact bodyPost_ret (v := .bool true) (by simp [results, Tryd.results7, go_sem]) rfl ⟨rfl, hL0.bl⟩
set_option maxHeartbeats 4000000 in
set_option maxRecDepth 100000 in
theorem mrings_no1 (sx sy : Bool) (ax qx ay qy : Option Addr) (nx cx mx dx ny cy my dy : Nat) (p m n z1 z2 z3 r1 r2 r3 u v r s : Int) (k : Bool) (a b : Rat) (Kx : World → Prop) (hKx : Keeps Kx) (ZX : ∀ w, Kx w → Calls Tryd.prog 23 #[.agg #[.bool sx, .slice ax nx cx]] w fun xe w' => xe = .returned (intV m) ∧ Below w.heap.size w w') (Ky : World → Prop) (hKy : Keeps Ky) (ZY : ∀ w, Ky w → Calls Tryd.prog 23 #[.agg #[.bool sy, .slice ay ny cy]] w fun xe w' => xe = .returned (intV n) ∧ Below w.heap.size w w') (I1 : ∀ w, Calls Tryd.prog 25 #[intV m, intV n] w fun xe w' => xe = .returned (intV z1) ∧ Below w.heap.size w w') (O1 : ∀ w, Calls Tryd.prog 24 #[intV z1, .int .u32 p] w fun xe w' => xe = .returned (.int .u32 r1) ∧ Below w.heap.size w w') (O2 : ∀ w, Calls Tryd.prog 24 #[intV m, .int .u32 p] w fun xe w' => xe = .returned (.int .u32 u) ∧ Below w.heap.size w w') (O3 : ∀ w, Calls Tryd.prog 24 #[intV n, .int .u32 p] w fun xe w' => xe = .returned (.int .u32 v) ∧ Below w.heap.size w w') (A1 : ∀ w, Calls Tryd.prog 15 #[.int .u32 u, .int .u32 v, .int .u32 p] w fun xe w' => xe = .returned (.int .u32 r1) ∧ Below w.heap.size w w') (I2 : ∀ w, Calls Tryd.prog 26 #[intV m, intV n] w fun xe w' => xe = .returned (intV z2) ∧ Below w.heap.size w w') (O4 : ∀ w, Calls Tryd.prog 24 #[intV z2, .int .u32 p] w fun xe w' => xe = .returned (.int .u32 r2) ∧ Below w.heap.size w w') (M1 : ∀ w, Calls Tryd.prog 19 #[.int .u32 u, .int .u32 v, .int .u32 p] w fun xe w' => xe = .returned (.int .u32 r2) ∧ Below w.heap.size w w') (I3 : ∀ w, Calls Tryd.prog 27 #[intV m] w fun xe w' => xe = .returned (intV z3) ∧ Below w.heap.size w w') (O5 : ∀ w, Calls Tryd.prog 24 #[intV z3, .int .u32 p] w fun xe w' => xe = .returned (.int .u32 r3) ∧ Below w.heap.size w w') (S1 : ∀ w, Calls Tryd.prog 17 #[.int .u32 0, .int .u32 u, .int .u32 p] w fun xe w' => xe = .returned (.int .u32 r3) ∧ Below w.heap.size w w') (GX : ∀ w, Kx w → Calls Tryd.prog 28 #[.agg #[.bool sx, .slice ax nx cx, .slice qx mx dx]] w fun xe w' => xe = .returned (fracV a) ∧ Below w.heap.size w w') (GY : ∀ w, Ky w → Calls Tryd.prog 28 #[.agg #[.bool sy, .slice ay ny cy, .slice qy my dy]] w fun xe w' => xe = .returned (fracV b) ∧ Below w.heap.size w w') (F1 : ∀ w, Calls Tryd.prog 29 #[fracV a, .int .u32 p] w fun xe w' => xe = .returned (.tuple #[.int .u32 r, .bool false]) ∧ Below w.heap.size w w') (F2 : ∀ w, Calls Tryd.prog 29 #[fracV b, .int .u32 p] w fun xe w' => xe = .returned (.tuple #[.int .u32 s, .bool k]) ∧ Below w.heap.size w w') (KT : World → Prop) (hKT : Keeps KT) (HW : ∀ w, KT w → Calls Tryd.prog 12 #[] w fun xe w' => xe = .returned (.bool true) ∧ Below w.heap.size w w') (l0 : decide ((6 : Int) < ((nx : Nat) : Int)) = false) (k0 : decide (6 < nx) = false) (l1 : decide ((6 : Int) < ((mx : Nat) : Int)) = false) (k1 : decide (6 < mx) = false) (l2 : decide ((6 : Int) < ((ny : Nat) : Int)) = false) (k2 : decide (6 < ny) = false) (l3 : decide ((6 : Int) < ((my : Nat) : Int)) = false) (k3 : decide (6 < my) = false) (w : World) (kKx : Kx w) (kKy : Ky w) (kKT : KT w) :
  Calls Tryd.prog 7 #[.agg #[.bool sx, .slice ax nx cx, .slice qx mx dx], .agg #[.bool sy, .slice ay ny cy, .slice qy my dy], .int .u32 p] w fun xe w' => xe = .returned (.bool true) ∧ Below w.heap.size w w' := by
 have hL0 : GL w w [] := GL.start w
 replace hKx := Lib.hid hKx
 replace ZX := Lib.hid ZX
 replace hKy := Lib.hid hKy
 replace ZY := Lib.hid ZY
 replace I1 := Lib.hid I1
 replace O1 := Lib.hid O1
 replace O2 := Lib.hid O2
 replace O3 := Lib.hid O3
 replace A1 := Lib.hid A1
 replace I2 := Lib.hid I2
 replace O4 := Lib.hid O4
 replace M1 := Lib.hid M1
 replace I3 := Lib.hid I3
 replace O5 := Lib.hid O5
 replace S1 := Lib.hid S1
 replace GX := Lib.hid GX
 replace GY := Lib.hid GY
 replace F1 := Lib.hid F1
 replace F2 := Lib.hid F2
 replace hKT := Lib.hid hKT
 replace HW := Lib.hid HW
 replace hL0 := ((hL0.new rfl [.bool sx, .slice ax nx cx, .slice qx mx dx] 43).new (K := w.heap.size + 1) (szA _ _) [.bool sy, .slice ay ny cy, .slice qy my dy] 43)
 generalize hweq : ((w.alloc (.cells #[.bool sx, .slice ax nx cx, .slice qx mx dx] 43)).alloc (.cells #[.bool sy, .slice ay ny cy, .slice qy my dy] 43)) = x1 at hL0
 go_enter Tryd.func7, Tryd.ntmps7
 have hN0 := cells_of _ 0 [] rfl (hL0.get _ _ List.mem_cons_self)
 simp only [cellsF, and_true, Nat.zero_add, Nat.reduceAdd] at hN0
 have hN1 := cells_of _ 0 [] rfl (hL0.get _ _ (List.mem_cons_of_mem _ List.mem_cons_self))
 simp only [cellsF, and_true, Nat.zero_add, Nat.reduceAdd] at hN1
 go_upto_region 3 with fail
 have kKx1 := hKx.out.at hL0.bl kKx
 have kKy1 := hKy.out.at hL0.bl kKy
 clear hN0 hN1
 clear hweq
 refine region_gh (by kernel_rfl) (by kernel_rfl) ?_
 refine lex_seg (gl := []) 6 (by kernel_rfl) ?_
 intro α iα F hF1 hF2
 have hq := GL.seg hF1 hL0
 simp only [fcC, cellsC, and_true, Nat.zero_add, Nat.reduceAdd] at hq
 simp only [List.take_succ_cons, List.take_zero, List.drop_succ_cons, List.drop_zero, List.take_nil, List.drop_nil]
 repeat (go_big_quiet_step (first | fail | (go_at_call 23; with_reducible exact seg_callK hKx.out hF1 hF2 kKx1 ZX.out _) | (go_at_call 23; with_reducible exact seg_callK hKy.out hF1 hF2 kKy1 ZY.out _)))
 refine wpQuiet_nil ?_
 clear hq hF1 hF2 iα F α
 refine lex_new [.int .u64 0, .string ⟨#[]⟩, .bool false] 7 47 47 rfl rfl (of_decide_eq_true (by kernel_rfl)) (by kernel_rfl) rfl new_int ?_
 simp only [Act.put, List.setIfInBounds_toArray, List.set_cons_succ, List.set_cons_zero]
 refine lex_new [.int .u64 0, .string ⟨#[]⟩, .bool false] 8 47 47 rfl rfl (of_decide_eq_true (by kernel_rfl)) (by kernel_rfl) rfl new_int ?_
 simp only [Act.put, List.setIfInBounds_toArray, List.set_cons_succ, List.set_cons_zero]
 refine lex_put [.int .u64 ((zl m : Nat) : Int), .string (zh m), .bool (zs m)] [.int .u64 0, .string ⟨#[]⟩, .bool false] 7 47 (.tmp 46) rfl (by kernel_rfl) (by simp [toG, upd]) rfl (fun w k h => put_int _ _ _ _ _ _ w k h) ?_
 simp only [Act.put]
 refine lex_put [.int .u64 ((zl n : Nat) : Int), .string (zh n), .bool (zs n)] [.int .u64 0, .string ⟨#[]⟩, .bool false] 8 47 (.tmp 49) rfl (by kernel_rfl) (by simp [toG, upd]) rfl (fun w k h => put_int _ _ _ _ _ _ w k h) ?_
 simp only [Act.put]
 refine lexG_nil ?_
 intro κ x2 hS
 replace hL0 := hL0.ghs hS [(8, [.int .u64 ((zl n : Nat) : Int), .string (zh n), .bool (zs n)]), (7, [.int .u64 ((zl m : Nat) : Int), .string (zh m), .bool (zs m)])] (by simp) (by intro p hp; simp only [List.mem_cons, List.not_mem_nil, or_false] at hp; rcases hp with rfl | rfl <;> exact ⟨_, by simp only [toG, upd]; rfl⟩)
 simp only [List.map_cons, List.map_nil, List.cons_append, List.nil_append] at hL0
 simp only [over_toG, over_nil, Act.put, List.setIfInBounds_toArray, List.set_cons_succ, List.set_cons_zero]
 clear hS
 generalize κ 8 = k2_8 at *
 generalize κ 7 = k2_7 at *
 clear kKx1 kKy1
 go_upto_region 4 with fail
 obtain ⟨α, iα, F, hF1, hF2⟩ := cls x2
 have hq0 := cls_box hF1 hL0 _ _ List.mem_cons_self
 simp only [cellsC, and_true, Nat.zero_add, Nat.reduceAdd] at hq0
 have hq1 := cls_box hF1 hL0 _ _ (List.mem_cons_of_mem _ List.mem_cons_self)
 simp only [cellsC, and_true, Nat.zero_add, Nat.reduceAdd] at hq1
 refine region_cls (F := F) (by kernel_rfl) (lexB_of_fast (by kernel_rfl)) (cls_drew hF2) ?_
 repeat (go_big_quiet_step (first | fail | (go_at_call 25; with_reducible exact cls_call hF1 hF2 I1.out _) | (go_at_call 24; with_reducible exact cls_call hF1 hF2 O1.out _) | (go_at_call 24; with_reducible exact cls_call hF1 hF2 O2.out _) | (go_at_call 24; with_reducible exact cls_call hF1 hF2 O3.out _) | (go_at_call 15; with_reducible exact cls_call hF1 hF2 A1.out _) | (go_at_call 26; with_reducible exact cls_call hF1 hF2 I2.out _) | (go_at_call 24; with_reducible exact cls_call hF1 hF2 O4.out _) | (go_at_call 19; with_reducible exact cls_call hF1 hF2 M1.out _) | (go_at_call 27; with_reducible exact cls_call hF1 hF2 I3.out _) | (go_at_call 24; with_reducible exact cls_call hF1 hF2 O5.out _) | (go_at_call 17; with_reducible exact cls_call hF1 hF2 S1.out _)))
 refine wpQuiet_nil ?_
 rintro wq ⟨xq, rfl⟩
 replace hL0 := hL0.call (hF1 xq)
 clear  hq0 hq1 hF2
 generalize F xq = x3 at hL0 ⊢
 clear hF1 xq iα F α
 go_upto_region 6 with fail
 have kKx1 := hKx.out.at hL0.bl kKx
 have kKy1 := hKy.out.at hL0.bl kKy
 refine region_gh (by kernel_rfl) (by kernel_rfl) ?_
 refine lex_seg (gl := []) 4 (by kernel_rfl) ?_
 intro α iα F hF1 hF2
 have hq := GL.seg hF1 hL0
 simp only [fcC, cellsC, and_true, Nat.zero_add, Nat.reduceAdd] at hq
 simp only [List.take_succ_cons, List.take_zero, List.drop_succ_cons, List.drop_zero, List.take_nil, List.drop_nil]
 repeat (go_big_quiet_step (first | fail | (go_at_call 28; with_reducible exact seg_callK hKx.out hF1 hF2 kKx1 GX.out _) | (go_at_call 28; with_reducible exact seg_callK hKy.out hF1 hF2 kKy1 GY.out _)))
 refine wpQuiet_nil ?_
 clear hq hF1 hF2 iα F α
 refine lex_new [.int .u64 0, .string ⟨#[]⟩, .bool false, .int .u64 0, .string ⟨#[]⟩] 9 53 53 rfl rfl (of_decide_eq_true (by kernel_rfl)) (by kernel_rfl) rfl new_frac ?_
 simp only [Act.put, List.setIfInBounds_toArray, List.set_cons_succ, List.set_cons_zero]
 refine lex_new [.int .u64 0, .string ⟨#[]⟩, .bool false, .int .u64 0, .string ⟨#[]⟩] 10 53 53 rfl rfl (of_decide_eq_true (by kernel_rfl)) (by kernel_rfl) rfl new_frac ?_
 simp only [Act.put, List.setIfInBounds_toArray, List.set_cons_succ, List.set_cons_zero]
 refine lex_put [.int .u64 ((zl a.num : Nat) : Int), .string (zh a.num), .bool (zs a.num), .int .u64 ((lo (fe a) : Nat) : Int), .string (hs (fe a))] [.int .u64 0, .string ⟨#[]⟩, .bool false, .int .u64 0, .string ⟨#[]⟩] 9 53 (.tmp 93) rfl (by kernel_rfl) (by simp [toG, upd]) rfl (fun w k h => put_frac _ _ _ _ _ _ _ _ _ _ w k h) ?_
 simp only [Act.put]
 refine lex_put [.int .u64 ((zl b.num : Nat) : Int), .string (zh b.num), .bool (zs b.num), .int .u64 ((lo (fe b) : Nat) : Int), .string (hs (fe b))] [.int .u64 0, .string ⟨#[]⟩, .bool false, .int .u64 0, .string ⟨#[]⟩] 10 53 (.tmp 95) rfl (by kernel_rfl) (by simp [toG, upd]) rfl (fun w k h => put_frac _ _ _ _ _ _ _ _ _ _ w k h) ?_
 simp only [Act.put]
 refine lexG_nil ?_
 intro κ x4 hS
 replace hL0 := hL0.ghs hS [(10, [.int .u64 ((zl b.num : Nat) : Int), .string (zh b.num), .bool (zs b.num), .int .u64 ((lo (fe b) : Nat) : Int), .string (hs (fe b))]), (9, [.int .u64 ((zl a.num : Nat) : Int), .string (zh a.num), .bool (zs a.num), .int .u64 ((lo (fe a) : Nat) : Int), .string (hs (fe a))])] (by simp) (by intro p hp; simp only [List.mem_cons, List.not_mem_nil, or_false] at hp; rcases hp with rfl | rfl <;> exact ⟨_, by simp only [toG, upd]; rfl⟩)
 simp only [List.map_cons, List.map_nil, List.cons_append, List.nil_append] at hL0
 simp only [over_toG, over_nil, Act.put, List.setIfInBounds_toArray, List.set_cons_succ, List.set_cons_zero]
 clear hS
 generalize κ 10 = k4_10 at *
 generalize κ 9 = k4_9 at *
 clear kKx1 kKy1
 have hN0 := cells_of _ 0 [] rfl (hL0.get _ _ (List.mem_cons_of_mem _ List.mem_cons_self))
 simp only [cellsF, and_true, Nat.zero_add, Nat.reduceAdd] at hN0
 go_wp2_with fail
 clear hN0
 with_reducible refine Calls.mono (F1.out _) ?_
 rintro e x5 ⟨rfl, hb⟩
 replace hL0 := hL0.call hb
 clear hb
 have hN0 := cells_of _ 0 [] rfl (hL0.get _ _ List.mem_cons_self)
 simp only [cellsF, and_true, Nat.zero_add, Nat.reduceAdd] at hN0
 go_wp2_with fail
 clear hN0
 with_reducible refine Calls.mono (F2.out _) ?_
 rintro e x6 ⟨rfl, hb⟩
 replace hL0 := hL0.call hb
 clear hb
 go_wp2_with fail
 with_reducible refine Calls.mono (HW.out _ (hKT.out.at hL0.bl kKT)) ?_
 rintro e x7 ⟨rfl, hb⟩
 replace hL0 := hL0.call hb
 clear hb
 go_wp2_with fail
 exact bodyPost_ret (v := .bool true) (by simp [results, Tryd.results7, go_sem]) rfl ⟨rfl, hL0.bl⟩
set_option maxHeartbeats 4000000 in
set_option maxRecDepth 100000 in
theorem mrings_no2 (sx sy : Bool) (ax qx ay qy : Option Addr) (nx cx mx dx ny cy my dy : Nat) (p m n z1 z2 z3 r1 r2 r3 u v r s : Int) (a b : Rat) (Kx : World → Prop) (hKx : Keeps Kx) (ZX : ∀ w, Kx w → Calls Tryd.prog 23 #[.agg #[.bool sx, .slice ax nx cx]] w fun xe w' => xe = .returned (intV m) ∧ Below w.heap.size w w') (Ky : World → Prop) (hKy : Keeps Ky) (ZY : ∀ w, Ky w → Calls Tryd.prog 23 #[.agg #[.bool sy, .slice ay ny cy]] w fun xe w' => xe = .returned (intV n) ∧ Below w.heap.size w w') (I1 : ∀ w, Calls Tryd.prog 25 #[intV m, intV n] w fun xe w' => xe = .returned (intV z1) ∧ Below w.heap.size w w') (O1 : ∀ w, Calls Tryd.prog 24 #[intV z1, .int .u32 p] w fun xe w' => xe = .returned (.int .u32 r1) ∧ Below w.heap.size w w') (O2 : ∀ w, Calls Tryd.prog 24 #[intV m, .int .u32 p] w fun xe w' => xe = .returned (.int .u32 u) ∧ Below w.heap.size w w') (O3 : ∀ w, Calls Tryd.prog 24 #[intV n, .int .u32 p] w fun xe w' => xe = .returned (.int .u32 v) ∧ Below w.heap.size w w') (A1 : ∀ w, Calls Tryd.prog 15 #[.int .u32 u, .int .u32 v, .int .u32 p] w fun xe w' => xe = .returned (.int .u32 r1) ∧ Below w.heap.size w w') (I2 : ∀ w, Calls Tryd.prog 26 #[intV m, intV n] w fun xe w' => xe = .returned (intV z2) ∧ Below w.heap.size w w') (O4 : ∀ w, Calls Tryd.prog 24 #[intV z2, .int .u32 p] w fun xe w' => xe = .returned (.int .u32 r2) ∧ Below w.heap.size w w') (M1 : ∀ w, Calls Tryd.prog 19 #[.int .u32 u, .int .u32 v, .int .u32 p] w fun xe w' => xe = .returned (.int .u32 r2) ∧ Below w.heap.size w w') (I3 : ∀ w, Calls Tryd.prog 27 #[intV m] w fun xe w' => xe = .returned (intV z3) ∧ Below w.heap.size w w') (O5 : ∀ w, Calls Tryd.prog 24 #[intV z3, .int .u32 p] w fun xe w' => xe = .returned (.int .u32 r3) ∧ Below w.heap.size w w') (S1 : ∀ w, Calls Tryd.prog 17 #[.int .u32 0, .int .u32 u, .int .u32 p] w fun xe w' => xe = .returned (.int .u32 r3) ∧ Below w.heap.size w w') (GX : ∀ w, Kx w → Calls Tryd.prog 28 #[.agg #[.bool sx, .slice ax nx cx, .slice qx mx dx]] w fun xe w' => xe = .returned (fracV a) ∧ Below w.heap.size w w') (GY : ∀ w, Ky w → Calls Tryd.prog 28 #[.agg #[.bool sy, .slice ay ny cy, .slice qy my dy]] w fun xe w' => xe = .returned (fracV b) ∧ Below w.heap.size w w') (F1 : ∀ w, Calls Tryd.prog 29 #[fracV a, .int .u32 p] w fun xe w' => xe = .returned (.tuple #[.int .u32 r, .bool true]) ∧ Below w.heap.size w w') (F2 : ∀ w, Calls Tryd.prog 29 #[fracV b, .int .u32 p] w fun xe w' => xe = .returned (.tuple #[.int .u32 s, .bool false]) ∧ Below w.heap.size w w') (KT : World → Prop) (hKT : Keeps KT) (HW : ∀ w, KT w → Calls Tryd.prog 12 #[] w fun xe w' => xe = .returned (.bool true) ∧ Below w.heap.size w w') (l0 : decide ((6 : Int) < ((nx : Nat) : Int)) = false) (k0 : decide (6 < nx) = false) (l1 : decide ((6 : Int) < ((mx : Nat) : Int)) = false) (k1 : decide (6 < mx) = false) (l2 : decide ((6 : Int) < ((ny : Nat) : Int)) = false) (k2 : decide (6 < ny) = false) (l3 : decide ((6 : Int) < ((my : Nat) : Int)) = false) (k3 : decide (6 < my) = false) (w : World) (kKx : Kx w) (kKy : Ky w) (kKT : KT w) :
  Calls Tryd.prog 7 #[.agg #[.bool sx, .slice ax nx cx, .slice qx mx dx], .agg #[.bool sy, .slice ay ny cy, .slice qy my dy], .int .u32 p] w fun xe w' => xe = .returned (.bool true) ∧ Below w.heap.size w w' := by
 have hL0 : GL w w [] := GL.start w
 replace hKx := Lib.hid hKx
 replace ZX := Lib.hid ZX
 replace hKy := Lib.hid hKy
 replace ZY := Lib.hid ZY
 replace I1 := Lib.hid I1
 replace O1 := Lib.hid O1
 replace O2 := Lib.hid O2
 replace O3 := Lib.hid O3
 replace A1 := Lib.hid A1
 replace I2 := Lib.hid I2
 replace O4 := Lib.hid O4
 replace M1 := Lib.hid M1
 replace I3 := Lib.hid I3
 replace O5 := Lib.hid O5
 replace S1 := Lib.hid S1
 replace GX := Lib.hid GX
 replace GY := Lib.hid GY
 replace F1 := Lib.hid F1
 replace F2 := Lib.hid F2
 replace hKT := Lib.hid hKT
 replace HW := Lib.hid HW
 replace hL0 := ((hL0.new rfl [.bool sx, .slice ax nx cx, .slice qx mx dx] 43).new (K := w.heap.size + 1) (szA _ _) [.bool sy, .slice ay ny cy, .slice qy my dy] 43)
 generalize hweq : ((w.alloc (.cells #[.bool sx, .slice ax nx cx, .slice qx mx dx] 43)).alloc (.cells #[.bool sy, .slice ay ny cy, .slice qy my dy] 43)) = x1 at hL0
 go_enter Tryd.func7, Tryd.ntmps7
 have hN0 := cells_of _ 0 [] rfl (hL0.get _ _ List.mem_cons_self)
 simp only [cellsF, and_true, Nat.zero_add, Nat.reduceAdd] at hN0
 have hN1 := cells_of _ 0 [] rfl (hL0.get _ _ (List.mem_cons_of_mem _ List.mem_cons_self))
 simp only [cellsF, and_true, Nat.zero_add, Nat.reduceAdd] at hN1
 go_upto_region 3 with fail
 have kKx1 := hKx.out.at hL0.bl kKx
 have kKy1 := hKy.out.at hL0.bl kKy
 clear hN0 hN1
 clear hweq
 refine region_gh (by kernel_rfl) (by kernel_rfl) ?_
 refine lex_seg (gl := []) 6 (by kernel_rfl) ?_
 intro α iα F hF1 hF2
 have hq := GL.seg hF1 hL0
 simp only [fcC, cellsC, and_true, Nat.zero_add, Nat.reduceAdd] at hq
 simp only [List.take_succ_cons, List.take_zero, List.drop_succ_cons, List.drop_zero, List.take_nil, List.drop_nil]
 repeat (go_big_quiet_step (first | fail | (go_at_call 23; with_reducible exact seg_callK hKx.out hF1 hF2 kKx1 ZX.out _) | (go_at_call 23; with_reducible exact seg_callK hKy.out hF1 hF2 kKy1 ZY.out _)))
 refine wpQuiet_nil ?_
 clear hq hF1 hF2 iα F α
 refine lex_new [.int .u64 0, .string ⟨#[]⟩, .bool false] 7 47 47 rfl rfl (of_decide_eq_true (by kernel_rfl)) (by kernel_rfl) rfl new_int ?_
 simp only [Act.put, List.setIfInBounds_toArray, List.set_cons_succ, List.set_cons_zero]
 refine lex_new [.int .u64 0, .string ⟨#[]⟩, .bool false] 8 47 47 rfl rfl (of_decide_eq_true (by kernel_rfl)) (by kernel_rfl) rfl new_int ?_
 simp only [Act.put, List.setIfInBounds_toArray, List.set_cons_succ, List.set_cons_zero]
 refine lex_put [.int .u64 ((zl m : Nat) : Int), .string (zh m), .bool (zs m)] [.int .u64 0, .string ⟨#[]⟩, .bool false] 7 47 (.tmp 46) rfl (by kernel_rfl) (by simp [toG, upd]) rfl (fun w k h => put_int _ _ _ _ _ _ w k h) ?_
 simp only [Act.put]
 refine lex_put [.int .u64 ((zl n : Nat) : Int), .string (zh n), .bool (zs n)] [.int .u64 0, .string ⟨#[]⟩, .bool false] 8 47 (.tmp 49) rfl (by kernel_rfl) (by simp [toG, upd]) rfl (fun w k h => put_int _ _ _ _ _ _ w k h) ?_
 simp only [Act.put]
 refine lexG_nil ?_
 intro κ x2 hS
 replace hL0 := hL0.ghs hS [(8, [.int .u64 ((zl n : Nat) : Int), .string (zh n), .bool (zs n)]), (7, [.int .u64 ((zl m : Nat) : Int), .string (zh m), .bool (zs m)])] (by simp) (by intro p hp; simp only [List.mem_cons, List.not_mem_nil, or_false] at hp; rcases hp with rfl | rfl <;> exact ⟨_, by simp only [toG, upd]; rfl⟩)
 simp only [List.map_cons, List.map_nil, List.cons_append, List.nil_append] at hL0
 simp only [over_toG, over_nil, Act.put, List.setIfInBounds_toArray, List.set_cons_succ, List.set_cons_zero]
 clear hS
 generalize κ 8 = k2_8 at *
 generalize κ 7 = k2_7 at *
 clear kKx1 kKy1
 go_upto_region 4 with fail
 obtain ⟨α, iα, F, hF1, hF2⟩ := cls x2
 have hq0 := cls_box hF1 hL0 _ _ List.mem_cons_self
 simp only [cellsC, and_true, Nat.zero_add, Nat.reduceAdd] at hq0
 have hq1 := cls_box hF1 hL0 _ _ (List.mem_cons_of_mem _ List.mem_cons_self)
 simp only [cellsC, and_true, Nat.zero_add, Nat.reduceAdd] at hq1
 refine region_cls (F := F) (by kernel_rfl) (lexB_of_fast (by kernel_rfl)) (cls_drew hF2) ?_
 repeat (go_big_quiet_step (first | fail | (go_at_call 25; with_reducible exact cls_call hF1 hF2 I1.out _) | (go_at_call 24; with_reducible exact cls_call hF1 hF2 O1.out _) | (go_at_call 24; with_reducible exact cls_call hF1 hF2 O2.out _) | (go_at_call 24; with_reducible exact cls_call hF1 hF2 O3.out _) | (go_at_call 15; with_reducible exact cls_call hF1 hF2 A1.out _) | (go_at_call 26; with_reducible exact cls_call hF1 hF2 I2.out _) | (go_at_call 24; with_reducible exact cls_call hF1 hF2 O4.out _) | (go_at_call 19; with_reducible exact cls_call hF1 hF2 M1.out _) | (go_at_call 27; with_reducible exact cls_call hF1 hF2 I3.out _) | (go_at_call 24; with_reducible exact cls_call hF1 hF2 O5.out _) | (go_at_call 17; with_reducible exact cls_call hF1 hF2 S1.out _)))
 refine wpQuiet_nil ?_
 rintro wq ⟨xq, rfl⟩
 replace hL0 := hL0.call (hF1 xq)
 clear  hq0 hq1 hF2
 generalize F xq = x3 at hL0 ⊢
 clear hF1 xq iα F α
 go_upto_region 6 with fail
 have kKx1 := hKx.out.at hL0.bl kKx
 have kKy1 := hKy.out.at hL0.bl kKy
 refine region_gh (by kernel_rfl) (by kernel_rfl) ?_
 refine lex_seg (gl := []) 4 (by kernel_rfl) ?_
 intro α iα F hF1 hF2
 have hq := GL.seg hF1 hL0
 simp only [fcC, cellsC, and_true, Nat.zero_add, Nat.reduceAdd] at hq
 simp only [List.take_succ_cons, List.take_zero, List.drop_succ_cons, List.drop_zero, List.take_nil, List.drop_nil]
 repeat (go_big_quiet_step (first | fail | (go_at_call 28; with_reducible exact seg_callK hKx.out hF1 hF2 kKx1 GX.out _) | (go_at_call 28; with_reducible exact seg_callK hKy.out hF1 hF2 kKy1 GY.out _)))
 refine wpQuiet_nil ?_
 clear hq hF1 hF2 iα F α
 refine lex_new [.int .u64 0, .string ⟨#[]⟩, .bool false, .int .u64 0, .string ⟨#[]⟩] 9 53 53 rfl rfl (of_decide_eq_true (by kernel_rfl)) (by kernel_rfl) rfl new_frac ?_
 simp only [Act.put, List.setIfInBounds_toArray, List.set_cons_succ, List.set_cons_zero]
 refine lex_new [.int .u64 0, .string ⟨#[]⟩, .bool false, .int .u64 0, .string ⟨#[]⟩] 10 53 53 rfl rfl (of_decide_eq_true (by kernel_rfl)) (by kernel_rfl) rfl new_frac ?_
 simp only [Act.put, List.setIfInBounds_toArray, List.set_cons_succ, List.set_cons_zero]
 refine lex_put [.int .u64 ((zl a.num : Nat) : Int), .string (zh a.num), .bool (zs a.num), .int .u64 ((lo (fe a) : Nat) : Int), .string (hs (fe a))] [.int .u64 0, .string ⟨#[]⟩, .bool false, .int .u64 0, .string ⟨#[]⟩] 9 53 (.tmp 93) rfl (by kernel_rfl) (by simp [toG, upd]) rfl (fun w k h => put_frac _ _ _ _ _ _ _ _ _ _ w k h) ?_
 simp only [Act.put]
 refine lex_put [.int .u64 ((zl b.num : Nat) : Int), .string (zh b.num), .bool (zs b.num), .int .u64 ((lo (fe b) : Nat) : Int), .string (hs (fe b))] [.int .u64 0, .string ⟨#[]⟩, .bool false, .int .u64 0, .string ⟨#[]⟩] 10 53 (.tmp 95) rfl (by kernel_rfl) (by simp [toG, upd]) rfl (fun w k h => put_frac _ _ _ _ _ _ _ _ _ _ w k h) ?_
 simp only [Act.put]
 refine lexG_nil ?_
 intro κ x4 hS
 replace hL0 := hL0.ghs hS [(10, [.int .u64 ((zl b.num : Nat) : Int), .string (zh b.num), .bool (zs b.num), .int .u64 ((lo (fe b) : Nat) : Int), .string (hs (fe b))]), (9, [.int .u64 ((zl a.num : Nat) : Int), .string (zh a.num), .bool (zs a.num), .int .u64 ((lo (fe a) : Nat) : Int), .string (hs (fe a))])] (by simp) (by intro p hp; simp only [List.mem_cons, List.not_mem_nil, or_false] at hp; rcases hp with rfl | rfl <;> exact ⟨_, by simp only [toG, upd]; rfl⟩)
 simp only [List.map_cons, List.map_nil, List.cons_append, List.nil_append] at hL0
 simp only [over_toG, over_nil, Act.put, List.setIfInBounds_toArray, List.set_cons_succ, List.set_cons_zero]
 clear hS
 generalize κ 10 = k4_10 at *
 generalize κ 9 = k4_9 at *
 clear kKx1 kKy1
 have hN0 := cells_of _ 0 [] rfl (hL0.get _ _ (List.mem_cons_of_mem _ List.mem_cons_self))
 simp only [cellsF, and_true, Nat.zero_add, Nat.reduceAdd] at hN0
 go_wp2_with fail
 clear hN0
 with_reducible refine Calls.mono (F1.out _) ?_
 rintro e x5 ⟨rfl, hb⟩
 replace hL0 := hL0.call hb
 clear hb
 have hN0 := cells_of _ 0 [] rfl (hL0.get _ _ List.mem_cons_self)
 simp only [cellsF, and_true, Nat.zero_add, Nat.reduceAdd] at hN0
 go_wp2_with fail
 clear hN0
 with_reducible refine Calls.mono (F2.out _) ?_
 rintro e x6 ⟨rfl, hb⟩
 replace hL0 := hL0.call hb
 clear hb
 go_wp2_with fail
 with_reducible refine Calls.mono (HW.out _ (hKT.out.at hL0.bl kKT)) ?_
 rintro e x7 ⟨rfl, hb⟩
 replace hL0 := hL0.call hb
 clear hb
 go_wp2_with fail
 exact bodyPost_ret (v := .bool true) (by simp [results, Tryd.results7, go_sem]) rfl ⟨rfl, hL0.bl⟩
set_option maxHeartbeats 4000000 in
set_option maxRecDepth 100000 in
theorem mrings_yes (sx sy : Bool) (ax qx ay qy : Option Addr) (nx cx mx dx ny cy my dy : Nat) (p m n z1 z2 z3 r1 r2 r3 u v r s t o : Int) (a b c d : Rat) (Kx : World → Prop) (hKx : Keeps Kx) (ZX : ∀ w, Kx w → Calls Tryd.prog 23 #[.agg #[.bool sx, .slice ax nx cx]] w fun xe w' => xe = .returned (intV m) ∧ Below w.heap.size w w') (Ky : World → Prop) (hKy : Keeps Ky) (ZY : ∀ w, Ky w → Calls Tryd.prog 23 #[.agg #[.bool sy, .slice ay ny cy]] w fun xe w' => xe = .returned (intV n) ∧ Below w.heap.size w w') (I1 : ∀ w, Calls Tryd.prog 25 #[intV m, intV n] w fun xe w' => xe = .returned (intV z1) ∧ Below w.heap.size w w') (O1 : ∀ w, Calls Tryd.prog 24 #[intV z1, .int .u32 p] w fun xe w' => xe = .returned (.int .u32 r1) ∧ Below w.heap.size w w') (O2 : ∀ w, Calls Tryd.prog 24 #[intV m, .int .u32 p] w fun xe w' => xe = .returned (.int .u32 u) ∧ Below w.heap.size w w') (O3 : ∀ w, Calls Tryd.prog 24 #[intV n, .int .u32 p] w fun xe w' => xe = .returned (.int .u32 v) ∧ Below w.heap.size w w') (A1 : ∀ w, Calls Tryd.prog 15 #[.int .u32 u, .int .u32 v, .int .u32 p] w fun xe w' => xe = .returned (.int .u32 r1) ∧ Below w.heap.size w w') (I2 : ∀ w, Calls Tryd.prog 26 #[intV m, intV n] w fun xe w' => xe = .returned (intV z2) ∧ Below w.heap.size w w') (O4 : ∀ w, Calls Tryd.prog 24 #[intV z2, .int .u32 p] w fun xe w' => xe = .returned (.int .u32 r2) ∧ Below w.heap.size w w') (M1 : ∀ w, Calls Tryd.prog 19 #[.int .u32 u, .int .u32 v, .int .u32 p] w fun xe w' => xe = .returned (.int .u32 r2) ∧ Below w.heap.size w w') (I3 : ∀ w, Calls Tryd.prog 27 #[intV m] w fun xe w' => xe = .returned (intV z3) ∧ Below w.heap.size w w') (O5 : ∀ w, Calls Tryd.prog 24 #[intV z3, .int .u32 p] w fun xe w' => xe = .returned (.int .u32 r3) ∧ Below w.heap.size w w') (S1 : ∀ w, Calls Tryd.prog 17 #[.int .u32 0, .int .u32 u, .int .u32 p] w fun xe w' => xe = .returned (.int .u32 r3) ∧ Below w.heap.size w w') (GX : ∀ w, Kx w → Calls Tryd.prog 28 #[.agg #[.bool sx, .slice ax nx cx, .slice qx mx dx]] w fun xe w' => xe = .returned (fracV a) ∧ Below w.heap.size w w') (GY : ∀ w, Ky w → Calls Tryd.prog 28 #[.agg #[.bool sy, .slice ay ny cy, .slice qy my dy]] w fun xe w' => xe = .returned (fracV b) ∧ Below w.heap.size w w') (F1 : ∀ w, Calls Tryd.prog 29 #[fracV a, .int .u32 p] w fun xe w' => xe = .returned (.tuple #[.int .u32 r, .bool true]) ∧ Below w.heap.size w w') (F2 : ∀ w, Calls Tryd.prog 29 #[fracV b, .int .u32 p] w fun xe w' => xe = .returned (.tuple #[.int .u32 s, .bool true]) ∧ Below w.heap.size w w') (Q1 : ∀ w, Calls Tryd.prog 30 #[fracV a, fracV b] w fun xe w' => xe = .returned (fracV c) ∧ Below w.heap.size w w') (F3 : ∀ w, Calls Tryd.prog 29 #[fracV c, .int .u32 p] w fun xe w' => xe = .returned (.tuple #[.int .u32 t, .bool true]) ∧ Below w.heap.size w w') (Q2 : ∀ w, Calls Tryd.prog 31 #[fracV a, fracV b] w fun xe w' => xe = .returned (fracV d) ∧ Below w.heap.size w w') (F4 : ∀ w, Calls Tryd.prog 29 #[fracV d, .int .u32 p] w fun xe w' => xe = .returned (.tuple #[.int .u32 o, .bool true]) ∧ Below w.heap.size w w') (A2 : ∀ w, Calls Tryd.prog 15 #[.int .u32 r, .int .u32 s, .int .u32 p] w fun xe w' => xe = .returned (.int .u32 t) ∧ Below w.heap.size w w') (M2 : ∀ w, Calls Tryd.prog 19 #[.int .u32 r, .int .u32 s, .int .u32 p] w fun xe w' => xe = .returned (.int .u32 o) ∧ Below w.heap.size w w') (KT : World → Prop) (hKT : Keeps KT) (HW : ∀ w, KT w → Calls Tryd.prog 12 #[] w fun xe w' => xe = .returned (.bool true) ∧ Below w.heap.size w w') (l0 : decide ((6 : Int) < ((nx : Nat) : Int)) = false) (k0 : decide (6 < nx) = false) (l1 : decide ((6 : Int) < ((mx : Nat) : Int)) = false) (k1 : decide (6 < mx) = false) (l2 : decide ((6 : Int) < ((ny : Nat) : Int)) = false) (k2 : decide (6 < ny) = false) (l3 : decide ((6 : Int) < ((my : Nat) : Int)) = false) (k3 : decide (6 < my) = false) (w : World) (kKx : Kx w) (kKy : Ky w) (kKT : KT w) :
  Calls Tryd.prog 7 #[.agg #[.bool sx, .slice ax nx cx, .slice qx mx dx], .agg #[.bool sy, .slice ay ny cy, .slice qy my dy], .int .u32 p] w fun xe w' => xe = .returned (.bool true) ∧ Below w.heap.size w w' := by
 have hL0 : GL w w [] := GL.start w
 replace hKx := Lib.hid hKx
 replace ZX := Lib.hid ZX
 replace hKy := Lib.hid hKy
 replace ZY := Lib.hid ZY
 replace I1 := Lib.hid I1
 replace O1 := Lib.hid O1
 replace O2 := Lib.hid O2
 replace O3 := Lib.hid O3
 replace A1 := Lib.hid A1
 replace I2 := Lib.hid I2
 replace O4 := Lib.hid O4
 replace M1 := Lib.hid M1
 replace I3 := Lib.hid I3
 replace O5 := Lib.hid O5
 replace S1 := Lib.hid S1
 replace GX := Lib.hid GX
 replace GY := Lib.hid GY
 replace F1 := Lib.hid F1
 replace F2 := Lib.hid F2
 replace Q1 := Lib.hid Q1
 replace F3 := Lib.hid F3
 replace Q2 := Lib.hid Q2
 replace F4 := Lib.hid F4
 replace A2 := Lib.hid A2
 replace M2 := Lib.hid M2
 replace hKT := Lib.hid hKT
 replace HW := Lib.hid HW
 replace hL0 := ((hL0.new rfl [.bool sx, .slice ax nx cx, .slice qx mx dx] 43).new (K := w.heap.size + 1) (szA _ _) [.bool sy, .slice ay ny cy, .slice qy my dy] 43)
 generalize hweq : ((w.alloc (.cells #[.bool sx, .slice ax nx cx, .slice qx mx dx] 43)).alloc (.cells #[.bool sy, .slice ay ny cy, .slice qy my dy] 43)) = x1 at hL0
 go_enter Tryd.func7, Tryd.ntmps7
 have hN0 := cells_of _ 0 [] rfl (hL0.get _ _ List.mem_cons_self)
 simp only [cellsF, and_true, Nat.zero_add, Nat.reduceAdd] at hN0
 have hN1 := cells_of _ 0 [] rfl (hL0.get _ _ (List.mem_cons_of_mem _ List.mem_cons_self))
 simp only [cellsF, and_true, Nat.zero_add, Nat.reduceAdd] at hN1
 go_upto_region 3 with fail
 have kKx1 := hKx.out.at hL0.bl kKx
 have kKy1 := hKy.out.at hL0.bl kKy
 clear hN0 hN1
 clear hweq
 refine region_gh (by kernel_rfl) (by kernel_rfl) ?_
 refine lex_seg (gl := []) 6 (by kernel_rfl) ?_
 intro α iα F hF1 hF2
 have hq := GL.seg hF1 hL0
 simp only [fcC, cellsC, and_true, Nat.zero_add, Nat.reduceAdd] at hq
 simp only [List.take_succ_cons, List.take_zero, List.drop_succ_cons, List.drop_zero, List.take_nil, List.drop_nil]
 repeat (go_big_quiet_step (first | fail | (go_at_call 23; with_reducible exact seg_callK hKx.out hF1 hF2 kKx1 ZX.out _) | (go_at_call 23; with_reducible exact seg_callK hKy.out hF1 hF2 kKy1 ZY.out _)))
 refine wpQuiet_nil ?_
 clear hq hF1 hF2 iα F α
 refine lex_new [.int .u64 0, .string ⟨#[]⟩, .bool false] 7 47 47 rfl rfl (of_decide_eq_true (by kernel_rfl)) (by kernel_rfl) rfl new_int ?_
 simp only [Act.put, List.setIfInBounds_toArray, List.set_cons_succ, List.set_cons_zero]
 refine lex_new [.int .u64 0, .string ⟨#[]⟩, .bool false] 8 47 47 rfl rfl (of_decide_eq_true (by kernel_rfl)) (by kernel_rfl) rfl new_int ?_
 simp only [Act.put, List.setIfInBounds_toArray, List.set_cons_succ, List.set_cons_zero]
 refine lex_put [.int .u64 ((zl m : Nat) : Int), .string (zh m), .bool (zs m)] [.int .u64 0, .string ⟨#[]⟩, .bool false] 7 47 (.tmp 46) rfl (by kernel_rfl) (by simp [toG, upd]) rfl (fun w k h => put_int _ _ _ _ _ _ w k h) ?_
 simp only [Act.put]
 refine lex_put [.int .u64 ((zl n : Nat) : Int), .string (zh n), .bool (zs n)] [.int .u64 0, .string ⟨#[]⟩, .bool false] 8 47 (.tmp 49) rfl (by kernel_rfl) (by simp [toG, upd]) rfl (fun w k h => put_int _ _ _ _ _ _ w k h) ?_
 simp only [Act.put]
 refine lexG_nil ?_
 intro κ x2 hS
 replace hL0 := hL0.ghs hS [(8, [.int .u64 ((zl n : Nat) : Int), .string (zh n), .bool (zs n)]), (7, [.int .u64 ((zl m : Nat) : Int), .string (zh m), .bool (zs m)])] (by simp) (by intro p hp; simp only [List.mem_cons, List.not_mem_nil, or_false] at hp; rcases hp with rfl | rfl <;> exact ⟨_, by simp only [toG, upd]; rfl⟩)
 simp only [List.map_cons, List.map_nil, List.cons_append, List.nil_append] at hL0
 simp only [over_toG, over_nil, Act.put, List.setIfInBounds_toArray, List.set_cons_succ, List.set_cons_zero]
 clear hS
 generalize κ 8 = k2_8 at *
 generalize κ 7 = k2_7 at *
 clear kKx1 kKy1
 go_upto_region 4 with fail
 obtain ⟨α, iα, F, hF1, hF2⟩ := cls x2
 have hq0 := cls_box hF1 hL0 _ _ List.mem_cons_self
 simp only [cellsC, and_true, Nat.zero_add, Nat.reduceAdd] at hq0
 have hq1 := cls_box hF1 hL0 _ _ (List.mem_cons_of_mem _ List.mem_cons_self)
 simp only [cellsC, and_true, Nat.zero_add, Nat.reduceAdd] at hq1
 refine region_cls (F := F) (by kernel_rfl) (lexB_of_fast (by kernel_rfl)) (cls_drew hF2) ?_
 repeat (go_big_quiet_step (first | fail | (go_at_call 25; with_reducible exact cls_call hF1 hF2 I1.out _) | (go_at_call 24; with_reducible exact cls_call hF1 hF2 O1.out _) | (go_at_call 24; with_reducible exact cls_call hF1 hF2 O2.out _) | (go_at_call 24; with_reducible exact cls_call hF1 hF2 O3.out _) | (go_at_call 15; with_reducible exact cls_call hF1 hF2 A1.out _) | (go_at_call 26; with_reducible exact cls_call hF1 hF2 I2.out _) | (go_at_call 24; with_reducible exact cls_call hF1 hF2 O4.out _) | (go_at_call 19; with_reducible exact cls_call hF1 hF2 M1.out _) | (go_at_call 27; with_reducible exact cls_call hF1 hF2 I3.out _) | (go_at_call 24; with_reducible exact cls_call hF1 hF2 O5.out _) | (go_at_call 17; with_reducible exact cls_call hF1 hF2 S1.out _)))
 refine wpQuiet_nil ?_
 rintro wq ⟨xq, rfl⟩
 replace hL0 := hL0.call (hF1 xq)
 clear  hq0 hq1 hF2
 generalize F xq = x3 at hL0 ⊢
 clear hF1 xq iα F α
 go_upto_region 6 with fail
 have kKx1 := hKx.out.at hL0.bl kKx
 have kKy1 := hKy.out.at hL0.bl kKy
 refine region_gh (by kernel_rfl) (by kernel_rfl) ?_
 refine lex_seg (gl := []) 4 (by kernel_rfl) ?_
 intro α iα F hF1 hF2
 have hq := GL.seg hF1 hL0
 simp only [fcC, cellsC, and_true, Nat.zero_add, Nat.reduceAdd] at hq
 simp only [List.take_succ_cons, List.take_zero, List.drop_succ_cons, List.drop_zero, List.take_nil, List.drop_nil]
 repeat (go_big_quiet_step (first | fail | (go_at_call 28; with_reducible exact seg_callK hKx.out hF1 hF2 kKx1 GX.out _) | (go_at_call 28; with_reducible exact seg_callK hKy.out hF1 hF2 kKy1 GY.out _)))
 refine wpQuiet_nil ?_
 clear hq hF1 hF2 iα F α
 refine lex_new [.int .u64 0, .string ⟨#[]⟩, .bool false, .int .u64 0, .string ⟨#[]⟩] 9 53 53 rfl rfl (of_decide_eq_true (by kernel_rfl)) (by kernel_rfl) rfl new_frac ?_
 simp only [Act.put, List.setIfInBounds_toArray, List.set_cons_succ, List.set_cons_zero]
 refine lex_new [.int .u64 0, .string ⟨#[]⟩, .bool false, .int .u64 0, .string ⟨#[]⟩] 10 53 53 rfl rfl (of_decide_eq_true (by kernel_rfl)) (by kernel_rfl) rfl new_frac ?_
 simp only [Act.put, List.setIfInBounds_toArray, List.set_cons_succ, List.set_cons_zero]
 refine lex_put [.int .u64 ((zl a.num : Nat) : Int), .string (zh a.num), .bool (zs a.num), .int .u64 ((lo (fe a) : Nat) : Int), .string (hs (fe a))] [.int .u64 0, .string ⟨#[]⟩, .bool false, .int .u64 0, .string ⟨#[]⟩] 9 53 (.tmp 93) rfl (by kernel_rfl) (by simp [toG, upd]) rfl (fun w k h => put_frac _ _ _ _ _ _ _ _ _ _ w k h) ?_
 simp only [Act.put]
 refine lex_put [.int .u64 ((zl b.num : Nat) : Int), .string (zh b.num), .bool (zs b.num), .int .u64 ((lo (fe b) : Nat) : Int), .string (hs (fe b))] [.int .u64 0, .string ⟨#[]⟩, .bool false, .int .u64 0, .string ⟨#[]⟩] 10 53 (.tmp 95) rfl (by kernel_rfl) (by simp [toG, upd]) rfl (fun w k h => put_frac _ _ _ _ _ _ _ _ _ _ w k h) ?_
 simp only [Act.put]
 refine lexG_nil ?_
 intro κ x4 hS
 replace hL0 := hL0.ghs hS [(10, [.int .u64 ((zl b.num : Nat) : Int), .string (zh b.num), .bool (zs b.num), .int .u64 ((lo (fe b) : Nat) : Int), .string (hs (fe b))]), (9, [.int .u64 ((zl a.num : Nat) : Int), .string (zh a.num), .bool (zs a.num), .int .u64 ((lo (fe a) : Nat) : Int), .string (hs (fe a))])] (by simp) (by intro p hp; simp only [List.mem_cons, List.not_mem_nil, or_false] at hp; rcases hp with rfl | rfl <;> exact ⟨_, by simp only [toG, upd]; rfl⟩)
 simp only [List.map_cons, List.map_nil, List.cons_append, List.nil_append] at hL0
 simp only [over_toG, over_nil, Act.put, List.setIfInBounds_toArray, List.set_cons_succ, List.set_cons_zero]
 clear hS
 generalize κ 10 = k4_10 at *
 generalize κ 9 = k4_9 at *
 clear kKx1 kKy1
 have hN0 := cells_of _ 0 [] rfl (hL0.get _ _ (List.mem_cons_of_mem _ List.mem_cons_self))
 simp only [cellsF, and_true, Nat.zero_add, Nat.reduceAdd] at hN0
 go_wp2_with fail
 clear hN0
 with_reducible refine Calls.mono (F1.out _) ?_
 rintro e x5 ⟨rfl, hb⟩
 replace hL0 := hL0.call hb
 clear hb
 have hN0 := cells_of _ 0 [] rfl (hL0.get _ _ List.mem_cons_self)
 simp only [cellsF, and_true, Nat.zero_add, Nat.reduceAdd] at hN0
 go_wp2_with fail
 clear hN0
 with_reducible refine Calls.mono (F2.out _) ?_
 rintro e x6 ⟨rfl, hb⟩
 replace hL0 := hL0.call hb
 clear hb
 have hN0 := cells_of _ 0 [] rfl (hL0.get _ _ List.mem_cons_self)
 simp only [cellsF, and_true, Nat.zero_add, Nat.reduceAdd] at hN0
 have hN1 := cells_of _ 0 [] rfl (hL0.get _ _ (List.mem_cons_of_mem _ List.mem_cons_self))
 simp only [cellsF, and_true, Nat.zero_add, Nat.reduceAdd] at hN1
 go_wp2_with fail
 clear hN0 hN1
 with_reducible refine Calls.mono (Q1.out _) ?_
 rintro e x7 ⟨rfl, hb⟩
 replace hL0 := hL0.call hb
 clear hb
 go_wp2_with fail
 with_reducible refine Calls.mono (F3.out _) ?_
 rintro e x8 ⟨rfl, hb⟩
 replace hL0 := hL0.call hb
 clear hb
 have hN0 := cells_of _ 0 [] rfl (hL0.get _ _ List.mem_cons_self)
 simp only [cellsF, and_true, Nat.zero_add, Nat.reduceAdd] at hN0
 have hN1 := cells_of _ 0 [] rfl (hL0.get _ _ (List.mem_cons_of_mem _ List.mem_cons_self))
 simp only [cellsF, and_true, Nat.zero_add, Nat.reduceAdd] at hN1
 go_wp2_with fail
 clear hN0 hN1
 with_reducible refine Calls.mono (Q2.out _) ?_
 rintro e x9 ⟨rfl, hb⟩
 replace hL0 := hL0.call hb
 clear hb
 go_wp2_with fail
 with_reducible refine Calls.mono (F4.out _) ?_
 rintro e x10 ⟨rfl, hb⟩
 replace hL0 := hL0.call hb
 clear hb
 go_wp2_with fail
 with_reducible refine Calls.mono (A2.out _) ?_
 rintro e x11 ⟨rfl, hb⟩
 replace hL0 := hL0.call hb
 clear hb
 go_wp2_with fail
 with_reducible refine Calls.mono (M2.out _) ?_
 rintro e x12 ⟨rfl, hb⟩
 replace hL0 := hL0.call hb
 clear hb
 go_wp2_with fail
 with_reducible refine Calls.mono (HW.out _ (hKT.out.at hL0.bl kKT)) ?_
 rintro e x13 ⟨rfl, hb⟩
 replace hL0 := hL0.call hb
 clear hb
 go_wp2_with fail
 exact bodyPost_ret (v := .bool true) (by simp [results, Tryd.results7, go_sem]) rfl ⟨rfl, hL0.bl⟩
end Go.Proofs.YtfmakoiiibacjaaDoor
namespace Go.Proofs.YtfmakoiiibacjaaDoor
open Go.RowKit
theorem rsz_add (x y : Int) (p : Nat) : rsz (x + y) p = rsd (rsz x p + rsz y p) p := by
 by_cases h0 : p = 0
 ·subst h0; rfl
 ·have e : ((rsz (x + y) p : Nat) : Int) = ((rsd (rsz x p + rsz y p) p : Nat) : Int) := by
   rw [rsz_cast h0, rsd_pos h0]; push_cast
   rw [rsz_cast h0, rsz_cast h0, ← Int.add_emod]
  exact_mod_cast e
theorem rsz_mul (x y : Int) (p : Nat) : rsz (x * y) p = rsd (rsz x p * rsz y p) p := by
 by_cases h0 : p = 0
 ·subst h0; rfl
 ·have e : ((rsz (x * y) p : Nat) : Int) = ((rsd (rsz x p * rsz y p) p : Nat) : Int) := by
   rw [rsz_cast h0, rsd_pos h0]; push_cast
   rw [rsz_cast h0, rsz_cast h0, ← Int.mul_emod]
  exact_mod_cast e
theorem rsz_rsd (x : Int) (p : Nat) : rsd (rsz x p) p = rsz x p := by
 by_cases h0 : p = 0
 ·subst h0; rfl
 ·have := rsz_cast (z := x) h0
  have := Int.emod_lt_of_pos x (show (0 : Int) < (p : Int) by omega)
  rw [rsd_pos h0, Nat.mod_eq_of_lt (by omega)]
theorem rsz_neg (x : Int) (p : Nat) : rsz (-x) p = subN 0 (rsz x p) p := by
 refine (subN_uniq (rsz_rsd _ _) ?_).symm
 rw [← rsz_add, show -x + x = 0 by omega, ← rsz_nat 0 p]; rfl
theorem dvd_cancel {p t : Nat} {z : Int} (hg : Nat.gcd t p = 1) (h : (p : Int) ∣ z * (t : Int)) : (p : Int) ∣ z := by
 rw [Int.ofNat_dvd_left] at h ⊢
 rw [Int.natAbs_mul, Int.natAbs_natCast] at h
 exact Nat.Coprime.dvd_of_dvd_mul_right (Nat.Coprime.symm hg) h
theorem gcd_of_dvd {d D p : Nat} (h : d ∣ D) (hg : Nat.gcd D p = 1) : Nat.gcd d p = 1 :=
 Nat.dvd_one.1 (hg ▸ Nat.dvd_gcd (Nat.dvd_trans (Nat.gcd_dvd_left d p) h) (Nat.gcd_dvd_right d p))
theorem den_dvd {q : Rat} {N : Int} {D : Nat} (hD : D ≠ 0) (hq : q = mkRat N D) : ∃ t : Nat, D = q.den * t ∧ q.num * (t : Int) = N := by
 have e : q.num * (D : Int) = N * (q.den : Int) := by
  have h1 : mkRat q.num q.den = mkRat N D := by rw [Rat.mkRat_self]; exact hq
  exact (Rat.mkRat_eq_iff q.den_nz hD).1 h1
 have hd : q.den ∣ D := by
  have h2 : q.den ∣ q.num.natAbs * D := by
   have : (q.den : Int) ∣ q.num * (D : Int) := ⟨N, by rw [e, Int.mul_comm]⟩
   rw [Int.ofNat_dvd_left, Int.natAbs_mul, Int.natAbs_natCast] at this
   exact this
  exact Nat.Coprime.dvd_of_dvd_mul_left (Nat.Coprime.symm q.reduced) h2
 obtain ⟨t, ht⟩ := hd
 refine ⟨t, ht, ?_⟩
 have h0 : (q.den : Int) ≠ 0 := by have := q.den_nz; omega
 rw [ht] at e
 push_cast at e
 exact Int.eq_of_mul_eq_mul_left h0 (by grind)
theorem fr_spec {q : Rat} {p : Nat} (hp : p ≠ 0) (h : frB q p = true) : frR q p < p ∧ Nat.gcd q.den p = 1 ∧ (p : Int) ∣ (frR q p : Int) * (q.den : Int) - q.num := by
 have hg := invB_iff.1 (show invB q.den p = true from h)
 have hi := inv_is q.den p
 rw [show invB q.den p = true from h] at hi
 have e : frR q p = rsd (rsz q.num p * invV q.den p) p := by unfold frR; rw [if_pos h]
 refine ⟨by rw [e]; exact rsd_lt hp, hg.2, ?_⟩
 rcases hi with ⟨_, h1, h2⟩ | ⟨h1, _⟩
 ·rw [e, rsd_pos hp]
  have h3 : (((q.den * invV q.den p % p : Nat) : Nat) : Int) = ((1 % p : Nat) : Int) := by rw [h2]
  push_cast at h3 ⊢
  rw [rsz_cast hp]
  have h4 : (p : Int) ∣ (q.den : Int) * (invV q.den p : Int) - 1 := Int.dvd_of_emod_eq_zero (Int.emod_eq_emod_iff_emod_sub_eq_zero.1 h3)
  obtain ⟨k, hk⟩ := h4
  have e1 := Int.emod_add_mul_ediv q.num (p : Int)
  have e2 := Int.emod_add_mul_ediv (q.num % (p : Int) * (invV q.den p : Int)) (p : Int)
  generalize q.num % (p : Int) * (invV q.den p : Int) % (p : Int) = A at *
  generalize q.num % (p : Int) * (invV q.den p : Int) / (p : Int) = B at *
  generalize q.num % (p : Int) = C at *
  generalize q.num / (p : Int) = F at *
  generalize (invV q.den p : Int) = v at *
  generalize (q.den : Int) = d at *
  refine ⟨C * k - B * d - F, ?_⟩
  rw [← e1]
  have e3 : A = C * v - p * B := by omega
  rw [e3]
  grind
 ·cases h1
theorem fr_is {q : Rat} {N : Int} {D p x : Nat} (hp : p ≠ 0) (hD : D ≠ 0) (hq : q = mkRat N D) (hg : Nat.gcd D p = 1) (hx : x < p) (h : (p : Int) ∣ (x : Int) * (D : Int) - N) : frR q p = x ∧ frB q p = true := by
 obtain ⟨t, h1, h2⟩ := den_dvd hD hq
 have gd : Nat.gcd q.den p = 1 := gcd_of_dvd ⟨t, h1⟩ hg
 have gt : Nat.gcd t p = 1 := gcd_of_dvd ⟨q.den, by rw [h1, Nat.mul_comm]⟩ hg
 have hb : frB q p = true := invB_iff.2 ⟨hp, gd⟩
 obtain ⟨s1, _, s2⟩ := fr_spec hp hb
 refine ⟨?_, hb⟩
 have h3 : (p : Int) ∣ ((x : Int) * (q.den : Int) - q.num) * (t : Int) := by
  rw [h1, ← h2] at h
  push_cast at h
  rw [show ((x : Int) * (q.den : Int) - q.num) * (t : Int) = (x : Int) * ((q.den : Int) * (t : Int)) - q.num * (t : Int) by grind]
  exact h
 have h4 := dvd_cancel gt h3
 have h5 : (p : Int) ∣ ((frR q p : Int) - (x : Int)) * (q.den : Int) := by
  have := Int.dvd_sub s2 h4
  rwa [show (frR q p : Int) * (q.den : Int) - q.num - ((x : Int) * (q.den : Int) - q.num) = ((frR q p : Int) - (x : Int)) * (q.den : Int) by grind] at this
 have h6 := dvd_cancel gd h5
 rw [Int.ofNat_dvd_left] at h6
 have h7 : ((frR q p : Int) - (x : Int)).natAbs < p := by omega
 have := Nat.eq_zero_of_dvd_of_lt h6 h7
 omega
theorem gcd_mul_one {a b p : Nat} (ha : Nat.gcd a p = 1) (hb : Nat.gcd b p = 1) : Nat.gcd (a * b) p = 1 := Nat.Coprime.mul_left ha hb
theorem frB_ne {q : Rat} {p : Nat} (h : frB q p = true) : p ≠ 0 := (invB_iff.1 (show invB q.den p = true from h)).1
theorem fr_add {a b : Rat} {p : Nat} (ha : frB a p = true) (hb : frB b p = true) : frR (a + b) p = rsd (frR a p + frR b p) p ∧ frB (a + b) p = true := by
 have hp := frB_ne ha
 obtain ⟨a1, a2, ka, a3⟩ := fr_spec hp ha
 obtain ⟨b1, b2, kb, b3⟩ := fr_spec hp hb
 refine fr_is hp (Nat.mul_ne_zero a.den_nz b.den_nz) (Rat.add_def' a b) (gcd_mul_one a2 b2) (rsd_lt hp) ?_
 rw [rsd_pos hp]; push_cast
 have e := Int.emod_add_mul_ediv ((frR a p : Int) + (frR b p : Int)) (p : Int)
 generalize ((frR a p : Int) + (frR b p : Int)) % (p : Int) = A at *
 generalize ((frR a p : Int) + (frR b p : Int)) / (p : Int) = B at *
 generalize (frR a p : Int) = r at *
 generalize (frR b p : Int) = s at *
 refine ⟨ka * b.den + kb * a.den - B * (a.den * b.den), ?_⟩
 have e1 : A = r + s - p * B := by omega
 have e2 : a.num = r * a.den - p * ka := by omega
 have e3 : b.num = s * b.den - p * kb := by omega
 rw [e1, e2, e3]; grind
theorem fr_mul {a b : Rat} {p : Nat} (ha : frB a p = true) (hb : frB b p = true) : frR (a * b) p = rsd (frR a p * frR b p) p ∧ frB (a * b) p = true := by
 have hp := frB_ne ha
 obtain ⟨a1, a2, ka, a3⟩ := fr_spec hp ha
 obtain ⟨b1, b2, kb, b3⟩ := fr_spec hp hb
 refine fr_is hp (Nat.mul_ne_zero a.den_nz b.den_nz) (by rw [Rat.mul_def, Rat.normalize_eq_mkRat]) (gcd_mul_one a2 b2) (rsd_lt hp) ?_
 rw [rsd_pos hp]; push_cast
 have e := Int.emod_add_mul_ediv ((frR a p : Int) * (frR b p : Int)) (p : Int)
 generalize ((frR a p : Int) * (frR b p : Int)) % (p : Int) = A at *
 generalize ((frR a p : Int) * (frR b p : Int)) / (p : Int) = B at *
 generalize (frR a p : Int) = r at *
 generalize (frR b p : Int) = s at *
 have e1 : A = r * s - p * B := by omega
 have e2 : a.num = r * a.den - p * ka := by omega
 have e3 : b.num = s * b.den - p * kb := by omega
 refine ⟨r * a.den * kb + s * b.den * ka - p * ka * kb - B * (a.den * b.den), ?_⟩
 rw [e1, e2, e3]; grind
end Go.Proofs.YtfmakoiiibacjaaDoor
namespace Go.Proofs.YtfmakoiiibacjaaDoor
open Go.RowKit
theorem gpair6 (v u : Value) (l k : List Nat) : Keeps (fun w => Ws w v l ∧ Ws w u k) := Keeps.and (Keeps.ws v l) (Keeps.ws u k)
theorem mrings_any (sx sy : Bool) (ax qx ay qy : Option Addr) (nx cx mx dx ny cy my dy : Nat) (lx kx ly ky : List Nat) (p : Nat) (hp : p < 4294967296) (w : World) (hT : T32 w) (hwx : Ws w (.slice ax nx cx) lx) (hvx : Ws w (.slice qx mx dx) kx) (hwy : Ws w (.slice ay ny cy) ly) (hvy : Ws w (.slice qy my dy) ky) :
  Calls Tryd.prog 7 #[.agg #[.bool sx, .slice ax nx cx, .slice qx mx dx], .agg #[.bool sy, .slice ay ny cy, .slice qy my dy], .int .u32 (p : Int)] w fun xe w' => xe = .returned (.bool true) ∧ Below w.heap.size w w' := by
 have e1 := hwx.len
 have e2 := hvx.len
 have e3 := hwy.len
 have e4 := hvy.len
 have T {n : Nat} (h : 6 < n) : decide ((6 : Int) < ((n : Nat) : Int)) = true ∧ decide (6 < n) = true := ⟨decide_eq_true (by omega), decide_eq_true h⟩
 have F {n : Nat} (h : ¬ 6 < n) : decide ((6 : Int) < ((n : Nat) : Int)) = false ∧ decide (6 < n) = false := ⟨decide_eq_false (by omega), decide_eq_false h⟩
 by_cases h1 : 6 < nx
 ·exact mrings_big0 sx sy ax qx ay qy nx cx mx dx ny cy my dy p T32 Keeps.t32 mworks_any (T h1).1 (T h1).2 w hT
 by_cases h2 : 6 < mx
 ·exact mrings_big1 sx sy ax qx ay qy nx cx mx dx ny cy my dy p T32 Keeps.t32 mworks_any (F h1).1 (F h1).2 (T h2).1 (T h2).2 w hT
 by_cases h3 : 6 < ny
 ·exact mrings_big2 sx sy ax qx ay qy nx cx mx dx ny cy my dy p T32 Keeps.t32 mworks_any (F h1).1 (F h1).2 (F h2).1 (F h2).2 (T h3).1 (T h3).2 w hT
 by_cases h4 : 6 < my
 ·exact mrings_big3 sx sy ax qx ay qy nx cx mx dx ny cy my dy p T32 Keeps.t32 mworks_any (F h1).1 (F h1).2 (F h2).1 (F h2).2 (F h3).1 (F h3).2 (T h4).1 (T h4).2 w hT
 have sa : Sz (gmade sx lx kx) 9 := gmade_sz (by omega) hwx hvx (by omega) (by omega)
 have sb : Sz (gmade sy ly ky) 9 := gmade_sz (by omega) hwy hvy (by omega) (by omega)
 have da := zmade_dI (s := sx) hwx.lt
 have db := zmade_dI (s := sy) hwy.lt
 have GX : ∀ w, (Ws w (.slice ax nx cx) lx ∧ Ws w (.slice qx mx dx) kx) → _ := fun w h => gof_any sx ax qx nx cx mx dx lx kx (by omega) (by omega) w h.1 h.2
 have GY : ∀ w, (Ws w (.slice ay ny cy) ly ∧ Ws w (.slice qy my dy) ky) → _ := fun w h => gof_any sy ay qy ny cy my dy ly ky (by omega) (by omega) w h.1 h.2
 have ZX : ∀ w, (Ws w (.slice ax nx cx) lx ∧ Ws w (.slice qx mx dx) kx) → _ := fun w h => zof_any sx ax nx cx lx (by omega) w h.1
 have ZY : ∀ w, (Ws w (.slice ay ny cy) ly ∧ Ws w (.slice qy my dy) ky) → _ := fun w h => zof_any sy ay ny cy ly (by omega) w h.1
 generalize gmade sx lx kx = a at *
 generalize gmade sy ly ky = b at *
 have da2 : dI (zmade sx lx) ≤ 1000 := by omega
 have db2 : dI (zmade sy ly) ≤ 1000 := by omega
 clear da db
 generalize zmade sx lx = m at *
 generalize zmade sy ly = n at *
 have L := fun z => rsz_lt32 z hp
 have I1 := fun w => addI m n (by omega) (by omega) w
 have O1 := fun w => ofintM (m + n) p (Nat.le_trans (dI_add da2 db2) (by omega)) hp w
 have O2 := fun w => ofintM m p (by omega) hp w
 have O3 := fun w => ofintM n p (by omega) hp w
 have A1 := adM hp (L m) (L n) (r := rsz (m + n) p) (rsz_add m n p).symm
 have I2 := fun w => mulI m n (by omega) (by omega) w
 have O4 := fun w => ofintM (m * n) p (Nat.le_trans (dI_mul da2 db2) (by omega)) hp w
 have M1 := muM hp (L m) (L n) (r := rsz (m * n) p) (rsz_mul m n p).symm
 have I3 := fun w => negI m w
 have O5 := fun w => ofintM (-m) p (by rw [dI_neg]; omega) hp w
 have S1 := suM hp (x := 0) (by omega) (L m) (r := rsz (-m) p) (rsz_neg m p).symm
 have F1 := fun w => offracM a p 9 sa (by omega) hp w
 have F2 := fun w => offracM b p 9 sb (by omega) hp w
 have q1 := F h1
 have q2 := F h2
 have q3 := F h3
 have q4 := F h4
 by_cases ha : frB a p = true
 ·by_cases hb : frB b p = true
  ·have hs := fr_add ha hb
   have hm := fr_mul ha hb
   have F3 := fun w => offracM (a + b) p _ (sa.add sb) (by omega) hp w
   have F4 := fun w => offracM (a * b) p _ (sa.mul sb) (by omega) hp w
   have A2 := adM hp (frR_lt32 a hp) (frR_lt32 b hp) (r := frR (a + b) p) hs.1.symm
   have M2 := muM hp (frR_lt32 a hp) (frR_lt32 b hp) (r := frR (a * b) p) hm.1.symm
   rw [ha] at F1
   rw [hb] at F2
   rw [hs.2] at F3
   rw [hm.2] at F4
   exact mrings_yes sx sy ax qx ay qy nx cx mx dx ny cy my dy p m n (m + n) (m * n) (-m) _ _ _ _ _ _ _ _ _ a b (a + b) (a * b) _ (gpair6 _ _ lx kx) ZX _ (gpair6 _ _ ly ky) ZY I1 O1 O2 O3 A1 I2 O4 M1 I3 O5 S1 GX GY F1 F2
    (addF a b 9 sa sb (by omega)) F3 (mulF a b 9 sa sb (by omega)) F4 A2 M2 T32 Keeps.t32 mworks_any q1.1 q1.2 q2.1 q2.2 q3.1 q3.2 q4.1 q4.2 w ⟨hwx, hvx⟩ ⟨hwy, hvy⟩ hT
  ·have hb2 : frB b p = false := by
    rcases hc : frB b p with _ | _
    ·rfl
    ·exact absurd hc hb
   rw [ha] at F1
   rw [hb2] at F2
   exact mrings_no2 sx sy ax qx ay qy nx cx mx dx ny cy my dy p m n (m + n) (m * n) (-m) _ _ _ _ _ _ _ a b _ (gpair6 _ _ lx kx) ZX _ (gpair6 _ _ ly ky) ZY I1 O1 O2 O3 A1 I2 O4 M1 I3 O5 S1 GX GY F1 F2 T32 Keeps.t32 mworks_any q1.1 q1.2 q2.1 q2.2 q3.1 q3.2 q4.1 q4.2 w ⟨hwx, hvx⟩ ⟨hwy, hvy⟩ hT
 ·have ha2 : frB a p = false := by
   rcases hc : frB a p with _ | _
   ·rfl
   ·exact absurd hc ha
  rw [ha2] at F1
  exact mrings_no1 sx sy ax qx ay qy nx cx mx dx ny cy my dy p m n (m + n) (m * n) (-m) _ _ _ _ _ _ _ (frB b p) a b _ (gpair6 _ _ lx kx) ZX _ (gpair6 _ _ ly ky) ZY I1 O1 O2 O3 A1 I2 O4 M1 I3 O5 S1 GX GY F1 F2 T32 Keeps.t32 mworks_any q1.1 q1.2 q2.1 q2.2 q3.1 q3.2 q4.1 q4.2 w ⟨hwx, hvx⟩ ⟨hwy, hvy⟩ hT
end Go.Proofs.YtfmakoiiibacjaaDoor
namespace Go.Proofs.YtfmakoiiibacjaaDoor
open Go.ChangeShapes Go.WideShapes Go.ChangeAt Go.RowKit Go.Joins
theorem cells62 : Tryd.prog.cellsOf 22 = 1 := by kernel_rfl
theorem wide_u32 {n : Int} (h : (Lit.int .u32 n).wf = true) : 0 ≤ n ∧ n ≤ 4294967295 := bounds_u32 h
theorem cellsZ : Tryd.prog.cellsOf 41 = 2 := by kernel_rfl
theorem ws_of_trod {H : Type} {enc : TypeId × Value → H} {W : World} {v : Value} {y : DataW H × List MemPlace} {fuel : Nat} (hf : DataW.trod enc Tryd.prog W 0 (fun _ => true) true fuel 39 [v] = some y) : ∃ a n c l, v = .slice a n c ∧ Ws W v l := by
 rcases open_ints Tryd.underlying39 Tryd.underlying22 cells62 hf with ⟨hcs, hx⟩ | ⟨a, len', cap', zs, hcs, _, hl, hm, hz, hx, hcell, hwz⟩
 ·simp only [List.cons.injEq, and_true] at hcs
  subst hcs
  exact ⟨none, 0, 0, [], rfl, .inl ⟨_, _, rfl, rfl⟩⟩
 ·simp only [List.cons.injEq, and_true] at hcs
  subst hcs
  simp only [if_true] at hz
  refine ⟨some a, len', cap', ?_⟩
  by_cases h0 : len' = 0
  ·subst h0
   exact ⟨[], rfl, .inl ⟨_, _, rfl, rfl⟩⟩
  ·have hll : ((zs.take len').map Int.toNat).length = len' := by simp; omega
   refine ⟨(zs.take len').map Int.toNat, rfl, .inr ⟨a, cap', by rw [hll], ?_, ?_, ?_⟩⟩
   ·intro x hx
    obtain ⟨z, hz1, rfl⟩ := List.mem_map.1 hx
    have := wide_u32 (hwz z (List.mem_of_mem_take hz1))
    omega
   ·intro i hi
    rw [hll] at hi
    have hi2 : i < zs.length := by omega
    have e := hcell i hi2
    rw [show zs.getD i 0 = zs[i] by simp [List.getD, hi2]] at e
    have hw := wide_u32 (hwz zs[i] (List.getElem_mem hi2))
    rw [e]
    simp only [List.getElem_map, List.getElem_take]
    rw [Int.toNat_of_nonneg hw.1]
   ·have e := hcell 0 (by omega)
    have := World.block_lt_of_cell? W _ e
    rw [show (a.add 0).block = a.block from by unfold Addr.add; split <;> rfl] at this
    exact this
theorem cellsG : Tryd.prog.cellsOf 43 = 3 := by kernel_rfl
theorem cellsW : Tryd.prog.cellsOf 39 = 1 := by kernel_rfl
theorem cellsB : Tryd.prog.cellsOf 4 = 1 := by kernel_rfl
set_option maxRecDepth 100000 in
theorem great_of {H : Type} {enc : TypeId × Value → H} {W : World} {base : Nat} {v : Value} {d : DataW H} {p : List MemPlace} (hv : Value.okWide Tryd.prog W .any base 43 v)
  (h : DataW.Trod enc Tryd.prog W 0 (fun _ => true) true 43 v d p) : ∃ s a q n c m d l k, v = .agg #[.bool s, .slice a n c, .slice q m d] ∧ Ws W (.slice a n c) l ∧ Ws W (.slice q m d) k := by
 obtain ⟨cs, rfl, hsz⟩ := okWide_struct Tryd.underlying43 hv
 obtain ⟨c0, c1, c2, rfl⟩ := array3 (hsz.trans cellsG)
 obtain ⟨fuel, hf⟩ := h
 obtain ⟨y0, y1, n, hx, _, h0, h1⟩ := trod_struct2 Tryd.underlying43 hf
 simp only [cellsZ, cellsW] at h0 h1
 obtain ⟨z0, z1, m, hz, _, g0, g1⟩ := trod_struct2 Tryd.underlying41 h0
 simp only [cellsB, cellsW] at g0 g1
 obtain ⟨s, e0, -⟩ := DataW.trod_bool Tryd.underlying4 g0
 obtain ⟨a1, n1, k1, l1, r1, w1⟩ := ws_of_trod g1
 obtain ⟨a2, n2, k2, l2, r2, w2⟩ := ws_of_trod h1
 simp [Value.cells] at e0 r1 r2
 subst e0 r1 r2
 exact ⟨s, a1, a2, n1, k1, n2, k2, l1, l2, rfl, w1, w2⟩
end Go.Proofs.YtfmakoiiibacjaaDoor
namespace Go.Proofs.YtfmakoiiibacjaaDoor.modsRings
open Go.ChangeShapes Go.WideShapes Go.ChangeAt Go.RowKit
set_option maxRecDepth 100000 in
theorem contract (H : Type) (enc : TypeId × Value → H) (W : World) (base : Nat) (args : Array Value) (ds gs : List (DataW H)) (before : List MemPlace)
  (hval : ∀ (j : Nat) t v, Tryd.f7.params[j]? = some t → args[j]? = some v → Value.okWide Tryd.prog W .any base t v)
  (hW : DataW.Whole enc Tryd.prog Tryd.f7.params.toList Rows.modsRingsSpec.vars false W args.toList ds gs before) (hL : laidMetH Tryd.prog Rows.modsRingsRow.laid W) (hSh : W.ShapedOpen Tryd.prog) :
  Calls Tryd.prog 7 args W fun e W' => ∃ v, e = .returned v ∧ Rows.modsRingsSpec.post enc Tryd.prog Tryd.f7 false true false false W args v W' := by
 have hW' := hW
 obtain ⟨p, q, hA0, hV, rfl, _, _⟩ := hW
 have hA : DataW.TrodAll enc Tryd.prog W 0 (fun _ => true) true Tryd.f7.params.toList args.toList ds p := hA0
 rw [Tryd.params7] at hA hval
 obtain ⟨v0, v1, v2, e0, e1, e2, p0, p1, p2, rfl, rfl, rfl, h0, h1, h2⟩ := trodAll_three hA
 obtain ⟨rfl, rfl⟩ := trodVars_none hV
 clear hA0
 simp only [List.append_nil] at hW'
 have hlt : ∀ x ∈ p0 ++ p1 ++ p2, x.block < W.heap.size := fun x hx => by simpa using hW'.lt x hx
 have t0 : ∀ x ∈ p0, x.block < W.heap.size := fun x hx => hlt x (by simp [hx])
 obtain ⟨s0, a0, q0, n0, c0, m0, d0, l0, k0, rfl, w0, u0⟩ := great_of (hval 0 43 v0 rfl rfl) h0
 have t1 : ∀ x ∈ p1, x.block < W.heap.size := fun x hx => hlt x (by simp [hx])
 obtain ⟨s1, a1, q1, n1, c1, m1, d1, l1, k1, rfl, w1, u1⟩ := great_of (hval 1 43 v1 rfl rfl) h1
 obtain ⟨z2, rfl, rfl, rfl, f2⟩ := open_int Tryd.underlying22 (hval 2 22 v2 rfl rfl) h2
 have b2 := bounds_u32 f2
 obtain ⟨n2, rfl⟩ : ∃ n : Nat, z2 = (n : Int) := ⟨z2.toNat, by omega⟩
 refine (mrings_any s0 s1 a0 q0 a1 q1 n0 c0 m0 d0 n1 c1 m1 d1 l0 k0 l1 k1 n2 (by omega) W (t32_of hL) w0 u0 w1 u1).mono fun e W' ⟨he, hb⟩ => ?_
 subst he
 refine ⟨_, rfl, _, _, _, [], ?pl, [], hW', ?_, ?_, rfl, hb.frame _, fun h => by cases h⟩
 rotate_left
 ·exact trodAll_mk1 (shut_bool Tryd.underlying4 _)
 ·exact trodAll_mk3 (Below.trod laidOut (by kernel_rfl) (of_decide_eq_true (by kernel_rfl)) h0 hb t0) (Below.trod laidOut (by kernel_rfl) (of_decide_eq_true (by kernel_rfl)) h1 hb t1) (shut_int Tryd.underlying22 f2)
/-- A world for the witness: the settled one, the tables as their initialisers lay them. -/
noncomputable def laidWorld (os : Os) : World := World.laidAll Tryd.prog os Rows.modsRingsRow.laid
theorem laid_met (os : Os) : laidMet Tryd.prog Rows.modsRingsRow.laid ((laidWorld os).forCall (fun _ _ => 0) ⟨#[], #[.agg #[.bool false, .slice none 0 0, .slice none 0 0], .agg #[.bool false, .slice none 0 0, .slice none 0 0], .int .u32 0], []⟩).memory :=
 laidMet_laidAll _ (by kernel_rfl) (by kernel_rfl)
theorem reads (os : Os) {H : Type} (enc : TypeId × Value → H) : ∃ places, DataW.whole enc Tryd.prog ((laidWorld os).forCall (fun _ _ => 0) ⟨#[], #[.agg #[.bool false, .slice none 0 0, .slice none 0 0], .agg #[.bool false, .slice none 0 0, .slice none 0 0], .int .u32 0], []⟩).memory Tryd.f7.params.toList Rows.modsRingsSpec.vars false (#[.agg #[.bool false, .slice none 0 0, .slice none 0 0], .agg #[.bool false, .slice none 0 0, .slice none 0 0], .int .u32 0] : Array Value).toList 8 = some ([.agg [.agg [.lit (.bool false), .nil], .nil], .agg [.agg [.lit (.bool false), .nil], .nil], .lit (.int .u32 0)], [], places) :=
 ⟨[], by kernel_rfl⟩
set_option maxRecDepth 100000 in
theorem lifted (os : Os) (started : os.Started) (H : Type) (enc : TypeId × Value → H) (F : Stop.Interp) :
  ReturnsInHanded {} Tryd.checked os 7 .any ((OpenSpec.ofChange Rows.modsRingsSpec).preRow enc Tryd.prog Tryd.f7 Rows.modsRingsRow.domain false Rows.modsRingsRow.laid) (((OpenSpec.ofChange Rows.modsRingsSpec).at F).post enc Tryd.prog Tryd.f7 false true false false) := by
 obtain ⟨places, hx⟩ := reads os enc
 refine returnsInHanded_of_row (C := Tryd.checked) (s := OpenSpec.ofChange Rows.modsRingsSpec) own started (by kernel_rfl) Tryd.func7
  (witness_row_at (enc := enc) (C := Tryd.checked) false (laidWorld os) #[.agg #[.bool false, .slice none 0 0, .slice none 0 0], .agg #[.bool false, .slice none 0 0, .slice none 0 0], .int .u32 0] (World.laidAll_os _ _ _) (by kernel_rfl) (by kernel_rfl) (by kernel_rfl)
   (OpenSpec.preRow_of_cond 8 hx (by kernel_rfl) (fun k hk => by cases hk) (by kernel_rfl) (laid_met os))) ?_
 intro W base args ds gs before hval hW _ _ _ hL hSh _
 exact contract H enc W base args ds gs before hval hW hL hSh
theorem said : Rows.ModsRingsSaid :=
 OpenClaim.holds_of_cond 7 Tryd.f7 rfl rfl rfl rfl rfl rfl rfl ⟨rfl, rfl, rfl, rfl, rfl⟩ rfl rfl rfl rfl rfl (by kernel_rfl) Tryd.func7 (by kernel_rfl)
  (of_decide_eq_true (by kernel_rfl)) (by unfold Func.isWrapper; first | (rw [if_pos (by decide +kernel)]; kernel_rfl) | (rw [if_neg (by decide +kernel)]; exact ⟨rfl, rfl⟩))
  (fun os started H enc _ F => by rw [OpenClaim.pre_eq_preRow]; exact lifted os started H enc F)
theorem plain (f : FuncId) (fn : Func) (hf : Tryd.pinned.checked.prog.funcNamed "gusset/gussetlaw06.ModsRings" = some f) (hfn : Tryd.pinned.checked.prog.funcs[f]? = some fn) :
  false = Tryd.pinned.checked.prog.looks [] ∧ ∀ (j : Nat) t, fn.params[j]? = some t → Tryd.pinned.checked.prog.wantsStandIn t = false := by
 obtain rfl : f = 7 := Option.some.inj ((show Tryd.prog.funcNamed "gusset/gussetlaw06.ModsRings" = some 7 by kernel_rfl).symm.trans hf) |>.symm
 obtain rfl : fn = Tryd.f7 := (Option.some.inj (Tryd.func7.symm.trans hfn)).symm
 refine ⟨by kernel_rfl, fun j t ht => ?_⟩
 rw [Tryd.params7] at ht
 have hm := Array.mem_of_getElem? ht
 simp only [List.mem_toArray, List.mem_cons, List.not_mem_nil, or_false] at hm
 rcases hm with rfl | rfl | rfl
 ·exact (show Tryd.prog.wantsStandIn 43 = false by kernel_rfl)
 ·exact (show Tryd.prog.wantsStandIn 43 = false by kernel_rfl)
 ·exact (show Tryd.prog.wantsStandIn 22 = false by kernel_rfl)
end Go.Proofs.YtfmakoiiibacjaaDoor.modsRings
namespace Go.Proofs.YtfmakoiiibacjaaDoor
open Go.ChangeShapes Go.WideShapes Go.ChangeAt Go.RowKit
/-- THE CARD -/
theorem modsRingsProved : Rows.ModsRingsCardSaid :=
 Claim7.holds_tied_plain_at .later [] _ _ _ _ modsRings.said (fun _ h => by cases h) (by kernel_rfl) (fun _ h => by cases h) modsRings_row_tie rfl ⟨rfl, rfl⟩ (by kernel_rfl) rfl modsRings.plain (by kernel_rfl)
end Go.Proofs.YtfmakoiiibacjaaDoor
