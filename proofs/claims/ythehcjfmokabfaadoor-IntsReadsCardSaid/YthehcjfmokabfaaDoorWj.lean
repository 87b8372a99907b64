/-
  Layer 1, walks J: Mul.
-/
import Derived.Test.YthehcjfmokabfaaDoorWi
set_option linter.unusedVariables false
set_option linter.unusedSimpArgs false
namespace Go.Proofs.YthehcjfmokabfaaDoor
open Go.RowKit
attribute [local irreducible] lo hs sm s64 c64 d64 b64 mh ml pd pc qd qc val hiB str

set_option maxHeartbeats 1000000 in
theorem mul_small (a b : Nat) (ha : a < Bs) (hb : b < Bs) (w : World) :
    Calls Tryd.prog 39 #[natV a, natV b] w fun e w' => e = .returned (natV (a * b)) ∧ Below w.heap.size w w' := by
  have sa := sm_true.2 ha
  have sb := sm_true.2 hb
  have hv : ml (lo a) (lo b) + Bs * mh (lo a) (lo b) = a * b := by rw [mul_spec, lo_small ha, lo_small hb]
  have HM := Lib.hid (mul64 (lo a) (lo b) (lo_lt a) (lo_lt b))
  have HT := Lib.hid (twoDigits_any (mh (lo a) (lo b)) (ml (lo a) (lo b)) (by have := mh_lt (lo_lt a) (lo_lt b); have := Bs_gt; omega) (ml_lt _ _))
  rw [hv] at HT
  clear hv
  go_enter Tryd.func39, Tryd.ntmps39
  go_wp2_with fail
  refine (small_any a _).mono ?_
  rintro e w1 ⟨rfl, hb1⟩
  obtain ⟨hc1, hf1⟩ := bcell hb1
  go_wp2_with fail
  refine (small_any b _).mono ?_
  rintro e w2 ⟨rfl, hb2⟩
  have hb12 := hb1.trans (hb2.mono hb1.size)
  obtain ⟨hc2, hf2⟩ := bcell hb12
  clear hc1 hf1
  go_wp2_with fail
  refine (HM.out _).mono ?_
  rintro e w2' ⟨rfl, rfl⟩
  go_wp2_with fail
  refine (HT.out _).mono ?_
  rintro e w3 ⟨rfl, hb3⟩
  have hb13 := hb12.trans (hb3.mono hb12.size)
  clear hc2 hf2
  obtain ⟨q0, q1, qf⟩ : Bx w3 (w.heap.size + 2) (.int .u64 0) (.string ⟨#[]⟩) := Bx.below (Bx.of _ _ _ _ _ (al3 w _ _ _)) hb13 (by simp)
  go_wp2
  exact bodyPost_ret (v := natV (a * b)) (by simp [results, Tryd.results39, go_sem, q0, q1]) rfl ⟨rfl, (((below3 w _ _ _).trans (hb13.mono (by simp <;> omega))).setCell (by simp <;> omega) _).setCell (by simp <;> omega) _⟩

set_option maxHeartbeats 4000000 in
set_option maxRecDepth 100000 in
theorem mul_bigA (a b : Nat) (ha : Bs ≤ a) (hla : (digs a).length ≤ 549755813887) (hlb : (digs b).length ≤ 549755813887) (w : World) :
    Calls Tryd.prog 39 #[natV a, natV b] w fun e w' => e = .returned (natV (a * b)) ∧ Below w.heap.size w w' := by
  have sa := sm_false.2 ha
  have hla' : (digs a).length ≤ 1099511627776 := by omega
  have hlb' : (digs b).length ≤ 1099511627776 := by omega
  go_enter Tryd.func39, Tryd.ntmps39
  go_wp2_with fail
  refine (small_any a _).mono ?_
  rintro e w1 ⟨rfl, hb1⟩
  obtain ⟨a0, a1, af⟩ := (Bx.of _ _ _ _ _ (al3_1 w _ _ _)).below hb1 (by simp <;> omega)
  obtain ⟨b0, b1, bf⟩ := (Bx.of _ _ _ _ _ (al3_2 w _ _ _)).below hb1 (by simp <;> omega)
  obtain ⟨r0, r1, rf⟩ := (Bx.of _ _ _ _ _ (al3 w _ _ _)).below hb1 (by simp)
  have hbw := (below3 w _ _ _).trans (hb1.mono (by simp <;> omega))
  have hs1 : w.heap.size + 3 ≤ w1.heap.size := by have := hb1.size; simp at this; omega
  clear hb1
  go_wp2_with fail
  go_region_held3 (fun w' => w'.cell? ⟨w.heap.size, 0, none⟩ = some (.int .u64 ((lo a : Nat) : Int)) ∧ w'.cell? ⟨w.heap.size, 1, none⟩ = some (.string (hs a)) ∧ w'.cell? ⟨w.heap.size + 1, 0, none⟩ = some (.int .u64 ((lo b : Nat) : Int)) ∧ w'.cell? ⟨w.heap.size + 1, 1, none⟩ = some (.string (hs b)))
    (first | exact ⟨a0, a1, b0, b1⟩ | exact ⟨a0', a1', b0', b1'⟩ | exact ⟨a0'', a1'', b0'', b1''⟩)
    (first
      | (go_at_call 44; ((with_reducible refine Calls.mono (digits_any a hla' _) ?_); rintro e w2 ⟨gx, cx, zx, rfl, hcx, hgx, hdx, hb2⟩; obtain ⟨a0', a1', af'⟩ := Bx.below (w := w1.drew) ⟨a0, a1, af⟩ hb2 (by simp <;> omega); obtain ⟨b0', b1', bf'⟩ := Bx.below (w := w1.drew) ⟨b0, b1, bf⟩ hb2 (by simp <;> omega)))
      | (go_at_call 44; ((with_reducible refine Calls.mono (digits_any b hlb' _) ?_); rintro e w3 ⟨gy, cy, zy, rfl, hcy, hgy, hdy, hb3⟩; obtain ⟨a0'', a1'', af''⟩ := Bx.below (w := w2) ⟨a0', a1', af'⟩ hb3 (by have := hb2.size; simp at this; omega); obtain ⟨b0'', b1'', bf''⟩ := Bx.below (w := w2) ⟨b0', b1', bf'⟩ hb3 (by have := hb2.size; simp at this; omega))))
  have dx3 : DB w3 gx (digs a ++ List.replicate zx 0) := hdx.below hb3 hdx.lt
  have hB3 : Below w1.heap.size w1 w3 := (((Below.refl w1.heap.size w1).drew).trans hb2).trans (hb3.mono hb2.size)
  have dy3 := hdy
  have hz3 := hB3.size
  clear a0' a1' af' b0' b1' bf' a0'' a1'' af'' b0'' b1'' bf'' a0 a1 af b0 b1 bf hdx hdy hb2 hb3 hgx hgy
  have hmk : ∀ w, (Instr.makeSlice 81 (.int .i64 (((digs a).length : Int) + ((digs b).length : Int))) (.int .i64 (((digs a).length : Int) + ((digs b).length : Int)))).run Tryd.prog w = .ok (.slice (some ⟨w.heap.size, 0, none⟩) ((digs a).length + (digs b).length) ((digs a).length + (digs b).length)) (w.alloc (zobj ((digs a).length + (digs b).length))) :=
    fun w => make64 w _ ((digs a).length + (digs b).length) (by omega) (by omega)
  go_wp2
  go_loopw [36] (fun x wr => ∃ (i : Nat) (Q : List Nat), i ≤ (digs a).length ∧ x = .int .i64 i ∧ Q.length = i + (digs b).length ∧ Dig Q ∧ val Q = val ((digs a).take i) * b ∧ DB wr w3.heap.size (Q ++ List.replicate ((digs a).length - i) 0) ∧ (w3.alloc (zobj ((digs a).length + (digs b).length))).grownBy wr (some w3.heap.size)) (fun x _ => (digs a).length - (intOf x).toNat)
  case atStart =>
    refine ⟨0, List.replicate (digs b).length 0, Nat.zero_le _, rfl, by simp, Dig.zeros _, by simp [val_zeros, val], ?_, grown_refl _ _⟩
    have h := DB.zeros w3 ((digs a).length + (digs b).length)
    rw [Nat.sub_zero, List.replicate_append_replicate, Nat.add_comm (digs b).length]; exact h
  case round =>
    obtain ⟨i, Q, hi, rfl, hQl, hQd, hQv, hdb, hg⟩ := hrel
    have hgx3 := dx3.lt
    have hgy3 := dy3.lt
    by_cases hik : i < (digs a).length
    · have hxc : wr.cell? ⟨gx, i, none⟩ = some (.int .u64 (((digs a)[i] : Nat) : Int)) := by
        rw [grown_cell hg (by omega) (by simp; omega), World.cell?_alloc_lt _ _ _ (by exact hgx3)]
        have := dx3.rdl i hik
        rwa [Nat.zero_add] at this
      have hry : Rd wr gy 0 (digs b) := fun j hj => by
        rw [grown_cell hg (by omega) (by simp; omega), World.cell?_alloc_lt _ _ _ (by exact hgy3)]
        exact dy3.rdl j hj
      have hgw : w3.heap.size < wr.heap.size := hdb.lt
      have hsplit : Q ++ List.replicate ((digs a).length - i) 0 = Q.take i ++ (Q.drop i ++ List.replicate ((digs a).length - i) 0) ++ [] := by
        rw [List.append_nil, ← List.append_assoc, List.take_append_drop]
      rw [hsplit] at hdb
      have hdigD : Dig (Q.drop i ++ List.replicate ((digs a).length - i) 0) := (hQd.drop i).app (Dig.zeros _)
      have hlQ : (Q.take i).length = i := by rw [List.length_take]; omega
      have hlD : (Q.drop i ++ List.replicate ((digs a).length - i) 0).length = (digs a).length + (digs b).length - i := by rw [List.length_append, List.length_drop, List.length_replicate]; omega
      have hdm : (Q.drop i ++ List.replicate ((digs a).length - i) 0).drop (digs b).length = 0 :: List.replicate ((digs a).length - i - 1) 0 := by
        rw [List.drop_left' (by rw [List.length_drop]; omega)]
        obtain ⟨j, hj⟩ : ∃ j, (digs a).length - i = j + 1 := ⟨(digs a).length - i - 1, by omega⟩
        rw [hj]; rfl
      have htm : (Q.drop i ++ List.replicate ((digs a).length - i) 0).take (digs b).length = Q.drop i := List.take_left' (by rw [List.length_drop]; omega)
      have hAP := addProduct_any w3.heap.size gy 0 ((digs a).length + (digs b).length - i) cy ((digs a)[i]) (Q.take i) (Q.drop i ++ List.replicate ((digs a).length - i) 0) [] (digs b) hdigD (digs_dig b) ((digs_dig a).get i hik) (by rw [hlD]; omega) (by rw [hlD]; omega) (by omega) wr hdb (by omega) hry
      rw [hlQ, hlD, hdm] at hAP
      have hst := take_snoc (digs a) i hik
      have hdI := (digs_dig a).get i hik
      generalize hdi : (digs a)[i] = dI at *
      have HAP := Lib.hid hAP
      have HST := Lib.hid hst
      have HTM := Lib.hid htm
      have HQV := Lib.hid hQv
      have HQL := Lib.hid hQl
      have HLQ := Lib.hid hlQ
      have hne : ¬ (digs a).length + (digs b).length = i := by omega
      clear hAP hst htm hQv hdm hlD hdigD hsplit hdi hdb hlQ hQl hdI
      go_wp2_with fail
      refine HAP.out.mono ?_
      rintro e w4 ⟨carry, P, rfl, hI, hdb4, hg4⟩
      have hPl := hI.len
      have hPd := hI.dig
      have HC := Lib.hid hI.le
      have hPe := hI.eq
      rw [HTM.out, List.take_length, val_digs] at hPe
      have hQl := HQL.out
      have hlQ := HLQ.out
      have hlen : i + (digs b).length < (Q.take i ++ (P ++ 0 :: List.replicate ((digs a).length - i - 1) 0) ++ []).length := by
        simp only [List.length_append, List.length_cons, List.length_nil, List.length_replicate, hlQ, hPl]; omega
      have hcell := hdb4.cell _ hlen
      have hfz := hdb4.frozen (i + (digs b).length)
      have hnext := hdb4.set _ hlen carry
      have hset : (Q.take i ++ (P ++ 0 :: List.replicate ((digs a).length - i - 1) 0) ++ []).set (i + (digs b).length) carry = (Q.take i ++ (P ++ [carry])) ++ List.replicate ((digs a).length - (i + 1)) 0 := by
        have := set_mid (Q.take i) P (List.replicate ((digs a).length - i - 1) 0) [] 0 carry
        rw [hlQ, hPl] at this
        rw [this, List.append_nil, Nat.sub_sub]; simp
      rw [hset] at hnext
      obtain ⟨x, hx⟩ : ∃ x : Int, w4.cell? ⟨w3.heap.size, i + (digs b).length, none⟩ = some (.int .u64 x) := ⟨_, hcell⟩
      have hval : val (Q.take i ++ (P ++ [carry])) = val ((digs a).take (i + 1)) * b := by
        rw [HST.out, val_append, val_snoc, hPl, hlQ, hPe]
        have h1 : val Q = val (Q.take i) + Bs ^ i * val (Q.drop i) := by
          conv => lhs; rw [← List.take_append_drop i Q, val_append, hlQ]
        have h2 := HQV.out
        rw [Nat.mul_add, Nat.add_mul, ← h2, h1, Nat.mul_assoc]; omega
      have HV := Lib.hid hval
      have HN := Lib.hid hnext
      have HPL := Lib.hid hPl
      clear hcell hlen hset hnext hdb4 hPl hQl hlQ hval hPe hI
      go_wp2
      go_roundw
      case rel =>
        refine ⟨i + 1, Q.take i ++ (P ++ [carry]), by omega, by go_num, ?_, (hQd.take i).app (hPd.app (Dig.cons ?_ Dig.nil)), HV.out, HN.out, grown_trans (grown_trans hg hg4) (grown_set _ _ _ _)⟩
        · rw [List.length_append, List.length_append, HLQ.out, HPL.out, List.length_singleton]; omega
        · exact HC.out
      case measure => simp [intOf]; omega
    · have hik' : i = (digs a).length := by omega
      subst hik'
      rw [List.take_length, val_digs] at hQv
      rw [Nat.sub_self, List.replicate_zero, List.append_nil] at hdb
      have hP := pack_any w3.heap.size 0 ((digs a).length + (digs b).length) Q hQd (by omega) (by omega) wr hdb.lt hdb.rd0
      rw [hQl, hQv] at hP
      have HP := Lib.hid hP
      have hB4 : Below w1.heap.size w1 wr := (hB3.alloc hB3.size _).trans (grown_below hg (by omega) (by simp; omega))
      clear hP hQv hQl
      go_wp2_with fail
      refine HP.out.mono ?_
      rintro e w6 ⟨rfl, hb6⟩
      have hB6 := hB4.trans (hb6.mono hB4.size)
      obtain ⟨r0', r1', rf'⟩ := Bx.below ⟨r0, r1, rf⟩ hB6 (by omega)
      go_wp2
      exact bodyPost_ret (v := natV (a * b)) (by simp [results, Tryd.results39, go_sem, r0', r1']) rfl ⟨rfl, ((hbw.trans (hB6.mono (by omega))).setCell (by simp <;> omega) _).setCell (by simp <;> omega) _⟩

set_option maxHeartbeats 4000000 in
set_option maxRecDepth 100000 in
theorem mul_bigB (a b : Nat) (ha : a < Bs) (hb : Bs ≤ b) (hla : (digs a).length ≤ 549755813887) (hlb : (digs b).length ≤ 549755813887) (w : World) :
    Calls Tryd.prog 39 #[natV a, natV b] w fun e w' => e = .returned (natV (a * b)) ∧ Below w.heap.size w w' := by
  have sa := sm_true.2 ha
  have sb := sm_false.2 hb
  have hla' : (digs a).length ≤ 1099511627776 := by omega
  have hlb' : (digs b).length ≤ 1099511627776 := by omega
  go_enter Tryd.func39, Tryd.ntmps39
  go_wp2_with fail
  refine (small_any a _).mono ?_
  rintro e w0 ⟨rfl, hb0⟩
  obtain ⟨hc0, hf0⟩ := bcell hb0
  go_wp2_with fail
  refine (small_any b _).mono ?_
  rintro e w1 ⟨rfl, hb01⟩
  have hb1 := hb0.trans (hb01.mono hb0.size)
  obtain ⟨a0, a1, af⟩ := (Bx.of _ _ _ _ _ (al3_1 w _ _ _)).below hb1 (by simp <;> omega)
  obtain ⟨b0, b1, bf⟩ := (Bx.of _ _ _ _ _ (al3_2 w _ _ _)).below hb1 (by simp <;> omega)
  obtain ⟨r0, r1, rf⟩ := (Bx.of _ _ _ _ _ (al3 w _ _ _)).below hb1 (by simp)
  have hbw := (below3 w _ _ _).trans (hb1.mono (by simp <;> omega))
  have hs1 : w.heap.size + 3 ≤ w1.heap.size := by have := hb1.size; simp at this; omega
  clear hb1 hb0 hb01 hc0 hf0
  go_wp2_with fail
  go_region_held3 (fun w' => w'.cell? ⟨w.heap.size, 0, none⟩ = some (.int .u64 ((lo a : Nat) : Int)) ∧ w'.cell? ⟨w.heap.size, 1, none⟩ = some (.string (hs a)) ∧ w'.cell? ⟨w.heap.size + 1, 0, none⟩ = some (.int .u64 ((lo b : Nat) : Int)) ∧ w'.cell? ⟨w.heap.size + 1, 1, none⟩ = some (.string (hs b)))
    (first | exact ⟨a0, a1, b0, b1⟩ | exact ⟨a0', a1', b0', b1'⟩ | exact ⟨a0'', a1'', b0'', b1''⟩)
    (first
      | (go_at_call 44; ((with_reducible refine Calls.mono (digits_any a hla' _) ?_); rintro e w2 ⟨gx, cx, zx, rfl, hcx, hgx, hdx, hb2⟩; obtain ⟨a0', a1', af'⟩ := Bx.below (w := w1.drew) ⟨a0, a1, af⟩ hb2 (by simp <;> omega); obtain ⟨b0', b1', bf'⟩ := Bx.below (w := w1.drew) ⟨b0, b1, bf⟩ hb2 (by simp <;> omega)))
      | (go_at_call 44; ((with_reducible refine Calls.mono (digits_any b hlb' _) ?_); rintro e w3 ⟨gy, cy, zy, rfl, hcy, hgy, hdy, hb3⟩; obtain ⟨a0'', a1'', af''⟩ := Bx.below (w := w2) ⟨a0', a1', af'⟩ hb3 (by have := hb2.size; simp at this; omega); obtain ⟨b0'', b1'', bf''⟩ := Bx.below (w := w2) ⟨b0', b1', bf'⟩ hb3 (by have := hb2.size; simp at this; omega))))
  have dx3 : DB w3 gx (digs a ++ List.replicate zx 0) := hdx.below hb3 hdx.lt
  have hB3 : Below w1.heap.size w1 w3 := (((Below.refl w1.heap.size w1).drew).trans hb2).trans (hb3.mono hb2.size)
  have dy3 := hdy
  have hz3 := hB3.size
  clear a0' a1' af' b0' b1' bf' a0'' a1'' af'' b0'' b1'' bf'' a0 a1 af b0 b1 bf hdx hdy hb2 hb3 hgx hgy
  have hmk : ∀ w, (Instr.makeSlice 81 (.int .i64 (((digs a).length : Int) + ((digs b).length : Int))) (.int .i64 (((digs a).length : Int) + ((digs b).length : Int)))).run Tryd.prog w = .ok (.slice (some ⟨w.heap.size, 0, none⟩) ((digs a).length + (digs b).length) ((digs a).length + (digs b).length)) (w.alloc (zobj ((digs a).length + (digs b).length))) :=
    fun w => make64 w _ ((digs a).length + (digs b).length) (by omega) (by omega)
  go_wp2
  go_loopw [36] (fun x wr => ∃ (i : Nat) (Q : List Nat), i ≤ (digs a).length ∧ x = .int .i64 i ∧ Q.length = i + (digs b).length ∧ Dig Q ∧ val Q = val ((digs a).take i) * b ∧ DB wr w3.heap.size (Q ++ List.replicate ((digs a).length - i) 0) ∧ (w3.alloc (zobj ((digs a).length + (digs b).length))).grownBy wr (some w3.heap.size)) (fun x _ => (digs a).length - (intOf x).toNat)
  case atStart =>
    refine ⟨0, List.replicate (digs b).length 0, Nat.zero_le _, rfl, by simp, Dig.zeros _, by simp [val_zeros, val], ?_, grown_refl _ _⟩
    have h := DB.zeros w3 ((digs a).length + (digs b).length)
    rw [Nat.sub_zero, List.replicate_append_replicate, Nat.add_comm (digs b).length]; exact h
  case round =>
    obtain ⟨i, Q, hi, rfl, hQl, hQd, hQv, hdb, hg⟩ := hrel
    have hgx3 := dx3.lt
    have hgy3 := dy3.lt
    by_cases hik : i < (digs a).length
    · have hxc : wr.cell? ⟨gx, i, none⟩ = some (.int .u64 (((digs a)[i] : Nat) : Int)) := by
        rw [grown_cell hg (by omega) (by simp; omega), World.cell?_alloc_lt _ _ _ (by exact hgx3)]
        have := dx3.rdl i hik
        rwa [Nat.zero_add] at this
      have hry : Rd wr gy 0 (digs b) := fun j hj => by
        rw [grown_cell hg (by omega) (by simp; omega), World.cell?_alloc_lt _ _ _ (by exact hgy3)]
        exact dy3.rdl j hj
      have hgw : w3.heap.size < wr.heap.size := hdb.lt
      have hsplit : Q ++ List.replicate ((digs a).length - i) 0 = Q.take i ++ (Q.drop i ++ List.replicate ((digs a).length - i) 0) ++ [] := by
        rw [List.append_nil, ← List.append_assoc, List.take_append_drop]
      rw [hsplit] at hdb
      have hdigD : Dig (Q.drop i ++ List.replicate ((digs a).length - i) 0) := (hQd.drop i).app (Dig.zeros _)
      have hlQ : (Q.take i).length = i := by rw [List.length_take]; omega
      have hlD : (Q.drop i ++ List.replicate ((digs a).length - i) 0).length = (digs a).length + (digs b).length - i := by rw [List.length_append, List.length_drop, List.length_replicate]; omega
      have hdm : (Q.drop i ++ List.replicate ((digs a).length - i) 0).drop (digs b).length = 0 :: List.replicate ((digs a).length - i - 1) 0 := by
        rw [List.drop_left' (by rw [List.length_drop]; omega)]
        obtain ⟨j, hj⟩ : ∃ j, (digs a).length - i = j + 1 := ⟨(digs a).length - i - 1, by omega⟩
        rw [hj]; rfl
      have htm : (Q.drop i ++ List.replicate ((digs a).length - i) 0).take (digs b).length = Q.drop i := List.take_left' (by rw [List.length_drop]; omega)
      have hAP := addProduct_any w3.heap.size gy 0 ((digs a).length + (digs b).length - i) cy ((digs a)[i]) (Q.take i) (Q.drop i ++ List.replicate ((digs a).length - i) 0) [] (digs b) hdigD (digs_dig b) ((digs_dig a).get i hik) (by rw [hlD]; omega) (by rw [hlD]; omega) (by omega) wr hdb (by omega) hry
      rw [hlQ, hlD, hdm] at hAP
      have hst := take_snoc (digs a) i hik
      have hdI := (digs_dig a).get i hik
      generalize hdi : (digs a)[i] = dI at *
      have HAP := Lib.hid hAP
      have HST := Lib.hid hst
      have HTM := Lib.hid htm
      have HQV := Lib.hid hQv
      have HQL := Lib.hid hQl
      have HLQ := Lib.hid hlQ
      have hne : ¬ (digs a).length + (digs b).length = i := by omega
      clear hAP hst htm hQv hdm hlD hdigD hsplit hdi hdb hlQ hQl hdI
      go_wp2_with fail
      refine HAP.out.mono ?_
      rintro e w4 ⟨carry, P, rfl, hI, hdb4, hg4⟩
      have hPl := hI.len
      have hPd := hI.dig
      have HC := Lib.hid hI.le
      have hPe := hI.eq
      rw [HTM.out, List.take_length, val_digs] at hPe
      have hQl := HQL.out
      have hlQ := HLQ.out
      have hlen : i + (digs b).length < (Q.take i ++ (P ++ 0 :: List.replicate ((digs a).length - i - 1) 0) ++ []).length := by
        simp only [List.length_append, List.length_cons, List.length_nil, List.length_replicate, hlQ, hPl]; omega
      have hcell := hdb4.cell _ hlen
      have hfz := hdb4.frozen (i + (digs b).length)
      have hnext := hdb4.set _ hlen carry
      have hset : (Q.take i ++ (P ++ 0 :: List.replicate ((digs a).length - i - 1) 0) ++ []).set (i + (digs b).length) carry = (Q.take i ++ (P ++ [carry])) ++ List.replicate ((digs a).length - (i + 1)) 0 := by
        have := set_mid (Q.take i) P (List.replicate ((digs a).length - i - 1) 0) [] 0 carry
        rw [hlQ, hPl] at this
        rw [this, List.append_nil, Nat.sub_sub]; simp
      rw [hset] at hnext
      obtain ⟨x, hx⟩ : ∃ x : Int, w4.cell? ⟨w3.heap.size, i + (digs b).length, none⟩ = some (.int .u64 x) := ⟨_, hcell⟩
      have hval : val (Q.take i ++ (P ++ [carry])) = val ((digs a).take (i + 1)) * b := by
        rw [HST.out, val_append, val_snoc, hPl, hlQ, hPe]
        have h1 : val Q = val (Q.take i) + Bs ^ i * val (Q.drop i) := by
          conv => lhs; rw [← List.take_append_drop i Q, val_append, hlQ]
        have h2 := HQV.out
        rw [Nat.mul_add, Nat.add_mul, ← h2, h1, Nat.mul_assoc]; omega
      have HV := Lib.hid hval
      have HN := Lib.hid hnext
      have HPL := Lib.hid hPl
      clear hcell hlen hset hnext hdb4 hPl hQl hlQ hval hPe hI
      go_wp2
      go_roundw
      case rel =>
        refine ⟨i + 1, Q.take i ++ (P ++ [carry]), by omega, by go_num, ?_, (hQd.take i).app (hPd.app (Dig.cons ?_ Dig.nil)), HV.out, HN.out, grown_trans (grown_trans hg hg4) (grown_set _ _ _ _)⟩
        · rw [List.length_append, List.length_append, HLQ.out, HPL.out, List.length_singleton]; omega
        · exact HC.out
      case measure => simp [intOf]; omega
    · have hik' : i = (digs a).length := by omega
      subst hik'
      rw [List.take_length, val_digs] at hQv
      rw [Nat.sub_self, List.replicate_zero, List.append_nil] at hdb
      have hP := pack_any w3.heap.size 0 ((digs a).length + (digs b).length) Q hQd (by omega) (by omega) wr hdb.lt hdb.rd0
      rw [hQl, hQv] at hP
      have HP := Lib.hid hP
      have hB4 : Below w1.heap.size w1 wr := (hB3.alloc hB3.size _).trans (grown_below hg (by omega) (by simp; omega))
      clear hP hQv hQl
      go_wp2_with fail
      refine HP.out.mono ?_
      rintro e w6 ⟨rfl, hb6⟩
      have hB6 := hB4.trans (hb6.mono hB4.size)
      obtain ⟨r0', r1', rf'⟩ := Bx.below ⟨r0, r1, rf⟩ hB6 (by omega)
      go_wp2
      exact bodyPost_ret (v := natV (a * b)) (by simp [results, Tryd.results39, go_sem, r0', r1']) rfl ⟨rfl, ((hbw.trans (hB6.mono (by omega))).setCell (by simp <;> omega) _).setCell (by simp <;> omega) _⟩

theorem mul_any (a b : Nat) (hla : (digs a).length ≤ 549755813887) (hlb : (digs b).length ≤ 549755813887) (w : World) :
    Calls Tryd.prog 39 #[natV a, natV b] w fun e w' => e = .returned (natV (a * b)) ∧ Below w.heap.size w w' := by
  rcases Nat.lt_or_ge a Bs with ha | ha
  · rcases Nat.lt_or_ge b Bs with hb | hb
    · exact mul_small a b ha hb w
    · exact mul_bigB a b ha hb hla hlb w
  · exact mul_bigA a b ha hla hlb w
end Go.Proofs.YthehcjfmokabfaaDoor
