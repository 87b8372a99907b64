/-
  Layer 1, walks J: Mul.
-/
import Derived.Test.YthehcjfmokabfaaGreatDoorYe
import Derived.Test.YthehcjfmokabfaaGreatDoorYf
set_option linter.unusedVariables false
set_option linter.unusedSimpArgs false
namespace Go.Proofs.YthehcjfmokabfaaGreatDoor
open Go.RowKit
attribute [local irreducible] lo hs sm s64 c64 d64 b64 mh ml pd pc qd qc val hiB str

set_option maxHeartbeats 1000000 in
theorem mul_small (a b : Nat) (ha : a < Bs) (hb : b < Bs) (w : World) :
    Calls Tryz.prog 58 #[natV a, natV b] w fun e w' => e = .returned (natV (a * b)) ∧ Below w.heap.size w w' := by
  have sa := sm_true.2 ha
  have sb := sm_true.2 hb
  have hv : ml (lo a) (lo b) + Bs * mh (lo a) (lo b) = a * b := by rw [mul_spec, lo_small ha, lo_small hb]
  have HM := Lib.hid (mul64 (lo a) (lo b) (lo_lt a) (lo_lt b))
  have HT := Lib.hid (twoDigits_any (mh (lo a) (lo b)) (ml (lo a) (lo b)) (by have := mh_lt (lo_lt a) (lo_lt b); have := Bs_gt; omega) (ml_lt _ _))
  rw [hv] at HT
  clear hv
  go_enter Tryz.func58, Tryz.ntmps58
  go_wp2_with fail
  refine (small_any a _).mono ?_
  rintro e w1 ⟨rfl, hb1⟩
  obtain ⟨hc1, hf1⟩ := bcell hb1
  go_wp2_with fail
  refine (small_any b _).mono ?_
  rintro e w2 ⟨rfl, hb2⟩
  have hb12 := hb1.trans (hb2.mono hb1.size)
  obtain ⟨hc2, hf2⟩ := bcell hb12
  clear hc1 hf1
  go_wp2_with fail
  refine (HM.out _).mono ?_
  rintro e w2' ⟨rfl, rfl⟩
  go_wp2_with fail
  refine (HT.out _).mono ?_
  rintro e w3 ⟨rfl, hb3⟩
  have hb13 := hb12.trans (hb3.mono hb12.size)
  clear hc2 hf2
  obtain ⟨q0, q1, qf⟩ : Bx w3 (w.heap.size + 2) (.int .u64 0) (.string ⟨#[]⟩) := Bx.below (Bx.of _ _ _ _ _ (al3 w _ _ _)) hb13 (by simp)
  go_wp2
  exact bodyPost_ret (v := natV (a * b)) (by simp [results, Tryz.results58, go_sem, q0, q1]) rfl ⟨rfl, (((below3 w _ _ _).trans (hb13.mono (by simp <;> omega))).setCell (by simp <;> omega) _).setCell (by simp <;> omega) _⟩

set_option maxHeartbeats 4000000 in
set_option maxRecDepth 100000 in
theorem mul_bigA (a b : Nat) (ha : Bs ≤ a) (hla : (digs a).length ≤ 549755813887) (hlb : (digs b).length ≤ 549755813887) (w : World) :
    Calls Tryz.prog 58 #[natV a, natV b] w fun e w' => e = .returned (natV (a * b)) ∧ Below w.heap.size w w' := by
  have sa := sm_false.2 ha
  have hla' : (digs a).length ≤ 1099511627776 := by omega
  have hlb' : (digs b).length ≤ 1099511627776 := by omega
  go_enter Tryz.func58, Tryz.ntmps58
  go_wp2_with fail
  refine (small_any a _).mono ?_
  rintro e w1 ⟨rfl, hb1⟩
  obtain ⟨a0, a1, af⟩ := (Bx.of _ _ _ _ _ (al3_1 w _ _ _)).below hb1 (by simp <;> omega)
  obtain ⟨b0, b1, bf⟩ := (Bx.of _ _ _ _ _ (al3_2 w _ _ _)).below hb1 (by simp <;> omega)
  obtain ⟨r0, r1, rf⟩ := (Bx.of _ _ _ _ _ (al3 w _ _ _)).below hb1 (by simp)
  have hbw := (below3 w _ _ _).trans (hb1.mono (by simp <;> omega))
  have hs1 : w.heap.size + 3 ≤ w1.heap.size := by have := hb1.size; simp at this; omega
  clear hb1
  go_wp2_with fail
  go_region_held3 (fun w' => w'.cell? ⟨w.heap.size, 0, none⟩ = some (.int .u64 ((lo a : Nat) : Int)) ∧ w'.cell? ⟨w.heap.size, 1, none⟩ = some (.string (hs a)) ∧ w'.cell? ⟨w.heap.size + 1, 0, none⟩ = some (.int .u64 ((lo b : Nat) : Int)) ∧ w'.cell? ⟨w.heap.size + 1, 1, none⟩ = some (.string (hs b)))
    (first | exact ⟨a0, a1, b0, b1⟩ | exact ⟨a0', a1', b0', b1'⟩ | exact ⟨a0'', a1'', b0'', b1''⟩)
    (first
      | (go_at_call 84; ((with_reducible refine Calls.mono (digits_any a hla' _) ?_); rintro e w2 ⟨gx, cx, zx, rfl, hcx, hgx, hdx, hb2⟩; obtain ⟨a0', a1', af'⟩ := Bx.below (w := w1.drew) ⟨a0, a1, af⟩ hb2 (by simp <;> omega); obtain ⟨b0', b1', bf'⟩ := Bx.below (w := w1.drew) ⟨b0, b1, bf⟩ hb2 (by simp <;> omega)))
      | (go_at_call 84; ((with_reducible refine Calls.mono (digits_any b hlb' _) ?_); rintro e w3 ⟨gy, cy, zy, rfl, hcy, hgy, hdy, hb3⟩; obtain ⟨a0'', a1'', af''⟩ := Bx.below (w := w2) ⟨a0', a1', af'⟩ hb3 (by have := hb2.size; simp at this; omega); obtain ⟨b0'', b1'', bf''⟩ := Bx.below (w := w2) ⟨b0', b1', bf'⟩ hb3 (by have := hb2.size; simp at this; omega))))
  have dx3 : DB w3 gx (digs a ++ List.replicate zx 0) := hdx.below hb3 hdx.lt
  have hB3 : Below w1.heap.size w1 w3 := (((Below.refl w1.heap.size w1).drew).trans hb2).trans (hb3.mono hb2.size)
  have dy3 := hdy
  have hz3 := hB3.size
  clear a0' a1' af' b0' b1' bf' a0'' a1'' af'' b0'' b1'' bf'' a0 a1 af b0 b1 bf hdx hdy hb2 hb3 hgx hgy
  have hmk : ∀ w, (Instr.makeSlice 114 (.int .i64 (((digs a).length : Int) + ((digs b).length : Int))) (.int .i64 (((digs a).length : Int) + ((digs b).length : Int)))).run Tryz.prog w = .ok (.slice (some ⟨w.heap.size, 0, none⟩) ((digs a).length + (digs b).length) ((digs a).length + (digs b).length)) (w.alloc (zobj ((digs a).length + (digs b).length))) :=
    fun w => make64 w _ ((digs a).length + (digs b).length) (by omega) (by omega)
  go_wp2
  go_loopw [36] (fun x wr => ∃ (i : Nat) (Q : List Nat), i ≤ (digs a).length ∧ x = .int .i64 i ∧ Q.length = i + (digs b).length ∧ Dig Q ∧ val Q = val ((digs a).take i) * b ∧ DB wr w3.heap.size (Q ++ List.replicate ((digs a).length - i) 0) ∧ (w3.alloc (zobj ((digs a).length + (digs b).length))).grownBy wr (some w3.heap.size)) (fun x _ => (digs a).length - (intOf x).toNat)
  case atStart =>
    refine ⟨0, List.replicate (digs b).length 0, Nat.zero_le _, rfl, by simp, Dig.zeros _, by simp [val_zeros, val], ?_, grown_refl _ _⟩
    have h := DB.zeros w3 ((digs a).length + (digs b).length)
    rw [Nat.sub_zero, List.replicate_append_replicate, Nat.add_comm (digs b).length]; exact h
  case round =>
    obtain ⟨i, Q, hi, rfl, hQl, hQd, hQv, hdb, hg⟩ := hrel
    have hgx3 := dx3.lt
    have hgy3 := dy3.lt
    by_cases hik : i < (digs a).length
    · have hxc : wr.cell? ⟨gx, i, none⟩ = some (.int .u64 (((digs a)[i] : Nat) : Int)) := by
        rw [grown_cell hg (by omega) (by simp; omega), World.cell?_alloc_lt _ _ _ (by exact hgx3)]
        have := dx3.rdl i hik
        rwa [Nat.zero_add] at this
      have hry : Rd wr gy 0 (digs b) := fun j hj => by
        rw [grown_cell hg (by omega) (by simp; omega), World.cell?_alloc_lt _ _ _ (by exact hgy3)]
        exact dy3.rdl j hj
      have hgw : w3.heap.size < wr.heap.size := hdb.lt
      have hsplit : Q ++ List.replicate ((digs a).length - i) 0 = Q.take i ++ (Q.drop i ++ List.replicate ((digs a).length - i) 0) ++ [] := by
        rw [List.append_nil, ← List.append_assoc, List.take_append_drop]
      rw [hsplit] at hdb
      have hdigD : Dig (Q.drop i ++ List.replicate ((digs a).length - i) 0) := (hQd.drop i).app (Dig.zeros _)
      have hlQ : (Q.take i).length = i := by rw [List.length_take]; omega
      have hlD : (Q.drop i ++ List.replicate ((digs a).length - i) 0).length = (digs a).length + (digs b).length - i := by rw [List.length_append, List.length_drop, List.length_replicate]; omega
      have hdm : (Q.drop i ++ List.replicate ((digs a).length - i) 0).drop (digs b).length = 0 :: List.replicate ((digs a).length - i - 1) 0 := by
        rw [List.drop_left' (by rw [List.length_drop]; omega)]
        obtain ⟨j, hj⟩ : ∃ j, (digs a).length - i = j + 1 := ⟨(digs a).length - i - 1, by omega⟩
        rw [hj]; rfl
      have htm : (Q.drop i ++ List.replicate ((digs a).length - i) 0).take (digs b).length = Q.drop i := List.take_left' (by rw [List.length_drop]; omega)
      have hAP := addProduct_any w3.heap.size gy 0 ((digs a).length + (digs b).length - i) cy ((digs a)[i]) (Q.take i) (Q.drop i ++ List.replicate ((digs a).length - i) 0) [] (digs b) hdigD (digs_dig b) ((digs_dig a).get i hik) (by rw [hlD]; omega) (by rw [hlD]; omega) (by omega) wr hdb (by omega) hry
      rw [hlQ, hlD, hdm] at hAP
      have hst := take_snoc (digs a) i hik
      have hdI := (digs_dig a).get i hik
      generalize hdi : (digs a)[i] = dI at *
      have HAP := Lib.hid hAP
      have HST := Lib.hid hst
      have HTM := Lib.hid htm
      have HQV := Lib.hid hQv
      have HQL := Lib.hid hQl
      have HLQ := Lib.hid hlQ
      have hne : ¬ (digs a).length + (digs b).length = i := by omega
      clear hAP hst htm hQv hdm hlD hdigD hsplit hdi hdb hlQ hQl hdI
      go_wp2_with fail
      refine HAP.out.mono ?_
      rintro e w4 ⟨carry, P, rfl, hI, hdb4, hg4⟩
      have hPl := hI.len
      have hPd := hI.dig
      have HC := Lib.hid hI.le
      have hPe := hI.eq
      rw [HTM.out, List.take_length, val_digs] at hPe
      have hQl := HQL.out
      have hlQ := HLQ.out
      have hlen : i + (digs b).length < (Q.take i ++ (P ++ 0 :: List.replicate ((digs a).length - i - 1) 0) ++ []).length := by
        simp only [List.length_append, List.length_cons, List.length_nil, List.length_replicate, hlQ, hPl]; omega
      have hcell := hdb4.cell _ hlen
      have hfz := hdb4.frozen (i + (digs b).length)
      have hnext := hdb4.set _ hlen carry
      have hset : (Q.take i ++ (P ++ 0 :: List.replicate ((digs a).length - i - 1) 0) ++ []).set (i + (digs b).length) carry = (Q.take i ++ (P ++ [carry])) ++ List.replicate ((digs a).length - (i + 1)) 0 := by
        have := set_mid (Q.take i) P (List.replicate ((digs a).length - i - 1) 0) [] 0 carry
        rw [hlQ, hPl] at this
        rw [this, List.append_nil, Nat.sub_sub]; simp
      rw [hset] at hnext
      obtain ⟨x, hx⟩ : ∃ x : Int, w4.cell? ⟨w3.heap.size, i + (digs b).length, none⟩ = some (.int .u64 x) := ⟨_, hcell⟩
      have hval : val (Q.take i ++ (P ++ [carry])) = val ((digs a).take (i + 1)) * b := by
        rw [HST.out, val_append, val_snoc, hPl, hlQ, hPe]
        have h1 : val Q = val (Q.take i) + Bs ^ i * val (Q.drop i) := by
          conv => lhs; rw [← List.take_append_drop i Q, val_append, hlQ]
        have h2 := HQV.out
        rw [Nat.mul_add, Nat.add_mul, ← h2, h1, Nat.mul_assoc]; omega
      have HV := Lib.hid hval
      have HN := Lib.hid hnext
      have HPL := Lib.hid hPl
      clear hcell hlen hset hnext hdb4 hPl hQl hlQ hval hPe hI
      go_wp2
      go_roundw
      case rel =>
        refine ⟨i + 1, Q.take i ++ (P ++ [carry]), by omega, by go_num, ?_, (hQd.take i).app (hPd.app (Dig.cons ?_ Dig.nil)), HV.out, HN.out, grown_trans (grown_trans hg hg4) (grown_set _ _ _ _)⟩
        · rw [List.length_append, List.length_append, HLQ.out, HPL.out, List.length_singleton]; omega
        · exact HC.out
      case measure => simp [intOf]; omega
    · have hik' : i = (digs a).length := by omega
      subst hik'
      rw [List.take_length, val_digs] at hQv
      rw [Nat.sub_self, List.replicate_zero, List.append_nil] at hdb
      have hP := pack_any w3.heap.size 0 ((digs a).length + (digs b).length) Q hQd (by omega) (by omega) wr hdb.lt hdb.rd0
      rw [hQl, hQv] at hP
      have HP := Lib.hid hP
      have hB4 : Below w1.heap.size w1 wr := (hB3.alloc hB3.size _).trans (grown_below hg (by omega) (by simp; omega))
      clear hP hQv hQl
      go_wp2_with fail
      refine HP.out.mono ?_
      rintro e w6 ⟨rfl, hb6⟩
      have hB6 := hB4.trans (hb6.mono hB4.size)
      obtain ⟨r0', r1', rf'⟩ := Bx.below ⟨r0, r1, rf⟩ hB6 (by omega)
      go_wp2
      exact bodyPost_ret (v := natV (a * b)) (by simp [results, Tryz.results58, go_sem, r0', r1']) rfl ⟨rfl, ((hbw.trans (hB6.mono (by omega))).setCell (by simp <;> omega) _).setCell (by simp <;> omega) _⟩

set_option maxHeartbeats 4000000 in
set_option maxRecDepth 100000 in
theorem mul_bigB (a b : Nat) (ha : a < Bs) (hb : Bs ≤ b) (hla : (digs a).length ≤ 549755813887) (hlb : (digs b).length ≤ 549755813887) (w : World) :
    Calls Tryz.prog 58 #[natV a, natV b] w fun e w' => e = .returned (natV (a * b)) ∧ Below w.heap.size w w' := by
  have sa := sm_true.2 ha
  have sb := sm_false.2 hb
  have hla' : (digs a).length ≤ 1099511627776 := by omega
  have hlb' : (digs b).length ≤ 1099511627776 := by omega
  go_enter Tryz.func58, Tryz.ntmps58
  go_wp2_with fail
  refine (small_any a _).mono ?_
  rintro e w0 ⟨rfl, hb0⟩
  obtain ⟨hc0, hf0⟩ := bcell hb0
  go_wp2_with fail
  refine (small_any b _).mono ?_
  rintro e w1 ⟨rfl, hb01⟩
  have hb1 := hb0.trans (hb01.mono hb0.size)
  obtain ⟨a0, a1, af⟩ := (Bx.of _ _ _ _ _ (al3_1 w _ _ _)).below hb1 (by simp <;> omega)
  obtain ⟨b0, b1, bf⟩ := (Bx.of _ _ _ _ _ (al3_2 w _ _ _)).below hb1 (by simp <;> omega)
  obtain ⟨r0, r1, rf⟩ := (Bx.of _ _ _ _ _ (al3 w _ _ _)).below hb1 (by simp)
  have hbw := (below3 w _ _ _).trans (hb1.mono (by simp <;> omega))
  have hs1 : w.heap.size + 3 ≤ w1.heap.size := by have := hb1.size; simp at this; omega
  clear hb1 hb0 hb01 hc0 hf0
  go_wp2_with fail
  go_region_held3 (fun w' => w'.cell? ⟨w.heap.size, 0, none⟩ = some (.int .u64 ((lo a : Nat) : Int)) ∧ w'.cell? ⟨w.heap.size, 1, none⟩ = some (.string (hs a)) ∧ w'.cell? ⟨w.heap.size + 1, 0, none⟩ = some (.int .u64 ((lo b : Nat) : Int)) ∧ w'.cell? ⟨w.heap.size + 1, 1, none⟩ = some (.string (hs b)))
    (first | exact ⟨a0, a1, b0, b1⟩ | exact ⟨a0', a1', b0', b1'⟩ | exact ⟨a0'', a1'', b0'', b1''⟩)
    (first
      | (go_at_call 84; ((with_reducible refine Calls.mono (digits_any a hla' _) ?_); rintro e w2 ⟨gx, cx, zx, rfl, hcx, hgx, hdx, hb2⟩; obtain ⟨a0', a1', af'⟩ := Bx.below (w := w1.drew) ⟨a0, a1, af⟩ hb2 (by simp <;> omega); obtain ⟨b0', b1', bf'⟩ := Bx.below (w := w1.drew) ⟨b0, b1, bf⟩ hb2 (by simp <;> omega)))
      | (go_at_call 84; ((with_reducible refine Calls.mono (digits_any b hlb' _) ?_); rintro e w3 ⟨gy, cy, zy, rfl, hcy, hgy, hdy, hb3⟩; obtain ⟨a0'', a1'', af''⟩ := Bx.below (w := w2) ⟨a0', a1', af'⟩ hb3 (by have := hb2.size; simp at this; omega); obtain ⟨b0'', b1'', bf''⟩ := Bx.below (w := w2) ⟨b0', b1', bf'⟩ hb3 (by have := hb2.size; simp at this; omega))))
  have dx3 : DB w3 gx (digs a ++ List.replicate zx 0) := hdx.below hb3 hdx.lt
  have hB3 : Below w1.heap.size w1 w3 := (((Below.refl w1.heap.size w1).drew).trans hb2).trans (hb3.mono hb2.size)
  have dy3 := hdy
  have hz3 := hB3.size
  clear a0' a1' af' b0' b1' bf' a0'' a1'' af'' b0'' b1'' bf'' a0 a1 af b0 b1 bf hdx hdy hb2 hb3 hgx hgy
  have hmk : ∀ w, (Instr.makeSlice 114 (.int .i64 (((digs a).length : Int) + ((digs b).length : Int))) (.int .i64 (((digs a).length : Int) + ((digs b).length : Int)))).run Tryz.prog w = .ok (.slice (some ⟨w.heap.size, 0, none⟩) ((digs a).length + (digs b).length) ((digs a).length + (digs b).length)) (w.alloc (zobj ((digs a).length + (digs b).length))) :=
    fun w => make64 w _ ((digs a).length + (digs b).length) (by omega) (by omega)
  go_wp2
  go_loopw [36] (fun x wr => ∃ (i : Nat) (Q : List Nat), i ≤ (digs a).length ∧ x = .int .i64 i ∧ Q.length = i + (digs b).length ∧ Dig Q ∧ val Q = val ((digs a).take i) * b ∧ DB wr w3.heap.size (Q ++ List.replicate ((digs a).length - i) 0) ∧ (w3.alloc (zobj ((digs a).length + (digs b).length))).grownBy wr (some w3.heap.size)) (fun x _ => (digs a).length - (intOf x).toNat)
  case atStart =>
    refine ⟨0, List.replicate (digs b).length 0, Nat.zero_le _, rfl, by simp, Dig.zeros _, by simp [val_zeros, val], ?_, grown_refl _ _⟩
    have h := DB.zeros w3 ((digs a).length + (digs b).length)
    rw [Nat.sub_zero, List.replicate_append_replicate, Nat.add_comm (digs b).length]; exact h
  case round =>
    obtain ⟨i, Q, hi, rfl, hQl, hQd, hQv, hdb, hg⟩ := hrel
    have hgx3 := dx3.lt
    have hgy3 := dy3.lt
    by_cases hik : i < (digs a).length
    · have hxc : wr.cell? ⟨gx, i, none⟩ = some (.int .u64 (((digs a)[i] : Nat) : Int)) := by
        rw [grown_cell hg (by omega) (by simp; omega), World.cell?_alloc_lt _ _ _ (by exact hgx3)]
        have := dx3.rdl i hik
        rwa [Nat.zero_add] at this
      have hry : Rd wr gy 0 (digs b) := fun j hj => by
        rw [grown_cell hg (by omega) (by simp; omega), World.cell?_alloc_lt _ _ _ (by exact hgy3)]
        exact dy3.rdl j hj
      have hgw : w3.heap.size < wr.heap.size := hdb.lt
      have hsplit : Q ++ List.replicate ((digs a).length - i) 0 = Q.take i ++ (Q.drop i ++ List.replicate ((digs a).length - i) 0) ++ [] := by
        rw [List.append_nil, ← List.append_assoc, List.take_append_drop]
      rw [hsplit] at hdb
      have hdigD : Dig (Q.drop i ++ List.replicate ((digs a).length - i) 0) := (hQd.drop i).app (Dig.zeros _)
      have hlQ : (Q.take i).length = i := by rw [List.length_take]; omega
      have hlD : (Q.drop i ++ List.replicate ((digs a).length - i) 0).length = (digs a).length + (digs b).length - i := by rw [List.length_append, List.length_drop, List.length_replicate]; omega
      have hdm : (Q.drop i ++ List.replicate ((digs a).length - i) 0).drop (digs b).length = 0 :: List.replicate ((digs a).length - i - 1) 0 := by
        rw [List.drop_left' (by rw [List.length_drop]; omega)]
        obtain ⟨j, hj⟩ : ∃ j, (digs a).length - i = j + 1 := ⟨(digs a).length - i - 1, by omega⟩
        rw [hj]; rfl
      have htm : (Q.drop i ++ List.replicate ((digs a).length - i) 0).take (digs b).length = Q.drop i := List.take_left' (by rw [List.length_drop]; omega)
      have hAP := addProduct_any w3.heap.size gy 0 ((digs a).length + (digs b).length - i) cy ((digs a)[i]) (Q.take i) (Q.drop i ++ List.replicate ((digs a).length - i) 0) [] (digs b) hdigD (digs_dig b) ((digs_dig a).get i hik) (by rw [hlD]; omega) (by rw [hlD]; omega) (by omega) wr hdb (by omega) hry
      rw [hlQ, hlD, hdm] at hAP
      have hst := take_snoc (digs a) i hik
      have hdI := (digs_dig a).get i hik
      generalize hdi : (digs a)[i] = dI at *
      have HAP := Lib.hid hAP
      have HST := Lib.hid hst
      have HTM := Lib.hid htm
      have HQV := Lib.hid hQv
      have HQL := Lib.hid hQl
      have HLQ := Lib.hid hlQ
      have hne : ¬ (digs a).length + (digs b).length = i := by omega
      clear hAP hst htm hQv hdm hlD hdigD hsplit hdi hdb hlQ hQl hdI
      go_wp2_with fail
      refine HAP.out.mono ?_
      rintro e w4 ⟨carry, P, rfl, hI, hdb4, hg4⟩
      have hPl := hI.len
      have hPd := hI.dig
      have HC := Lib.hid hI.le
      have hPe := hI.eq
      rw [HTM.out, List.take_length, val_digs] at hPe
      have hQl := HQL.out
      have hlQ := HLQ.out
      have hlen : i + (digs b).length < (Q.take i ++ (P ++ 0 :: List.replicate ((digs a).length - i - 1) 0) ++ []).length := by
        simp only [List.length_append, List.length_cons, List.length_nil, List.length_replicate, hlQ, hPl]; omega
      have hcell := hdb4.cell _ hlen
      have hfz := hdb4.frozen (i + (digs b).length)
      have hnext := hdb4.set _ hlen carry
      have hset : (Q.take i ++ (P ++ 0 :: List.replicate ((digs a).length - i - 1) 0) ++ []).set (i + (digs b).length) carry = (Q.take i ++ (P ++ [carry])) ++ List.replicate ((digs a).length - (i + 1)) 0 := by
        have := set_mid (Q.take i) P (List.replicate ((digs a).length - i - 1) 0) [] 0 carry
        rw [hlQ, hPl] at this
        rw [this, List.append_nil, Nat.sub_sub]; simp
      rw [hset] at hnext
      obtain ⟨x, hx⟩ : ∃ x : Int, w4.cell? ⟨w3.heap.size, i + (digs b).length, none⟩ = some (.int .u64 x) := ⟨_, hcell⟩
      have hval : val (Q.take i ++ (P ++ [carry])) = val ((digs a).take (i + 1)) * b := by
        rw [HST.out, val_append, val_snoc, hPl, hlQ, hPe]
        have h1 : val Q = val (Q.take i) + Bs ^ i * val (Q.drop i) := by
          conv => lhs; rw [← List.take_append_drop i Q, val_append, hlQ]
        have h2 := HQV.out
        rw [Nat.mul_add, Nat.add_mul, ← h2, h1, Nat.mul_assoc]; omega
      have HV := Lib.hid hval
      have HN := Lib.hid hnext
      have HPL := Lib.hid hPl
      clear hcell hlen hset hnext hdb4 hPl hQl hlQ hval hPe hI
      go_wp2
      go_roundw
      case rel =>
        refine ⟨i + 1, Q.take i ++ (P ++ [carry]), by omega, by go_num, ?_, (hQd.take i).app (hPd.app (Dig.cons ?_ Dig.nil)), HV.out, HN.out, grown_trans (grown_trans hg hg4) (grown_set _ _ _ _)⟩
        · rw [List.length_append, List.length_append, HLQ.out, HPL.out, List.length_singleton]; omega
        · exact HC.out
      case measure => simp [intOf]; omega
    · have hik' : i = (digs a).length := by omega
      subst hik'
      rw [List.take_length, val_digs] at hQv
      rw [Nat.sub_self, List.replicate_zero, List.append_nil] at hdb
      have hP := pack_any w3.heap.size 0 ((digs a).length + (digs b).length) Q hQd (by omega) (by omega) wr hdb.lt hdb.rd0
      rw [hQl, hQv] at hP
      have HP := Lib.hid hP
      have hB4 : Below w1.heap.size w1 wr := (hB3.alloc hB3.size _).trans (grown_below hg (by omega) (by simp; omega))
      clear hP hQv hQl
      go_wp2_with fail
      refine HP.out.mono ?_
      rintro e w6 ⟨rfl, hb6⟩
      have hB6 := hB4.trans (hb6.mono hB4.size)
      obtain ⟨r0', r1', rf'⟩ := Bx.below ⟨r0, r1, rf⟩ hB6 (by omega)
      go_wp2
      exact bodyPost_ret (v := natV (a * b)) (by simp [results, Tryz.results58, go_sem, r0', r1']) rfl ⟨rfl, ((hbw.trans (hB6.mono (by omega))).setCell (by simp <;> omega) _).setCell (by simp <;> omega) _⟩

theorem mul_any (a b : Nat) (hla : (digs a).length ≤ 549755813887) (hlb : (digs b).length ≤ 549755813887) (w : World) :
    Calls Tryz.prog 58 #[natV a, natV b] w fun e w' => e = .returned (natV (a * b)) ∧ Below w.heap.size w w' := by
  rcases Nat.lt_or_ge a Bs with ha | ha
  · rcases Nat.lt_or_ge b Bs with hb | hb
    · exact mul_small a b ha hb w
    · exact mul_bigB a b ha hb hla hlb w
  · exact mul_bigA a b ha hla hlb w
end Go.Proofs.YthehcjfmokabfaaGreatDoor

/-
  Layer 1, walks P: Div.
-/
namespace Go.Proofs.YthehcjfmokabfaaGreatDoor
open Go.RowKit
attribute [local irreducible] lo hs sm s64 c64 d64 b64 mh ml pd pc qd qc val hiB str

theorem al4 (w : World) (A B C D : Obj) : ((((w.alloc A).alloc B).alloc C).alloc D).heap[w.heap.size + 3]? = some D := by
  have := heap_alloc_new (((w.alloc A).alloc B).alloc C) D
  simpa using this
theorem al4_3 (w : World) (A B C D : Obj) : ((((w.alloc A).alloc B).alloc C).alloc D).heap[w.heap.size + 2]? = some C := (Below.heap_alloc _ _ _ (by simp)).trans (al3 w A B C)
theorem al4_2 (w : World) (A B C D : Obj) : ((((w.alloc A).alloc B).alloc C).alloc D).heap[w.heap.size + 1]? = some B := (Below.heap_alloc _ _ _ (by simp <;> omega)).trans (al3_2 w A B C)
theorem al4_1 (w : World) (A B C D : Obj) : ((((w.alloc A).alloc B).alloc C).alloc D).heap[w.heap.size]? = some A := (Below.heap_alloc _ _ _ (by simp <;> omega)).trans (al3_1 w A B C)
theorem below4 (w : World) (A B C D : Obj) : Below w.heap.size w ((((w.alloc A).alloc B).alloc C).alloc D) := (below3 w A B C).alloc (by simp <;> omega) _

/-- The world behind the four boxes of Div. -/
theorem boxes4 (w : World) (A1 A2 B1 B2 C1 C2 D1 D2 : Value) (t : TypeId) : ∃ w0, ((((w.alloc (.cells #[A1, A2] t)).alloc (.cells #[B1, B2] t)).alloc (.cells #[C1, C2] t)).alloc (.cells #[D1, D2] t)) = w0 ∧
    Bx w0 w.heap.size A1 A2 ∧ Bx w0 (w.heap.size + 1) B1 B2 ∧ Bx w0 (w.heap.size + 2) C1 C2 ∧ Bx w0 (w.heap.size + 3) D1 D2 ∧ Below w.heap.size w w0 ∧ w.heap.size + 4 ≤ w0.heap.size :=
  ⟨_, rfl, Bx.of _ _ _ _ _ (al4_1 w _ _ _ _), Bx.of _ _ _ _ _ (al4_2 w _ _ _ _), Bx.of _ _ _ _ _ (al4_3 w _ _ _ _), Bx.of _ _ _ _ _ (al4 w _ _ _ _), below4 w _ _ _ _, by simp⟩
theorem of_zero (w : World) : Calls Tryz.prog 65 #[.int .u64 0] w fun e w' => e = .returned (natV 0) ∧ Below w.heap.size w w' := of_any 0 Bs_pos w

set_option maxHeartbeats 2000000 in
set_option maxRecDepth 100000 in
theorem div_zero (a : Nat) (w : World) :
    Calls Tryz.prog 57 #[natV a, natV 0] w fun e w' => e = .returned (.tuple #[natV 0, natV 0, .bool false]) ∧ Below w.heap.size w w' := by
  obtain ⟨w0, hw0, hA, hB, hC, hD, hbw, hsz⟩ := boxes4 w (.int .u64 ((lo a : Nat) : Int)) (.string (hs a)) (.int .u64 ((lo 0 : Nat) : Int)) (.string (hs 0)) (.int .u64 0) (.string ⟨#[]⟩) (.int .u64 0) (.string ⟨#[]⟩) 32
  go_enter Tryz.func57, Tryz.ntmps57
  go_wp2
  clear hw0
  obtain ⟨b0, b1, bf⟩ := hB
  go_region_held3 (fun w' => w'.cell? ⟨w.heap.size + 1, 0, none⟩ = some (.int .u64 ((lo 0 : Nat) : Int)) ∧ w'.cell? ⟨w.heap.size + 1, 1, none⟩ = some (.string (hs 0)))
    (first | exact ⟨b0, b1⟩ | exact ⟨b0', b1'⟩)
    (first
      | (go_at_call 65; ((with_reducible refine Calls.mono (of_zero _) ?_); rintro e w1 ⟨rfl, hb1⟩; obtain ⟨b0', b1', bf'⟩ := Bx.below (w := w0.drew) ⟨b0, b1, bf⟩ hb1 (by simp <;> omega))))
  have hb01 := (Below.refl w0.heap.size w0).drew.trans hb1
  obtain ⟨c0, c1, cf⟩ := hC.below hb01 (by omega)
  obtain ⟨d0, d1, df⟩ := hD.below hb01 (by omega)
  go_wp2
  exact bodyPost_ret (v := .tuple #[natV 0, natV 0, .bool false]) (by rw [natV_zero]; simp [results, Tryz.results57, go_sem, c0, c1, cf, d0, d1, df]) rfl ⟨rfl, ((((hbw.trans (hb01.mono (by omega))).setCell (by simp <;> omega) _).setCell (by simp <;> omega) _).setCell (by simp <;> omega) _).setCell (by simp <;> omega) _⟩

theorem cmpI_ge {a b : Nat} (h : b ≤ a) : decide (cmpI a b < 0) = false := by
  rcases Nat.lt_or_eq_of_le h with h | h
  · rw [cmpI_gt h]; rfl
  · rw [h, cmpI_eq]; rfl

/-- Div's four boxes in a later world. -/
structure B4 (w : World) (k : Nat) (a b : Nat) : Prop where
  A : Bx w k (.int .u64 ((lo a : Nat) : Int)) (.string (hs a))
  B : Bx w (k + 1) (.int .u64 ((lo b : Nat) : Int)) (.string (hs b))
  C : Bx w (k + 2) (.int .u64 0) (.string ⟨#[]⟩)
  D : Bx w (k + 3) (.int .u64 0) (.string ⟨#[]⟩)
  sz : k + 4 ≤ w.heap.size
theorem B4.below {w w' : World} {k a b : Nat} (h : B4 w k a b) (hb : Below w.heap.size w w') : B4 w' k a b :=
  ⟨h.A.below hb (by have := h.sz; omega), h.B.below hb (by have := h.sz; omega), h.C.below hb (by have := h.sz; omega), h.D.below hb (by have := h.sz; omega), Nat.le_trans h.sz hb.size⟩
theorem B4.belowN {w w' : World} {k a b : Nat} (h : B4 w k a b) (hb : Below (k + 4) w w') : B4 w' k a b :=
  ⟨h.A.below hb (by omega), h.B.below hb (by omega), h.C.below hb (by omega), h.D.below hb (by omega), Nat.le_trans h.sz hb.size⟩
theorem divD (gx cx a b : Nat) (C : List Nat) (hb : 0 < b) (hbB : b < Bs) (ha : (digs a).length ≤ 1000000000000) (w : World) (hdb : DB w gx (digs a ++ C)) :
    Calls Tryz.prog 86 #[.slice (some ⟨gx, 0, none⟩) (digs a).length cx, .int .u64 (b : Int)] w fun e w' =>
      e = .returned (.int .u64 ((a % b : Nat) : Int)) ∧ ∃ Q : List Nat, Q.length = (digs a).length ∧ Dig Q ∧ val Q = a / b ∧ DB w' gx (Q ++ C) ∧ w.grownBy w' (some gx) := by
  refine (divideByDigit_any gx cx b (digs a) C (digs_dig a) hb hbB (by omega) w hdb).mono ?_
  rintro e w' ⟨rfl, Q, ⟨h1, h2, h3⟩, h4, h5⟩
  rw [show val (digs a) = a from val_digs a] at h3
  exact ⟨by rw [show val (digs a) = a from val_digs a], Q, h1, h2, h3, h4, h5⟩
theorem packQ (g c n q : Nat) (Q C : List Nat) (hl : Q.length = n) (hd : Dig Q) (hv : val Q = q) (hn : n ≤ 1000000000000) (hc : n ≤ c) (w : World) (hdb : DB w g (Q ++ C)) :
    Calls Tryz.prog 94 #[.slice (some ⟨g, 0, none⟩) n c] w fun e w' => e = .returned (natV q) ∧ Below w.heap.size w w' := by
  subst hl; subst hv
  exact pack_any g 0 c Q hd (by omega) hc w hdb.lt hdb.rdl
theorem digs_mono {a b : Nat} (h : b ≤ a) : (digs b).length ≤ (digs a).length := digs_length_iff.2 (Nat.lt_of_le_of_lt h (digs_length_iff.1 (Nat.le_refl _)))
theorem digs_two {b : Nat} (h : ¬ b < Bs) : ∃ m, (digs b).length = m + 2 := by
  rcases Nat.lt_or_ge (digs b).length 2 with h2 | h2
  · exact absurd (by have := digs_length_iff.1 (show (digs b).length ≤ 1 by omega); rwa [Nat.pow_one] at this) h
  · exact ⟨(digs b).length - 2, by omega⟩
theorem divW (gx gy cx cy a b : Nat) (X Y : List Nat) (hb : ¬ b < Bs) (hab : b ≤ a) (ha : (digs a).length ≤ 1000000000000) (w : World) (hdx : DB w gx (digs a ++ X)) (hdy : DB w gy (digs b ++ Y)) :
    Calls Tryz.prog 103 #[.slice (some ⟨gx, 0, none⟩) (digs a).length cx, .slice (some ⟨gy, 0, none⟩) (digs b).length cy] w fun e w' =>
      ∃ gq cq zq gr cr zr, e = .returned (.tuple #[.slice (some ⟨gq, 0, none⟩) (digs (a / b)).length cq, .slice (some ⟨gr, 0, none⟩) (digs (a % b)).length cr]) ∧
        DB w' gq (digs (a / b) ++ List.replicate zq 0) ∧ DB w' gr (digs (a % b) ++ List.replicate zr 0) ∧ gq ≠ gr ∧ w.heap.size ≤ gq ∧ w.heap.size ≤ gr ∧ (digs (a / b)).length ≤ cq ∧ (digs (a % b)).length ≤ cr ∧ Below w.heap.size w w' := by
  obtain ⟨m, hm⟩ := digs_two hb
  exact divide_any gx gy cx cy m a b hm (digs_mono hab) ha w hdx.lt hdy.lt hdx.rdl hdy.rdl
theorem packD (g c q z : Nat) (hn : (digs q).length ≤ 1000000000000) (hc : (digs q).length ≤ c) (w : World) (hdb : DB w g (digs q ++ List.replicate z 0)) :
    Calls Tryz.prog 94 #[.slice (some ⟨g, 0, none⟩) (digs q).length c] w fun e w' => e = .returned (natV q) ∧ Below w.heap.size w w' :=
  packQ g c _ q (digs q) _ rfl (digs_dig q) (val_digs q) hn hc w hdb
theorem B4.step {w0 w1 w2 : World} {k a b : Nat} (h0 : Below k w0 w1) (h : B4 w1 k a b) (hb : Below w1.heap.size w1 w2) : Below k w0 w2 := h0.trans (hb.mono (by have := h.sz; omega))

attribute [local irreducible] cmpI
set_option maxHeartbeats 2000000 in
set_option maxRecDepth 100000 in
theorem div_pos (a b : Nat) (hb : 0 < b) (ha : (digs a).length ≤ 1000000000000) (w : World) :
    Calls Tryz.prog 57 #[natV a, natV b] w fun e w' => e = .returned (.tuple #[natV (a / b), natV (a % b), .bool true]) ∧ Below w.heap.size w w' := by
  have heq : ((((lo b : Nat) : Int) == ((lo 0 : Nat) : Int)) = false) ∨ ((((lo b : Nat) : Int) == ((lo 0 : Nat) : Int)) = true ∧ ((hs b).toList == (hs 0).toList) = false) := by
    by_cases h : lo b = lo 0
    · right
      refine ⟨by rw [h]; simp, ?_⟩
      rw [hs_eq, decide_eq_false]
      intro h2
      have h3 : b % Bs = 0 % Bs := by have h4 := h; unfold lo at h4; exact h4
      have := Nat.div_add_mod b Bs
      rw [h2, h3] at this
      simp at this; omega
    · left
      rw [beq_eq_false_iff_ne]; omega
  obtain ⟨w0, hw0, hA, hB, hC, hD, hbw, hsz⟩ := boxes4 w (.int .u64 ((lo a : Nat) : Int)) (.string (hs a)) (.int .u64 ((lo b : Nat) : Int)) (.string (hs b)) (.int .u64 0) (.string ⟨#[]⟩) (.int .u64 0) (.string ⟨#[]⟩) 32
  go_enter Tryz.func57, Tryz.ntmps57
  go_wp2
  clear hw0
  have hB1 := hB
  have H0 : B4 w0 w.heap.size a b := ⟨hA, hB, hC, hD, hsz⟩
  rcases heq with he1 | ⟨he1, he2⟩ <;> (
    obtain ⟨b0, b1, bf⟩ := hB
    go_region_held3 (fun w' => w'.cell? ⟨w.heap.size + 1, 0, none⟩ = some (.int .u64 ((lo b : Nat) : Int)) ∧ w'.cell? ⟨w.heap.size + 1, 1, none⟩ = some (.string (hs b)))
      (first | exact ⟨b0, b1⟩ | exact ⟨b0', b1'⟩)
      (first
        | (go_at_call 65; ((with_reducible refine Calls.mono (of_zero _) ?_); rintro e w1 ⟨rfl, hb1⟩; obtain ⟨b0', b1', bf'⟩ := Bx.below (w := w0.drew) ⟨b0, b1, bf⟩ hb1 (by simp <;> omega))))
    have hb01 := (Below.refl w0.heap.size w0).drew.trans hb1
    have H1 := H0.below hb01
    have hB1 := hbw.trans (hb01.mono (by omega))
    clear b0' b1' bf' b0 b1 bf hA hC hD hb01 hb1 H0 hbw hsz
    have HC := Lib.hid (fun w => cmp_any a b w)
    rcases Nat.lt_or_ge a b with hab | hab
    · obtain ⟨⟨a0, a1, af⟩, ⟨b0, b1, bf⟩, -⟩ := id H1
      rw [cmpI_lt hab] at HC
      go_wp2_with fail
      refine (HC.out _).mono ?_
      rintro e w2 ⟨rfl, hb2⟩
      have H2 := H1.below hb2
      have hB2 := H1.step hB1 hb2
      clear a0 a1 af b0 b1 bf HC hB1 hb2 H1
      obtain ⟨⟨a0, a1, af⟩, ⟨b0, b1, bf⟩, ⟨c0, c1, cf⟩, ⟨d0, d1, df⟩, hsz⟩ := id H2
      go_wp2_with fail
      go_region
      go_wp2_with fail
      have hq : natV (a / b) = natV 0 := congrArg natV (Nat.div_eq_of_lt hab)
      have hr : natV (a % b) = natV a := congrArg natV (Nat.mod_eq_of_lt hab)
      exact bodyPost_ret (v := .tuple #[natV (a / b), natV (a % b), .bool true]) (by rw [hq, hr, natV_zero]; simp [results, Tryz.results57, go_sem, c0, c1, cf, d0, d1, df]) rfl ⟨rfl, ((((hB2.setCell (by simp <;> omega) _).setCell (by simp <;> omega) _).setCell (by simp <;> omega) _).setCell (by simp <;> omega) _).drew⟩
    · have hcm := cmpI_ge hab
      obtain ⟨⟨a0, a1, af⟩, ⟨b0, b1, bf⟩, -⟩ := id H1
      go_wp2_with fail
      refine (HC.out _).mono ?_
      rintro e w2 ⟨rfl, hb2⟩
      have H2 := H1.below hb2
      have hB2 := H1.step hB1 hb2
      clear a0 a1 af b0 b1 bf HC hB1 hb2 H1
      obtain ⟨⟨a0, a1, af⟩, ⟨b0, b1, bf⟩, -⟩ := id H2
      go_wp2_with fail
      have HS := Lib.hid (fun w => small_any a w)
      by_cases hsa : a < Bs
      · have hs1 : sm a = true := by unfold sm; exact decide_eq_true hsa
        refine (HS.out _).mono ?_
        rintro e w3 ⟨rfl, hb3⟩
        have H3 := H2.below hb3
        have hB3 := H2.step hB2 hb3
        clear a0 a1 af b0 b1 bf hB2 hb3 H2
        obtain ⟨⟨a0, a1, af⟩, ⟨b0, b1, bf⟩, ⟨c0, c1, cf⟩, ⟨d0, d1, df⟩, hsz⟩ := id H3
        have hsb : b < Bs := Nat.lt_of_le_of_lt hab hsa
        have hla : lo a = a := lo_small hsa
        have hlb : lo b = b := lo_small hsb
        have hb0 : ¬ b = 0 := by omega
        have hwq : IntKind.u64.wrap ((a : Int) / (b : Int)) = (a : Int) / (b : Int) := by
          have := Nat.div_le_self a b
          rw [← Int.natCast_ediv]; exact wrapN _ (Nat.lt_of_le_of_lt this hsa)
        have htm : ((a % b : Nat) : Int) = (a : Int).tmod (b : Int) := by rw [Int.tmod_eq_emod_of_nonneg (by omega), Int.natCast_emod]
        have hwm : IntKind.u64.wrap ((a : Int).tmod (b : Int)) = (a : Int).tmod (b : Int) := by
          have := Nat.mod_le a b
          rw [← htm]; exact wrapN _ (Nat.lt_of_le_of_lt this hsa)
        have HO := fun w => of_any (a / b) (Nat.lt_of_le_of_lt (Nat.div_le_self _ _) hsa) w
        rw [Int.natCast_ediv] at HO
        replace HO := Lib.hid HO
        have HO2 := fun w => of_any (a % b) (Nat.lt_of_le_of_lt (Nat.mod_le _ _) hsa) w
        rw [htm] at HO2
        clear htm
        replace HO2 := Lib.hid HO2
        rw [hla] at a0
        rw [hlb] at b0
        have hla' := Lib.hid hla
        have hlb' := Lib.hid hlb
        clear hsa hsb hla hlb
        go_wp2_with fail
        go_region_held3 (fun w' => w'.cell? ⟨w.heap.size, 0, none⟩ = some (.int .u64 ((a : Nat) : Int)) ∧ w'.cell? ⟨w.heap.size + 1, 0, none⟩ = some (.int .u64 ((b : Nat) : Int)))
          (first | with_reducible exact ⟨a0, b0⟩ | with_reducible exact ⟨a0', b0'⟩ | with_reducible exact ⟨a0'', b0''⟩ | (constructor <;> simp [go_sem, a0'', b0'']; done) | (constructor <;> simp [go_sem, a0, b0]; done))
          (first
            | (go_at_call 65; ((with_reducible refine Calls.mono (HO.out _) ?_); rintro e w4 ⟨rfl, hb4⟩; have H4 := H3.below ((Below.refl w3.heap.size w3).drew.trans hb4); have a0' := (H4.A.1); rw [hla'.out] at a0'; have b0' := H4.B.1; rw [hlb'.out] at b0'))
            | (go_at_call 65; ((with_reducible refine Calls.mono (HO2.out _) ?_); rintro e w5 ⟨rfl, hb5⟩; have H5 := H4.below hb5; have a0'' := (H5.A.1); rw [hla'.out] at a0''; have b0'' := H5.B.1; rw [hlb'.out] at b0''; obtain ⟨c0', c1', cf'⟩ := H5.C; obtain ⟨d0', d1', df'⟩ := H5.D)))
        clear hwq hwm hb0
        go_wp2_with fail
        exact bodyPost_ret (v := .tuple #[natV (a / b), natV (a % b), .bool true]) (by simp [results, Tryz.results57, go_sem, c0', c1', cf', d0', d1', df']) rfl ⟨rfl, ((((H4.step (H3.step hB3 ((Below.refl w3.heap.size w3).drew.trans hb4)) hb5).setCell (by simp <;> omega) _).setCell (by simp <;> omega) _).setCell (by simp <;> omega) _).setCell (by simp <;> omega) _⟩
      · have hs1 : sm a = false := by unfold sm; exact decide_eq_false hsa
        refine (HS.out _).mono ?_
        rintro e w3 ⟨rfl, hb3⟩
        have H3 := H2.below hb3
        have hB3 := H2.step hB2 hb3
        clear a0 a1 af b0 b1 bf hB2 hb3 H2 HS
        obtain ⟨⟨a0, a1, af⟩, ⟨b0, b1, bf⟩, -⟩ := id H3
        go_wp2_with fail
        have HS := Lib.hid (fun w => small_any b w)
        refine (HS.out _).mono ?_
        rintro e w4 ⟨rfl, hb4⟩
        have H4 := H3.below hb4
        have hB4 := H3.step hB3 hb4
        clear a0 a1 af b0 b1 bf hB3 hb4 H3 HS
        have hsz4 := H4.sz
        have HDa := Lib.hid (fun w => digits_any a (by omega) w)
        by_cases hsb : b < Bs
        · have hs2 : sm b = true := by unfold sm; exact decide_eq_true hsb
          have hlb : lo b = b := lo_small hsb
          obtain ⟨⟨a0, a1, af⟩, ⟨b0, b1, bf⟩, -⟩ := id H4
          go_wp2_with fail
          refine (HDa.out _).mono ?_
          rintro e w5 ⟨gx, cx, zx, rfl, hcx, hgx, hdx, hb5⟩
          have H5 := H4.below hb5
          have hB5 := H4.step hB4 hb5
          clear a0 a1 af b0 b1 bf hb5 hB4 H4 HDa
          obtain ⟨⟨a0, a1, af⟩, ⟨b0, b1, bf⟩, -⟩ := id H5
          rw [hlb] at b0
          clear hlb
          go_wp2_with fail
          have HDD := Lib.hid (divD gx cx a b (List.replicate zx 0) hb hsb ha w5 hdx)
          have hgx4 : w.heap.size + 4 ≤ gx := Nat.le_trans hsz4 hgx
          have HO := fun w => of_any (a % b) (Nat.lt_of_lt_of_le (Nat.mod_lt _ hb) (Nat.le_of_lt hsb)) w
          have HP := fun Q h1 h2 h3 => packQ gx cx (digs a).length (a / b) Q (List.replicate zx 0) h1 h2 h3 ha hcx
          replace HO := Lib.hid HO
          replace HP := Lib.hid HP
          clear hsb hdx
          refine (HDD.out).mono ?_
          rintro e w6 ⟨rfl, Q, hQ1, hQ2, hQ3, hdq, hg6⟩
          have hb6 := grown_below hg6 hgx4 H5.sz
          have H6 := H5.belowN hb6
          have hB6 := hB5.trans (hb6.mono (by omega))
          clear a0 a1 af b0 b1 bf hb6 hg6 hB5 H5 HDD
          go_wp2_with fail
          refine (HP.out Q hQ1 hQ2 hQ3 _ hdq).mono ?_
          rintro e w7 ⟨rfl, hb7⟩
          have H7 := H6.below hb7
          have hB7 := H6.step hB6 hb7
          clear hb7 hB6 H6 HP hdq
          go_wp2_with fail
          refine (HO.out _).mono ?_
          rintro e w8 ⟨rfl, hb8⟩
          have H8 := H7.below hb8
          have hB8 := H7.step hB7 hb8
          clear hb8 hB7 H7 HO
          obtain ⟨-, -, ⟨c0, c1, cf⟩, ⟨d0, d1, df⟩, hsz⟩ := id H8
          go_wp2_with fail
          exact bodyPost_ret (v := .tuple #[natV (a / b), natV (a % b), .bool true]) (by simp [results, Tryz.results57, go_sem, c0, c1, cf, d0, d1, df]) rfl ⟨rfl, (((hB8.setCell (by simp <;> omega) _).setCell (by simp <;> omega) _).setCell (by simp <;> omega) _).setCell (by simp <;> omega) _⟩
        · have hs2 : sm b = false := by unfold sm; exact decide_eq_false hsb
          obtain ⟨⟨a0, a1, af⟩, ⟨b0, b1, bf⟩, -⟩ := id H4
          go_wp2_with fail
          have HDb := Lib.hid (fun w => digits_any b (by have := digs_mono hab; omega) w)
          have hql : (digs (a / b)).length ≤ 1000000000000 := Nat.le_trans (digs_mono (Nat.div_le_self a b)) ha
          have hrl : (digs (a % b)).length ≤ 1000000000000 := Nat.le_trans (digs_mono (Nat.mod_le a b)) ha
          have HDV := fun gx gy cx cy zx zy => divW gx gy cx cy a b (List.replicate zx 0) (List.replicate zy 0) hsb hab ha
          have HPq := fun g c z => packD g c (a / b) z hql
          have HPr := fun g c z => packD g c (a % b) z hrl
          replace HDV := Lib.hid HDV
          replace HPq := Lib.hid HPq
          replace HPr := Lib.hid HPr
          clear hql hrl ha
          go_region_held3 (fun w' => w'.cell? ⟨w.heap.size, 0, none⟩ = some (.int .u64 ((lo a : Nat) : Int)) ∧ w'.cell? ⟨w.heap.size, 1, none⟩ = some (.string (hs a)) ∧ w'.cell? ⟨w.heap.size + 1, 0, none⟩ = some (.int .u64 ((lo b : Nat) : Int)) ∧ w'.cell? ⟨w.heap.size + 1, 1, none⟩ = some (.string (hs b)))
            (first | with_reducible exact ⟨a0, a1, b0, b1⟩ | with_reducible exact ⟨a0', a1', b0', b1'⟩ | with_reducible exact ⟨a0'', a1'', b0'', b1''⟩ | exact ⟨a0, a1, b0, b1⟩)
            (first
              | (go_at_call 84; ((with_reducible refine Calls.mono (HDa.out _) ?_); rintro e w5 ⟨gx, cx, zx, rfl, hcx, hgx, hdx, hb5⟩; have H5 := H4.below ((Below.refl w4.heap.size w4).drew.trans hb5); obtain ⟨⟨a0', a1', af'⟩, ⟨b0', b1', bf'⟩, -⟩ := id H5))
              | (go_at_call 84; ((with_reducible refine Calls.mono (HDb.out _) ?_); rintro e w6 ⟨gy, cy, zy, rfl, hcy, hgy, hdy, hb6⟩; have H6 := H5.below hb6; obtain ⟨⟨a0'', a1'', af''⟩, ⟨b0'', b1'', bf''⟩, -⟩ := id H6))
              | (go_at_call 103; ((with_reducible refine Calls.mono (HDV.out gx gy cx cy zx zy _ (hdx.below hb6 hdx.lt) hdy) ?_); rintro e w7 ⟨gq, cq, zq, gr, cr, zr, rfl, hdq, hdr, hqr, hgq, hgr, hcq, hcr, hb7⟩; have H7 := H6.below hb7; obtain ⟨⟨a0', a1', af'⟩, ⟨b0', b1', bf'⟩, -⟩ := id H7)))
          have hB7 := H6.step (H5.step (H4.step hB4 ((Below.refl w4.heap.size w4).drew.trans hb5)) hb6) hb7
          have hgr6 : w7.heap.size > gr := hdr.lt
          clear a0 a1 af b0 b1 bf a0' a1' af' b0' b1' bf' HDa HDb HDV hdx hdy hb5 hb6 hb7 hgq hgr hqr H4 H5 H6 hB4
          go_wp2_with fail
          refine (HPq.out gq cq zq hcq _ hdq).mono ?_
          rintro e w8 ⟨rfl, hb8⟩
          have H8 := H7.below hb8
          have hB8 := H7.step hB7 hb8
          have hdr8 := hdr.below hb8 hgr6
          clear hb8 hB7 H7 HPq hdq hdr hgr6
          go_wp2_with fail
          refine (HPr.out gr cr zr hcr _ hdr8).mono ?_
          rintro e w9 ⟨rfl, hb9⟩
          have H9 := H8.below hb9
          have hB9 := H8.step hB8 hb9
          clear hb9 hB8 H8 HPr hdr8
          obtain ⟨-, -, ⟨c0, c1, cf⟩, ⟨d0, d1, df⟩, hsz⟩ := id H9
          go_wp2_with fail
          exact bodyPost_ret (v := .tuple #[natV (a / b), natV (a % b), .bool true]) (by simp [results, Tryz.results57, go_sem, c0, c1, cf, d0, d1, df]) rfl ⟨rfl, (((hB9.setCell (by simp <;> omega) _).setCell (by simp <;> omega) _).setCell (by simp <;> omega) _).setCell (by simp <;> omega) _⟩)
end Go.Proofs.YthehcjfmokabfaaGreatDoor
