/-
  Layer 1, walks O: divide.
-/
import Derived.Test.YthehcjfmokabfaaDoorWn
set_option linter.unusedVariables false
set_option linter.unusedSimpArgs false
namespace Go.Proofs.YthehcjfmokabfaaDoor
open Go.RowKit
attribute [local irreducible] lo hs sm s64 c64 d64 b64 mh ml pd pc qd qc val hiB str

theorem lz_any (y : Nat) (hy : y < Bs) (w : World) : Calls Tryd.prog 87 #[.int .u64 (y : Int)] w fun e w' => e = .returned (.int .i64 ((lz y : Nat) : Int)) ∧ w = w' := by
  have hbl := bl_le y (by rw [← Bs_pow]; exact hy)
  refine (Tryd.bits_LeadingZeros64 (y : Int) w (by omega) (by unfold Bs at hy; omega)).mono fun e w' ⟨he, hw⟩ => ⟨?_, hw.symm⟩
  rw [he, Int.toNat_natCast]
  refine congrArg (fun k : Int => Ending.returned (.int .i64 k)) ?_
  unfold lz; omega

/-- Long division: J digits of the quotient are still to come. -/
structure LdI (U V J len : Nat) (R Q : List Nat) : Prop where
  rlen : R.length = len
  rdig : Dig R
  qdig : Dig Q
  lt : val R < Bs ^ J * V
  eq : U = val R + Bs ^ J * (val Q * V)
theorem LdI.split {U V J n len : Nat} {R Q : List Nat} (h : LdI U V (J + 1) len R Q) (hV : V < Bs ^ n) (hl : len = J + (n + 1) + (len - (J + (n + 1)))) :
    R = R.take J ++ (R.drop J).take (n + 1) ++ (R.drop J).drop (n + 1) ∧ (R.take J).length = J ∧ ((R.drop J).take (n + 1)).length = n + 1 ∧ val ((R.drop J).drop (n + 1)) = 0 ∧ val R = val (R.take J) + Bs ^ J * val ((R.drop J).take (n + 1)) ∧
      val ((R.drop J).take (n + 1)) < Bs * V := by
  have hR : R = R.take J ++ ((R.drop J).take (n + 1) ++ (R.drop J).drop (n + 1)) := by rw [List.take_append_drop, List.take_append_drop]
  have hrl := h.rlen
  have l1 : (R.take J).length = J := by rw [List.length_take]; omega
  have l2 : ((R.drop J).take (n + 1)).length = n + 1 := by rw [List.length_take, List.length_drop]; omega
  have hv : val R = val (R.take J) + Bs ^ J * (val ((R.drop J).take (n + 1)) + Bs ^ (n + 1) * val ((R.drop J).drop (n + 1))) := by
    conv => lhs; rw [hR, val_append, val_append, l1, l2]
  have hlt := h.lt
  have hp : 0 < Bs ^ J := Nat.pow_pos Bs_pos
  have hlt2 : Bs ^ J * (val ((R.drop J).take (n + 1)) + Bs ^ (n + 1) * val ((R.drop J).drop (n + 1))) < Bs ^ J * (Bs * V) := by
    rw [Nat.pow_succ, Nat.mul_assoc] at hlt; omega
  have h3 := Nat.lt_of_mul_lt_mul_left hlt2
  have h4 : Bs * V < Bs ^ (n + 1) := by rw [Nat.pow_succ, Nat.mul_comm]; exact Nat.mul_lt_mul_of_pos_right hV Bs_pos
  have h0 : val ((R.drop J).drop (n + 1)) = 0 := by
    rcases Nat.eq_zero_or_pos (val ((R.drop J).drop (n + 1))) with h | h
    · exact h
    · have : Bs ^ (n + 1) * 1 ≤ Bs ^ (n + 1) * val ((R.drop J).drop (n + 1)) := Nat.mul_le_mul_left _ h
      omega
  rw [h0, Nat.mul_zero, Nat.add_zero] at hv h3
  exact ⟨by rw [List.append_assoc]; exact hR, l1, l2, h0, hv, h3⟩
theorem LdI.step {U V J n len : Nat} {R Q D' : List Nat} (h : LdI U V (J + 1) len R Q) (hV : V < Bs ^ n) (hV0 : 0 < V) (hl : len = J + (n + 1) + (len - (J + (n + 1)))) (hDl : D'.length = n + 1) (hDd : Dig D') (hDv : val D' = val ((R.drop J).take (n + 1)) % V) :
    LdI U V J len (R.take J ++ D' ++ (R.drop J).drop (n + 1)) (val ((R.drop J).take (n + 1)) / V :: Q) := by
  obtain ⟨hR, l1, l2, h0, hv, hlt⟩ := h.split hV hl
  have hrl := h.rlen
  have hdm := Nat.div_add_mod' (val ((R.drop J).take (n + 1))) V
  have hval : val (R.take J ++ D' ++ (R.drop J).drop (n + 1)) = val (R.take J) + Bs ^ J * val D' := by
    rw [val_append, val_append, h0, l1, Nat.mul_zero, Nat.add_zero]
  have hAl := val_lt (h.rdig.take J)
  rw [l1] at hAl
  refine ⟨?_, ((h.rdig.take J).app hDd).app ((h.rdig.drop J).drop (n + 1)), Dig.cons ?_ h.qdig, ?_, ?_⟩
  · rw [List.length_append, List.length_append, l1, hDl, List.length_drop, List.length_drop]; omega
  · exact (Nat.div_lt_iff_lt_mul hV0).2 hlt
  · rw [hval, hDv]
    have h1 : val ((R.drop J).take (n + 1)) % V + 1 ≤ V := Nat.mod_lt _ hV0
    have h2 := Nat.mul_le_mul_left (Bs ^ J) h1
    rw [Nat.mul_succ] at h2
    omega
  · rw [hval, hDv, h.eq, hv, val_cons]
    generalize val ((R.drop J).take (n + 1)) / V = q at *
    generalize val ((R.drop J).take (n + 1)) % V = r at *
    rw [← hdm, Nat.pow_succ]
    have e1 : Bs ^ J * (q * V + r) = Bs ^ J * (q * V) + Bs ^ J * r := Nat.mul_add _ _ _
    have e2 : Bs ^ J * ((q + Bs * val Q) * V) = Bs ^ J * (q * V) + Bs ^ J * Bs * (val Q * V) := by
      rw [Nat.add_mul, Nat.mul_add]; congr 1; ac_rfl
    rw [e1, e2]; omega
theorem LdI.done {U V len : Nat} {R Q : List Nat} (h : LdI U V 0 len R Q) : val Q = U / V ∧ val R = U % V := by
  have hlt := h.lt
  have he := h.eq
  rw [Nat.pow_zero, Nat.one_mul] at hlt he
  constructor
  · rw [he, Nat.add_comm, Nat.mul_comm, Nat.mul_add_div (by omega), Nat.div_eq_of_lt hlt, Nat.add_zero]
  · rw [he, Nat.add_comm, Nat.mul_comm, Nat.mul_add_mod, Nat.mod_eq_of_lt hlt]
/-- the divisor, shifted until its highest digit is at least half the base -/
theorem norm_div (b n : Nat) (hn : (digs b).length = n + 1) (t : Nat) (ht : t = (digs b)[n]'(by omega)) :
    lz t ≤ 63 ∧ b * 2 ^ lz t < Bs ^ (n + 1) ∧ Bs ^ (n + 1) ≤ 2 * (b * 2 ^ lz t) ∧ (digs (b * 2 ^ lz t)).length = n + 1 ∧ ∀ h, Bs ≤ 2 * (digs (b * 2 ^ lz t))[n]'h := by
  have htB : t < Bs := by rw [ht]; exact (digs_dig b).get n (by omega)
  have ht0 : t ≠ 0 := by
    have := top_digs b (by intro h; rw [h] at hn; simp at hn)
    rw [List.getLast_eq_getElem] at this
    simp only [hn, Nat.add_sub_cancel] at this
    rw [ht]; exact this
  obtain ⟨h1, h2, h3⟩ := lz_spec t ht0 htB
  generalize lz t = s at *
  have hp : 0 < 2 ^ s := Nat.pow_pos (by omega)
  have eb : b = val ((digs b).take n) + Bs ^ n * t := by
    conv => lhs; rw [← val_digs b, ← List.take_of_length_le (Nat.le_of_eq hn), take_snoc _ n (by omega), ← ht]
  have lb := val_lt ((digs_dig b).take n)
  rw [List.length_take, Nat.min_eq_left (by omega)] at lb
  generalize val ((digs b).take n) = lw at *
  have hM : 0 < Bs ^ n := Nat.pow_pos Bs_pos
  have e1 : b * 2 ^ s = lw * 2 ^ s + Bs ^ n * (t * 2 ^ s) := by rw [eb, Nat.add_mul, Nat.mul_assoc]
  have l1 : b * 2 ^ s < Bs ^ (n + 1) := by
    -- t * 2^s + 2^s ≤ Bs
    have hd : Bs = 2 ^ (64 - s) * 2 ^ s := Bs_split (by omega)
    have h4 : t < 2 ^ (64 - s) := by rw [hd] at h3; exact Nat.lt_of_mul_lt_mul_right h3
    have h5 := Nat.mul_le_mul_right (2 ^ s) (show t + 1 ≤ 2 ^ (64 - s) from h4)
    rw [← hd, Nat.succ_mul] at h5
    have h6 := Nat.mul_le_mul_left (Bs ^ n) h5
    rw [Nat.mul_add] at h6
    have h7 : lw * 2 ^ s < Bs ^ n * 2 ^ s := Nat.mul_lt_mul_of_pos_right lb hp
    rw [e1, Nat.pow_succ]; omega
  have l2 : Bs ^ (n + 1) ≤ 2 * (b * 2 ^ s) := by
    have := Nat.mul_le_mul_left (Bs ^ n) h2
    rw [e1, Nat.pow_succ, Nat.mul_add]
    have e3 : Bs ^ n * (2 * (t * 2 ^ s)) = 2 * (Bs ^ n * (t * 2 ^ s)) := by ac_rfl
    omega
  have hlen : (digs (b * 2 ^ s)).length = n + 1 := by
    refine Nat.le_antisymm (digs_length_iff.2 l1) (Nat.lt_of_not_le fun h => ?_)
    have := digs_length_iff.1 h
    rw [Nat.pow_succ] at l2
    have h8 : Bs ^ n * 2 ≤ Bs ^ n * Bs := Nat.mul_le_mul_left _ Bs_gt
    omega
  refine ⟨h1, l1, l2, hlen, fun h => ?_⟩
  have ev : b * 2 ^ s = val ((digs (b * 2 ^ s)).take n) + Bs ^ n * (digs (b * 2 ^ s))[n] := by
    conv => lhs; rw [← val_digs (b * 2 ^ s), ← List.take_of_length_le (Nat.le_of_eq hlen), take_snoc _ n (by omega)]
  have lv := val_lt ((digs_dig (b * 2 ^ s)).take n)
  rw [List.length_take, Nat.min_eq_left (by omega)] at lv
  generalize val ((digs (b * 2 ^ s)).take n) = lx at *
  generalize (digs (b * 2 ^ s))[n] = top at *
  rw [Nat.pow_succ] at l2
  have h9 : Bs ^ n * Bs < Bs ^ n * (2 * top + 2) := by
    rw [Nat.mul_add]
    have e3 : Bs ^ n * (2 * top) = 2 * (Bs ^ n * top) := by ac_rfl
    omega
  have h10 := Nat.lt_of_mul_lt_mul_left h9
  have hev : Bs % 2 = 0 := by unfold Bs; rfl
  omega

set_option maxHeartbeats 8000000 in
set_option maxRecDepth 100000 in
theorem divide_any (gx gy cx cy m : Nat) (a b : Nat) (hbl : (digs b).length = m + 2) (hab : (digs b).length ≤ (digs a).length) (hal : (digs a).length ≤ 1000000000000) (w : World) (hgx : gx < w.heap.size) (hgy : gy < w.heap.size) (hrx : Rd w gx 0 (digs a)) (hry : Rd w gy 0 (digs b)) :
    Calls Tryd.prog 70 #[.slice (some ⟨gx, 0, none⟩) (digs a).length cx, .slice (some ⟨gy, 0, none⟩) (digs b).length cy] w fun e w' =>
      ∃ gq cq zq gr cr zr, e = .returned (.tuple #[.slice (some ⟨gq, 0, none⟩) (digs (a / b)).length cq, .slice (some ⟨gr, 0, none⟩) (digs (a % b)).length cr]) ∧
        DB w' gq (digs (a / b) ++ List.replicate zq 0) ∧ DB w' gr (digs (a % b) ++ List.replicate zr 0) ∧ gq ≠ gr ∧ w.heap.size ≤ gq ∧ w.heap.size ≤ gr ∧ (digs (a / b)).length ≤ cq ∧ (digs (a % b)).length ≤ cr ∧ Below w.heap.size w w' := by
  obtain ⟨t, ht⟩ : ∃ t, t = (digs b)[m + 1]'(by omega) := ⟨_, rfl⟩
  obtain ⟨hs, hV1, hV2, hVl, htop⟩ := norm_div b (m + 1) hbl t ht
  have htB : t < Bs := by rw [ht]; exact (digs_dig b).get _ (by omega)
  have HL := Lib.hid (lz_any t htB)
  generalize lz t = s at *
  have hct := hry (m + 1) (by omega)
  rw [← ht] at hct
  rw [Nat.zero_add] at hct
  obtain ⟨V, hV⟩ : ∃ V, V = b * 2 ^ s := ⟨_, rfl⟩
  obtain ⟨U, hU⟩ : ∃ U, U = a * 2 ^ s := ⟨_, rfl⟩
  rw [← hV] at hV1 hV2 hVl htop
  obtain ⟨L, hL⟩ : ∃ L, (digs a).length + 1 = L + (m + 2) := ⟨(digs a).length + 1 - (m + 2), by omega⟩
  have hL1 : (digs a).length + 1 ≤ L + (m + 2) := by omega
  have hL2 : L + (m + 2) ≤ (digs a).length + 1 := by omega
  have hmk : ∀ w, (Instr.makeSlice 81 (.int .i64 (((digs a).length : Int) - ((m : Int) + 2) + 1)) (.int .i64 (((digs a).length : Int) - ((m : Int) + 2) + 1))).run Tryd.prog w = .ok (.slice (some ⟨w.heap.size, 0, none⟩) L L) (w.alloc (zobj L)) :=
    fun w => make64 w _ L (by omega) (by omega)
  have hS1 := shiftLeft_any gx cx s (digs a) (digs_dig a) (by omega) (by omega) (by omega)
  have hS2 := shiftLeft_any gy cy s (digs b) (digs_dig b) (by omega) (by omega) (by omega)
  rw [val_digs, ← hU] at hS1
  rw [val_digs, ← hV, hbl] at hS2
  have HS1 := Lib.hid hS1
  have HS2 := Lib.hid hS2
  rw [hbl]
  clear hL hS1 hS2 htB ht
  go_enter Tryd.func70, Tryd.ntmps70
  go_wp2_with fail
  refine (HL.out _).mono ?_
  rintro e w0 ⟨rfl, rfl⟩
  go_wp2_with fail
  refine (HS1.out w hgx hrx).mono ?_
  rintro e w1 ⟨R0, rfl, ⟨hR0l, hR0d, hR0v⟩, hdbR, hb1⟩
  have hry1 : Rd w1 gy 0 (digs b) := hry.below hb1 hgy
  have hg1 := hdbR.lt
  have HR0 : Hid (R0.length = (digs a).length + 1 ∧ Dig R0 ∧ val R0 = U) := ⟨hR0l, hR0d, hR0v⟩
  clear hR0l hR0d hR0v
  go_wp2_with fail
  refine (HS2.out w1 (by omega) hry1).mono ?_
  rintro e w2 ⟨B0, rfl, ⟨hB0l, hB0d, hB0v⟩, hdbB, hb2⟩
  have hT := trim_any w1.heap.size 0 (m + 2 + 1) B0 hB0d (by rw [hB0l]; unfold maxLen; omega) (Nat.le_of_eq hB0l) w2 hdbB.rd0
  rw [hB0l, hB0v, hVl] at hT
  obtain ⟨zb, hzb⟩ := norm B0 hB0d
  rw [hB0v] at hzb
  rw [hzb] at hdbB
  have HT := Lib.hid hT
  clear hT hB0l hB0v hzb
  go_wp2_with fail
  refine HT.out.mono ?_
  rintro e w2' ⟨rfl, rfl⟩
  rw [show m + 1 + 1 = m + 2 from rfl]
  have hg2 := hdbB.lt
  have hV0 : 0 < V := by
    have := Nat.pow_pos (n := m + 1 + 1) Bs_pos
    omega
  have hB3 : Below w.heap.size w w2 := hb1.trans (hb2.mono hb1.size)
  have hdbR2 : DB w2 w.heap.size R0 := hdbR.below hb2 hdbR.lt
  have HV : Hid (V < Bs ^ (m + 2) ∧ 0 < V ∧ Bs ^ (m + 2) ≤ 2 * V ∧ (digs V).length = m + 2 ∧ V = b * 2 ^ s ∧ U = a * 2 ^ s) := ⟨hV1, hV0, hV2, hVl, hV, hU⟩
  have HTOP := Lib.hid htop
  have HBL := Lib.hid hbl
  -- the shifted dividend is below Bs^L * V
  have HULT : Hid (U < Bs ^ L * V) := by
    show _ < _
    have h1 : U < Bs ^ (digs a).length * 2 ^ s := by rw [hU]; exact Nat.mul_lt_mul_of_pos_right (lt_pow_digs a) (Nat.pow_pos (by omega))
    have h2 : 2 ^ s * 2 ≤ Bs := by rw [Bs_pow, ← Nat.pow_succ]; exact Nat.pow_le_pow_right (by omega) (by omega)
    have h3 : Bs ^ (digs a).length * (2 ^ s * 2) ≤ Bs ^ (digs a).length * Bs := Nat.mul_le_mul_left _ h2
    have h4 : Bs ^ L * Bs ^ (m + 2) ≤ Bs ^ L * (2 * V) := Nat.mul_le_mul_left _ hV2
    rw [← Nat.pow_add] at h4
    have h5 : Bs ^ (L + (m + 2)) = Bs ^ (digs a).length * Bs := by rw [← Nat.pow_succ]; congr 1; omega
    rw [h5] at h4
    have e1 : Bs ^ L * (2 * V) = 2 * (Bs ^ L * V) := by ac_rfl
    have e2 : Bs ^ (digs a).length * (2 ^ s * 2) = 2 * (Bs ^ (digs a).length * 2 ^ s) := by ac_rfl
    omega
  clear hV1 hV2 hVl hV hU hV0 htop hbl hdbR hct hry1 HS1 HS2 HT HL
  go_wp2
  go_loopw [33] (fun x wr => ∃ (i : Nat) (R Q : List Nat), i ≤ L ∧ x = .int .i64 i ∧ Q.length = i ∧ LdI U V (L - i) ((digs a).length + 1) R Q ∧ DB wr w.heap.size R ∧ DB wr w1.heap.size (digs V ++ List.replicate zb 0) ∧ DB wr w2.heap.size (List.replicate (L - i) 0 ++ Q) ∧ Below w.heap.size w wr) (fun x _ => L - (intOf x).toNat)
  case atStart =>
    obtain ⟨r1, r2, r3⟩ := HR0.out
    refine ⟨0, R0, [], Nat.zero_le _, rfl, rfl, ⟨r1, r2, Dig.nil, by rw [r3, Nat.sub_zero]; exact HULT.out, by rw [r3]; simp [val_nil]⟩, hdbR2.alloc _, hdbB.alloc _, ?_, hB3.alloc hB3.size _⟩
    have := DB.zeros w2 L
    rwa [Nat.sub_zero, List.append_nil]
  case round =>
    obtain ⟨i, R, Q, hi, rfl, hQl, hI, hdR, hdV, hdQ, hbw⟩ := hrel
    have hgq := hdQ.lt
    have hgw : w.heap.size < w1.heap.size := hg1
    have hgv : w1.heap.size < w2.heap.size := hg2
    by_cases hil : i < L
    · obtain ⟨J, hJ⟩ : ∃ J, J = L - 1 - i := ⟨_, rfl⟩
      have hJ1 : L - i = J + 1 := by omega
      rw [hJ1] at hI hdQ
      obtain ⟨v1, v0, v2, vl, ev1, ev2⟩ := HV.out
      clear ev1 ev2
      have hlen : (digs a).length + 1 = J + (m + 2 + 1) + ((digs a).length + 1 - (J + (m + 2 + 1))) := by omega
      obtain ⟨hR, l1, l2, c0, hRv, hDlt⟩ := hI.split v1 hlen
      have hIs := hI.rdig
      have hIn := fun D' h1 h2 h3 => hI.step (D' := D') v1 v0 hlen h1 h2 h3
      rw [hR] at hdR
      have hTM := takeMultiple_any w.heap.size w1.heap.size ((digs a).length + 1 - J) (m + 2 + 1) m (R.take J) ((R.drop J).take (m + 2 + 1)) ((R.drop J).drop (m + 2 + 1)) (digs V) ((hIs.drop J).take _) (digs_dig V) l2 vl (by omega) (HTOP.out (by omega)) (by rw [val_digs]; exact hDlt) (by omega) wr hdR (by omega) hdV.rdl
      rw [l1, l2, vl, val_digs] at hTM
      have HTM := Lib.hid hTM
      have HIN := Lib.hid hIn
      have HQL := Lib.hid hQl
      have HJ1 := Lib.hid hJ1
      have hqc := hdQ.cell J (by simp; omega)
      obtain ⟨xq, hxq⟩ : ∃ x : Int, wr.cell? ⟨w2.heap.size, J, none⟩ = some (.int .u64 x) := ⟨_, hqc⟩
      have hne : ¬ (digs a).length + 1 = J := by omega
      have hset : ∀ q : Nat, (List.replicate (J + 1) 0 ++ Q).set J q = List.replicate J 0 ++ (q :: Q) := fun q => by
        rw [List.replicate_succ', List.append_assoc, List.set_append_right _ _ (by simp)]; simp
      have HSET := Lib.hid hset
      generalize val ((R.drop J).take (m + 2 + 1)) = vd at *
      clear hTM hIn hQl hJ1 hR l1 l2 c0 hRv hDlt hlen v1 v0 v2 vl hqc hset hI hdR
      subst hJ
      go_wp2_with fail
      rw [show L - 1 - i + (m + 2) + 1 - (L - 1 - i) = m + 2 + 1 by omega]
      refine HTM.out.mono ?_
      rintro e w4 ⟨rfl, D', ⟨hDl, hDd, hDv⟩, hdR4, hg4⟩
      have hI4 := HIN.out D' hDl hDd hDv
      have hdV4 : DB w4 w1.heap.size (digs V ++ List.replicate zb 0) := hdV.keep (hg4.block _ hdV.lt (fun h => by have := Option.some.inj h; omega))
      have hdQ4 : DB w4 w2.heap.size (List.replicate (L - 1 - i + 1) 0 ++ Q) := hdQ.keep (hg4.block _ hdQ.lt (fun h => by have := Option.some.inj h; omega))
      have hx4 := (grown_cell (i := L - 1 - i) hg4 (show w2.heap.size ≠ w.heap.size by omega) hdQ.lt).trans hxq
      have hf4 := hdQ4.frozen (L - 1 - i)
      have hb4 : Below w.heap.size w w4 := hbw.trans (grown_below hg4 (Nat.le_refl _) hbw.size)
      have hn4 := hdQ4.set (L - 1 - i) (by simp; omega) (vd / V)
      rw [HSET.out] at hn4
      have HN := Lib.hid hn4
      have HI4 := Lib.hid hI4
      clear hDl hDv hI4 hn4 hdQ4 hdQ hdV
      go_wp2
      go_roundw
      case rel =>
        refine ⟨i + 1, R.take (L - 1 - i) ++ D' ++ (R.drop (L - 1 - i)).drop (m + 2 + 1), vd / V :: Q, by omega, by go_num, by rw [List.length_cons, HQL.out], ?_, ?_, ?_, ?_, hb4.setCell (by show w.heap.size ≤ w2.heap.size; omega) _⟩
        · rw [show L - (i + 1) = L - 1 - i by omega]; exact HI4.out
        · exact hdR4.keep (heap_setCell_other _ _ _ _ (by show w.heap.size ≠ w2.heap.size; omega))
        · exact hdV4.keep (heap_setCell_other _ _ _ _ (by show w1.heap.size ≠ w2.heap.size; omega))
        · rw [show L - (i + 1) = L - 1 - i by omega]; exact HN.out
      case measure => simp [intOf]; omega
    · have hiL : i = L := by omega
      subst hiL
      rw [Nat.sub_self] at hI hdQ
      rw [List.replicate_zero, List.nil_append] at hdQ
      obtain ⟨hqv, hrv⟩ := hI.done
      obtain ⟨_, v0, _, _, ev, eu⟩ := HV.out
      have hp2 : 0 < 2 ^ s := Nat.pow_pos (by omega)
      rw [ev, eu, Nat.mul_div_mul_right _ _ hp2] at hqv
      rw [ev, eu, Nat.mul_mod_mul_right] at hrv
      have hrl := hI.rlen
      have hSR := shiftRight_any w.heap.size ((digs a).length + 1) s R [] hI.rdig (by omega) (by omega) wr (by rw [List.append_nil]; exact hdR)
      rw [hrl, hrv, Nat.mul_div_cancel _ hp2] at hSR
      have HSR := Lib.hid hSR
      have HQV : Hid (Q.length = i ∧ Dig Q ∧ val Q = a / b) := ⟨hQl, hI.qdig, hqv⟩
      clear hSR hqv hrv hrl hI ev eu hQl
      go_wp2_with fail
      refine HSR.out.mono ?_
      rintro e w5 ⟨rfl, O, ⟨hOl, hOd, hOv⟩, hdO, hg5⟩
      rw [List.append_nil] at hdO
      have hdQ5 : DB w5 w2.heap.size Q := hdQ.keep (hg5.block _ hdQ.lt (fun h => by have := Option.some.inj h; omega))
      have hb5 : Below w.heap.size w w5 := hbw.trans (grown_below hg5 (Nat.le_refl _) hbw.size)
      obtain ⟨q1, q2, q3⟩ := HQV.out
      have hT1 := trim_any w2.heap.size 0 i Q q2 (by rw [q1]; unfold maxLen; omega) (Nat.le_of_eq q1) w5 hdQ5.rd0
      rw [q1, q3] at hT1
      have hT2 := trim_any w.heap.size 0 ((digs a).length + 1) O hOd (by rw [hOl]; unfold maxLen; omega) (Nat.le_of_eq hOl) w5 hdO.rd0
      rw [hOl, hOv] at hT2
      obtain ⟨zq, hzq⟩ := norm Q q2
      obtain ⟨zr, hzr⟩ := norm O hOd
      have hcq : (digs (a / b)).length ≤ i := by
        have := congrArg List.length hzq
        rw [q1, q3, List.length_append] at this; omega
      have hcr : (digs (a % b)).length ≤ (digs a).length + 1 := by
        have := congrArg List.length hzr
        rw [hOl, hOv, List.length_append] at this; omega
      rw [q3] at hzq
      rw [hOv] at hzr
      rw [hzq] at hdQ5
      rw [hzr] at hdO
      have HT1 := Lib.hid hT1
      have HT2 := Lib.hid hT2
      have HF : Hid (DB w5 w2.heap.size (digs (a / b) ++ List.replicate zq 0) ∧ DB w5 w.heap.size (digs (a % b) ++ List.replicate zr 0) ∧ w2.heap.size ≠ w.heap.size ∧ w.heap.size ≤ w2.heap.size ∧ w.heap.size ≤ w.heap.size ∧ (digs (a / b)).length ≤ i ∧ (digs (a % b)).length ≤ (digs a).length + 1 ∧ Below w.heap.size w w5) :=
        ⟨hdQ5, hdO, by omega, by omega, Nat.le_refl _, hcq, hcr, hb5⟩
      clear q1 q3 hzq hzr hOl hOv hT1 hT2 hcq hcr hdQ hdR
      go_wp2_with fail
      refine HT1.out.mono ?_
      rintro e w6 ⟨rfl, rfl⟩
      go_wp2_with fail
      refine HT2.out.mono ?_
      rintro e w6 ⟨rfl, rfl⟩
      go_wp2
      go_ret2
      exact ⟨w2.heap.size, i, zq, w.heap.size, (digs a).length + 1, zr, rfl, HF.out⟩
end Go.Proofs.YthehcjfmokabfaaDoor
