/-
  Layer 1, walks T: Bits, powerOfTwo, halfOfSum, Sqrt.
-/
import Derived.Test.YtgmmfaclchoigaaDoorWs
set_option linter.unusedVariables false
set_option linter.unusedSimpArgs false
namespace Go.Proofs.YtgmmfaclchoigaaDoor
open Go.RowKit
attribute [local irreducible] lo hs sm s64 c64 d64 b64 mh ml pd pc qd qc val hiB str cmpI srD lz

/-- The number of binary digits. -/
def nb (n : Nat) : Nat := if n = 0 then 0 else n.log2 + 1
theorem nb_zero : nb 0 = 0 := rfl
theorem nb_of {n k : Nat} (h1 : 2 ^ k ≤ n) (h2 : n < 2 ^ (k + 1)) : nb n = k + 1 := by
  have h0 : n ≠ 0 := by intro h; rw [h] at h1; have := Nat.pow_pos (n := k) (show 0 < 2 by omega); omega
  unfold nb
  rw [if_neg h0, (Nat.log2_eq_iff h0).2 ⟨h1, h2⟩]
theorem nb_spec {n : Nat} (h : n ≠ 0) : ∃ k, nb n = k + 1 ∧ 2 ^ k ≤ n ∧ n < 2 ^ (k + 1) :=
  ⟨n.log2, by unfold nb; rw [if_neg h], Nat.log2_self_le h, Nat.lt_log2_self⟩
theorem nb_lt (n : Nat) : n < 2 ^ nb n := by
  by_cases h : n = 0
  · subst h; decide
  · obtain ⟨k, e, _, h2⟩ := nb_spec h
    rw [e]; exact h2
theorem nb_bl {x : Nat} (h : x < Bs) : Lib.bitLen x = nb x := by
  by_cases h0 : x = 0
  · subst h0; decide
  · obtain ⟨k, e, h1, h2⟩ := bl_spec x h0 (by rw [← Bs_pow]; exact h)
    rw [e, nb_of h1 h2]
theorem nb_top {n L t : Nat} (ht : t ≠ 0) (h1 : t * Bs ^ L ≤ n) (h2 : n < (t + 1) * Bs ^ L) : nb n = L * 64 + nb t := by
  obtain ⟨k, e, k1, k2⟩ := nb_spec ht
  have hp : Bs ^ L = 2 ^ (L * 64) := by rw [Bs_pow, ← Nat.pow_mul, Nat.mul_comm]
  rw [hp] at h1 h2
  rw [e, ← Nat.add_assoc]
  apply nb_of
  · rw [Nat.add_comm, Nat.pow_add]; exact Nat.le_trans (Nat.mul_le_mul_right _ k1) h1
  · rw [show L * 64 + k + 1 = (k + 1) + L * 64 by omega, Nat.pow_add]
    exact Nat.lt_of_lt_of_le h2 (Nat.mul_le_mul_right _ k2)
theorem nb_high (n L : Nat) (hL : (digs (n / Bs)).length = L + 1) : nb n = (L + 1) * 64 + nb ((digs (n / Bs))[L]'(by omega)) := by
  have hm := val_digs (n / Bs)
  rw [← List.take_of_length_le (Nat.le_of_eq hL), take_snoc _ L (by omega)] at hm
  have h0 : digs (n / Bs) ≠ [] := by intro h; rw [h] at hL; simp at hL
  have ht : (digs (n / Bs))[L]'(by omega) ≠ 0 := by
    have := top_digs (n / Bs) h0
    rw [List.getLast_eq_getElem] at this
    simpa [hL] using this
  have hv := val_lt ((digs_dig (n / Bs)).take L)
  rw [List.length_take, Nat.min_eq_left (by omega)] at hv
  generalize (digs (n / Bs))[L]'(by omega) = t at *
  generalize val ((digs (n / Bs)).take L) = v at *
  have hn := Nat.div_add_mod n Bs
  have hlt : n % Bs < Bs := Nat.mod_lt _ Bs_pos
  rw [← hm] at hn
  have e1 : Bs * (v + Bs ^ L * t) = Bs * v + t * Bs ^ (L + 1) := by rw [Nat.mul_add, Nat.pow_succ]; congr 1; rw [← Nat.mul_assoc, Nat.mul_comm, Nat.mul_comm Bs]
  have e2 : Bs * v + Bs ≤ Bs ^ (L + 1) := by
    rw [← Nat.mul_succ, Nat.pow_succ, Nat.mul_comm]; exact Nat.mul_le_mul_right _ hv
  rw [e1] at hn
  apply nb_top ht
  · omega
  · rw [Nat.add_mul, Nat.one_mul]; omega
theorem len64 (x : Nat) (h : x < Bs) (w : World) : Calls Tryd.prog 61 #[.int .u64 (x : Int)] w fun e w' => e = .returned (.int .i64 ((nb x : Nat) : Int)) ∧ w = w' := by
  refine (Tryd.bits_Len64 (x : Int) w (by omega) (by unfold Bs at h; omega)).mono fun e w' ⟨he, hw⟩ => ⟨?_, hw.symm⟩
  rw [he, Int.toNat_natCast, nb_bl h]
theorem lenU (x : Nat) (h : x < Bs) (w : World) : Calls Tryd.prog 63 #[.int .u64 (x : Int)] w fun e w' => e = .returned (.int .i64 ((nb x : Nat) : Int)) ∧ w = w' := by
  refine (Tryd.bits_Len (x : Int) w (by omega) (by unfold Bs at h; omega)).mono fun e w' ⟨he, hw⟩ => ⟨?_, hw.symm⟩
  rw [he, Int.toNat_natCast, nb_bl h]
theorem nb_le64 {x : Nat} (h : x < Bs) : nb x ≤ 64 := by
  rw [← nb_bl h]; exact bl_le x (by rw [← Bs_pow]; exact h)

attribute [local irreducible] nb
set_option maxHeartbeats 2000000 in
set_option maxRecDepth 100000 in
theorem bits_any (n : Nat) (hn : (digs n).length ≤ 1099511627776) (w : World) :
    Calls Tryd.prog 29 #[natV n] w fun e w' => e = .returned (.int .i64 ((nb n : Nat) : Int)) ∧ Below w.heap.size w w' := by
  obtain ⟨w0, hw0, hA, hbw, hsz⟩ := boxes1 w (.int .u64 ((lo n : Nat) : Int)) (.string (hs n)) 26
  have HS := Lib.hid (fun w => small_any n w)
  obtain ⟨a0, a1, af⟩ := id hA
  by_cases hb : n < Bs
  · have hs1 : sm n = true := by unfold sm; exact decide_eq_true hb
    have HL := Lib.hid (fun w => len64 n hb w)
    have hlo := Lib.hid (lo_small hb)
    clear hb
    go_enter Tryd.func29, Tryd.ntmps29
    go_wp2_with fail
    refine (HS.out _).mono ?_
    rintro e w1 ⟨rfl, hb1⟩
    obtain ⟨c0, c1, cf⟩ := hA.below hb1 hsz
    rw [hlo.out] at c0
    clear hlo a0 a1 af
    go_wp2_with fail
    refine (HL.out _).mono ?_
    rintro e w2 ⟨rfl, rfl⟩
    go_wp2_with fail
    go_ret
    exact ⟨rfl, hbw.trans (hb1.mono hbw.size)⟩
  · have hs1 : sm n = false := by unfold sm; exact decide_eq_false hb
    obtain ⟨L, hL⟩ : ∃ L, (digs (n / Bs)).length = L + 1 := by
      have : digs (n / Bs) ≠ [] := by
        intro h
        have := digs_eq_nil.1 h
        rw [Nat.div_eq_zero_iff] at this
        rcases this with h | h
        · unfold Bs at h; omega
        · exact hb h
      exact ⟨(digs (n / Bs)).length - 1, by have := List.length_pos_iff.2 this; omega⟩
    have hLb : L + 1 ≤ 1099511627776 := by rw [← hL]; exact Nat.le_trans (digs_mono (Nat.div_le_self n Bs)) hn
    have hnb := nb_high n L hL
    have htB : (digs (n / Bs))[L]'(by omega) < Bs := (digs_dig _).get L (by omega)
    have hsize : (hs n).size = 8 * (L + 1) := by rw [hs_size, hL]
    have HD := fun w => digitAt_any (hs n) 0 (by omega) (by rw [hsize]; unfold maxLen; omega) w
    rw [hs_piece n 0 (by omega)] at HD
    have hidx : (digs (n / Bs)).length - 1 - 0 = L := by omega
    simp only [hidx] at HD
    rw [hnb]
    generalize (digs (n / Bs))[L]'(by omega) = t at *
    have HL : Hid (∀ w, Calls Tryd.prog 61 #[.int .u64 (t : Int)] w fun e w' => e = .returned (.int .i64 ((nb t : Nat) : Int)) ∧ w' = w) := Lib.hid (fun w => (len64 t htB w).mono fun _ _ h => ⟨h.1, h.2.symm⟩)
    have ht64 := nb_le64 htB
    have HD : Hid (∀ w, Calls Tryd.prog 62 #[.string (hs n), .int .i64 0] w fun e w' => e = .returned (.int .u64 (t : Int)) ∧ ∃ n, w' = w.drewN n) := Lib.hid HD
    clear hnb htB hidx hL hb hn
    obtain ⟨K, hK⟩ : ∃ K, K = L + 1 := ⟨_, rfl⟩
    rw [← hK] at hsize hLb ⊢
    have hdv : ((8 * K : Nat) : Int) / 8 = (K : Int) := by omega
    go_enter Tryd.func29, Tryd.ntmps29
    go_wp2_with fail
    refine (HS.out _).mono ?_
    rintro e w1 ⟨rfl, hb1⟩
    obtain ⟨c0, c1, cf⟩ := hA.below hb1 hsz
    clear a0 a1 af
    go_wp2_with fail
    go_quiet (first | (go_at_call 62; exact Calls.quiet_of (HD.out _)) | (go_at_call 61; exact Calls.quiet_of_same (HL.out _)))
    go_wp2
    go_ret
    refine ⟨congrArg (fun k : Int => Ending.returned (.int .i64 k)) ?_, bdrew (hbw.trans (hb1.mono hbw.size)) nq⟩
    rw [hK]; omega

theorem p2_val (q s : Nat) : val ((List.replicate (q + 1) 0).set q (2 ^ s)) = 2 ^ (64 * q + s) := by
  have e : (List.replicate (q + 1) 0).set q (2 ^ s) = List.replicate q 0 ++ [2 ^ s] := by
    rw [List.replicate_succ', List.set_append_right _ _ (by simp)]
    simp
  rw [e, val_append, val_zeros, List.length_replicate, val_cons, val_nil, Bs_pow, ← Nat.pow_mul, Nat.zero_add, Nat.mul_zero, Nat.add_zero, ← Nat.pow_add]
theorem one_shl (s : Nat) (h : s < 64) : IntKind.u64.wrap ((2 : Int) ^ s) = ((2 ^ s : Nat) : Int) := by
  have := sh_wrap 1 s
  rw [Nat.one_mul, Nat.mod_eq_of_lt (show 2 ^ s < Bs by rw [Bs_pow]; exact Nat.pow_lt_pow_right (by omega) h)] at this
  simpa using this

set_option maxHeartbeats 2000000 in
set_option maxRecDepth 100000 in
theorem powerOfTwo_any (n : Nat) (hn : n ≤ 1099511627776) (w : World) :
    Calls Tryd.prog 59 #[.int .i64 (n : Int)] w fun e w' => e = .returned (natV (2 ^ n)) ∧ Below w.heap.size w w' := by
  obtain ⟨q, hq⟩ : ∃ q, q = n / 64 := ⟨_, rfl⟩
  obtain ⟨s, hs⟩ : ∃ s, s = n % 64 := ⟨_, rfl⟩
  have hns : 64 * q + s = n := by omega
  have hs64 : s < 64 := by omega
  have hdq : (n : Int) / 64 = (q : Int) := by omega
  have hdm : (n : Int).tmod 64 = (s : Int) := by rw [Int.tmod_eq_emod_of_nonneg (by omega)]; omega
  have hm64 : min s 64 = s := by omega
  have hsh := one_shl s hs64
  have hqb : q ≤ 17179869184 := by omega
  obtain ⟨w0, hw0, hA, hbw, hsz⟩ := boxes1 w (.int .u64 0) (.string ⟨#[]⟩) 26
  have hmk : (Instr.makeSlice 65 (.int .i64 ((q : Int) + 1)) (.int .i64 ((q : Int) + 1))).run Tryd.prog w0 = .ok (.slice (some ⟨w0.heap.size, 0, none⟩) (q + 1) (q + 1)) (w0.alloc (zobj (q + 1))) := make64 w0 _ (q + 1) (by omega) (by omega)
  have hz := DB.zeros w0 (q + 1)
  have hcell := hz.cell q (by simp)
  have hfz := hz.frozen q
  rw [List.getElem_replicate] at hcell
  have hset := hz.set q (by simp) (2 ^ s)
  have hbs : 2 ^ s < Bs := by rw [Bs_pow]; exact Nat.pow_lt_pow_right (by omega) hs64
  have HP := fun w h => packQ w0.heap.size (q + 1) (q + 1) (2 ^ n) ((List.replicate (q + 1) 0).set q (2 ^ s)) [] (by simp) ((Dig.zeros _).set q hbs) (by rw [p2_val, hns]) (by omega) (Nat.le_refl _) w h
  rw [List.append_nil] at HP
  replace HP := Lib.hid HP
  have hb1 : Below w.heap.size w (w0.alloc (zobj (q + 1))) := hbw.alloc (Nat.le_of_lt hsz) _
  have hA1 := hA.below ((Below.refl w0.heap.size w0).alloc (Nat.le_refl _) (zobj (q + 1))) hsz
  have hb2 : Below w.heap.size w ((w0.alloc (zobj (q + 1))).setCell ⟨w0.heap.size, q, none⟩ (.int .u64 ((2 ^ s : Nat) : Int))) := hb1.setCell (Nat.le_of_lt hsz) _
  have hA2 : Bx ((w0.alloc (zobj (q + 1))).setCell ⟨w0.heap.size, q, none⟩ (.int .u64 ((2 ^ s : Nat) : Int))) w.heap.size (.int .u64 0) (.string ⟨#[]⟩) :=
    hA.below (((Below.refl w0.heap.size w0).alloc (Nat.le_refl _) (zobj (q + 1))).setCell (Nat.le_refl _) _) hsz
  generalize 2 ^ s = P at *
  generalize hW1 : w0.alloc (zobj (q + 1)) = W1 at *
  generalize hW2 : W1.setCell ⟨w0.heap.size, q, none⟩ (.int .u64 (P : Int)) = W2 at *
  clear hq hs hns hs64 hz hbs
  go_enter Tryd.func59, Tryd.ntmps59
  go_wp2_with fail
  refine (HP.out _ hset).mono ?_
  rintro e w3 ⟨rfl, hb3⟩
  have hs2 : w.heap.size < W2.heap.size := by
    have := hset.lt; omega
  obtain ⟨c0, c1, cf⟩ := hA2.below hb3 hs2
  have hB3 := hb2.trans (hb3.mono (Nat.le_of_lt hs2))
  go_wp2_with fail
  exact bodyPost_ret (v := natV (2 ^ n)) (by simp [results, Tryd.results59, go_sem, c0, c1]) rfl ⟨rfl, (hB3.setCell (by simp) _).setCell (by simp) _⟩

theorem digs_add_le {a b k : Nat} (ha : (digs a).length ≤ k) (hb : (digs b).length ≤ k) : (digs (a + b)).length ≤ k + 1 := by
  have h1 := digs_length_iff.1 ha
  have h2 := digs_length_iff.1 hb
  refine digs_length_iff.2 ?_
  rw [Nat.pow_succ]
  have h3 : Bs ^ k * 2 ≤ Bs ^ k * Bs := Nat.mul_le_mul_left _ Bs_gt
  omega
theorem shiftR (g c n a : Nat) (C : List Nat) (hn : n < 64) (hl : (digs a).length ≤ 1000000000000) (w : World) (hdb : DB w g (digs a ++ C)) :
    Calls Tryd.prog 81 #[.slice (some ⟨g, 0, none⟩) (digs a).length c, .int .i64 (n : Int)] w fun e w' =>
      e = .returned (.tuple #[]) ∧ ∃ O : List Nat, (O.length = (digs a).length ∧ Dig O ∧ val O = a / 2 ^ n) ∧ DB w' g (O ++ C) ∧ w.grownBy w' (some g) := by
  have := shiftRight_any g c n (digs a) C (digs_dig a) hn (by omega) w hdb
  rw [val_digs] at this
  exact this

set_option maxHeartbeats 2000000 in
set_option maxRecDepth 100000 in
theorem half_any (r a : Nat) (hr : 0 < r) (hlr : (digs r).length ≤ 500000000000) (hla : (digs a).length ≤ 500000000000) (w : World) :
    Calls Tryd.prog 60 #[natV r, natV a] w fun e w' => e = .returned (natV ((r + a / r) / 2)) ∧ Below w.heap.size w w' := by
  obtain ⟨w0, hw0, hA, hB, hC, hbw, hsz⟩ := boxes3 w (.int .u64 ((lo r : Nat) : Int)) (.string (hs r)) (.int .u64 ((lo a : Nat) : Int)) (.string (hs a)) (.int .u64 0) (.string ⟨#[]⟩) 26
  have H0 : B3 w0 w.heap.size r a := ⟨hA, hB, hC, hsz⟩
  have HD := Lib.hid (fun w => div_pos a r hr (by omega) w)
  have hlq : (digs (a / r)).length ≤ 500000000000 := Nat.le_trans (digs_mono (Nat.div_le_self a r)) hla
  have HA := fun w => add_any r (a / r) (by omega) (by omega) w
  have hls : (digs (r + a / r)).length ≤ 1000000000000 := Nat.le_trans (digs_add_le hlr hlq) (by omega)
  generalize r + a / r = s at *
  generalize hmm : s / 2 = m at *
  replace hmm := Lib.hid hmm
  replace HA := Lib.hid HA
  have HDg := Lib.hid (fun w => digits_any s (by omega) w)
  clear hA hB hC hsz
  obtain ⟨⟨a0, a1, af⟩, ⟨b0, b1, bf⟩, -⟩ := id H0
  go_enter Tryd.func60, Tryd.ntmps60
  go_wp2_with fail
  refine (HD.out _).mono ?_
  rintro e w1 ⟨rfl, hb1⟩
  have H1 := H0.below hb1
  have hB1 := H0.step hbw hb1
  obtain ⟨w2, hw2, hQ, hR, hb2, hsz2⟩ := boxes2 w1 (.int .u64 ((lo (a / r) : Nat) : Int)) (.string (hs (a / r))) (.int .u64 ((lo (a % r) : Nat) : Int)) (.string (hs (a % r))) 26
  have H2 := H1.below hb2
  have hB2 := H1.step hB1 hb2
  clear a0 a1 af b0 b1 bf hb1 hb2 H0 H1 hB1 hbw hw0 HD
  obtain ⟨⟨a0, a1, af⟩, ⟨b0, b1, bf⟩, -⟩ := id H2
  obtain ⟨q0, q1, qf⟩ := hQ
  go_wp2_with fail
  refine (HA.out _).mono ?_
  rintro e w3 ⟨rfl, hb3⟩
  have H3 := H2.below hb3
  have hB3 := H2.step hB2 hb3
  clear a0 a1 af b0 b1 bf q0 q1 qf hw2 hR hb3 H2 hB2 HA
  go_wp2_with fail
  refine (HDg.out _).mono ?_
  rintro e w4 ⟨g, c, z, rfl, hc, hg, hd, hb4⟩
  have H4 := H3.below hb4
  have hB4 := H3.step hB3 hb4
  have hgk : w.heap.size + 3 ≤ g := Nat.le_trans H3.sz hg
  have HSh := shiftR g c 1 s (List.replicate z 0) (by omega) (by omega) w4 hd
  rw [Nat.pow_one] at HSh
  have HP := fun Q h1 h2 h3 => packQ g c (digs s).length m Q (List.replicate z 0) h1 h2 h3 hls hc
  rw [hmm.out] at HSh
  replace HSh := Lib.hid HSh
  replace HP := Lib.hid HP
  clear hb4 H3 hB3 HDg hd
  go_wp2_with fail
  refine (HSh.out).mono ?_
  rintro e w5 ⟨rfl, O, ⟨o1, o2, o3⟩, hd5, hg5⟩
  have hb5 := grown_below hg5 hgk H4.sz
  have hC5 := H4.C.below hb5 (by omega)
  have hB5 := hB4.trans (hb5.mono (by omega))
  have hs5 : w.heap.size + 3 ≤ w5.heap.size := Nat.le_trans H4.sz hb5.size
  clear hb5 hg5 H4 hB4 HSh
  go_wp2_with fail
  refine (HP.out O o1 o2 o3 _ hd5).mono ?_
  rintro e w6 ⟨rfl, hb6⟩
  obtain ⟨c0, c1, cf⟩ := hC5.below hb6 (by omega)
  have hB6 := hB5.trans (hb6.mono (by omega))
  go_wp2_with fail
  exact bodyPost_ret (v := natV m) (by simp [results, Tryd.results60, go_sem, c0, c1]) rfl ⟨rfl, (hB6.setCell (by simp <;> omega) _).setCell (by simp <;> omega) _⟩
end Go.Proofs.YtgmmfaclchoigaaDoor
