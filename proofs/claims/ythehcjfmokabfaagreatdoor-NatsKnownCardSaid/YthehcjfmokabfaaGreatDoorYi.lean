/-
  Layer 1, walks T: Bits, powerOfTwo, halfOfSum, Sqrt.
-/
import Derived.Test.YthehcjfmokabfaaGreatDoorYh
import Derived.BigQuiet
import Derived.BigGuard
import Derived.Test.YthehcjfmokabfaaGreatDoorYc
import Derived.Lib.ItoaNum
set_option linter.unusedVariables false
set_option linter.unusedSimpArgs false
namespace Go.Proofs.YthehcjfmokabfaaGreatDoor
open Go.RowKit
attribute [local irreducible] lo hs sm s64 c64 d64 b64 mh ml pd pc qd qc val hiB str cmpI srD lz

/-- The number of binary digits. -/
def nb (n : Nat) : Nat := if n = 0 then 0 else n.log2 + 1
theorem nb_zero : nb 0 = 0 := rfl
theorem nb_of {n k : Nat} (h1 : 2 ^ k ≤ n) (h2 : n < 2 ^ (k + 1)) : nb n = k + 1 := by
  have h0 : n ≠ 0 := by intro h; rw [h] at h1; have := Nat.pow_pos (n := k) (show 0 < 2 by omega); omega
  unfold nb
  rw [if_neg h0, (Nat.log2_eq_iff h0).2 ⟨h1, h2⟩]
theorem nb_spec {n : Nat} (h : n ≠ 0) : ∃ k, nb n = k + 1 ∧ 2 ^ k ≤ n ∧ n < 2 ^ (k + 1) :=
  ⟨n.log2, by unfold nb; rw [if_neg h], Nat.log2_self_le h, Nat.lt_log2_self⟩
theorem nb_lt (n : Nat) : n < 2 ^ nb n := by
  by_cases h : n = 0
  · subst h; decide
  · obtain ⟨k, e, _, h2⟩ := nb_spec h
    rw [e]; exact h2
theorem nb_bl {x : Nat} (h : x < Bs) : Lib.bitLen x = nb x := by
  by_cases h0 : x = 0
  · subst h0; decide
  · obtain ⟨k, e, h1, h2⟩ := bl_spec x h0 (by rw [← Bs_pow]; exact h)
    rw [e, nb_of h1 h2]
theorem nb_top {n L t : Nat} (ht : t ≠ 0) (h1 : t * Bs ^ L ≤ n) (h2 : n < (t + 1) * Bs ^ L) : nb n = L * 64 + nb t := by
  obtain ⟨k, e, k1, k2⟩ := nb_spec ht
  have hp : Bs ^ L = 2 ^ (L * 64) := by rw [Bs_pow, ← Nat.pow_mul, Nat.mul_comm]
  rw [hp] at h1 h2
  rw [e, ← Nat.add_assoc]
  apply nb_of
  · rw [Nat.add_comm, Nat.pow_add]; exact Nat.le_trans (Nat.mul_le_mul_right _ k1) h1
  · rw [show L * 64 + k + 1 = (k + 1) + L * 64 by omega, Nat.pow_add]
    exact Nat.lt_of_lt_of_le h2 (Nat.mul_le_mul_right _ k2)
theorem nb_high (n L : Nat) (hL : (digs (n / Bs)).length = L + 1) : nb n = (L + 1) * 64 + nb ((digs (n / Bs))[L]'(by omega)) := by
  have hm := val_digs (n / Bs)
  rw [← List.take_of_length_le (Nat.le_of_eq hL), take_snoc _ L (by omega)] at hm
  have h0 : digs (n / Bs) ≠ [] := by intro h; rw [h] at hL; simp at hL
  have ht : (digs (n / Bs))[L]'(by omega) ≠ 0 := by
    have := top_digs (n / Bs) h0
    rw [List.getLast_eq_getElem] at this
    simpa [hL] using this
  have hv := val_lt ((digs_dig (n / Bs)).take L)
  rw [List.length_take, Nat.min_eq_left (by omega)] at hv
  generalize (digs (n / Bs))[L]'(by omega) = t at *
  generalize val ((digs (n / Bs)).take L) = v at *
  have hn := Nat.div_add_mod n Bs
  have hlt : n % Bs < Bs := Nat.mod_lt _ Bs_pos
  rw [← hm] at hn
  have e1 : Bs * (v + Bs ^ L * t) = Bs * v + t * Bs ^ (L + 1) := by rw [Nat.mul_add, Nat.pow_succ]; congr 1; rw [← Nat.mul_assoc, Nat.mul_comm, Nat.mul_comm Bs]
  have e2 : Bs * v + Bs ≤ Bs ^ (L + 1) := by
    rw [← Nat.mul_succ, Nat.pow_succ, Nat.mul_comm]; exact Nat.mul_le_mul_right _ hv
  rw [e1] at hn
  apply nb_top ht
  · omega
  · rw [Nat.add_mul, Nat.one_mul]; omega
theorem len64 (x : Nat) (h : x < Bs) (w : World) : Calls Tryz.prog 114 #[.int .u64 (x : Int)] w fun e w' => e = .returned (.int .i64 ((nb x : Nat) : Int)) ∧ w = w' := by
  refine (Tryz.bits_Len64 (x : Int) w (by omega) (by unfold Bs at h; omega)).mono fun e w' ⟨he, hw⟩ => ⟨?_, hw.symm⟩
  rw [he, Int.toNat_natCast, nb_bl h]
theorem lenU (x : Nat) (h : x < Bs) (w : World) : Calls Tryz.prog 116 #[.int .u64 (x : Int)] w fun e w' => e = .returned (.int .i64 ((nb x : Nat) : Int)) ∧ w = w' := by
  refine (Tryz.bits_Len (x : Int) w (by omega) (by unfold Bs at h; omega)).mono fun e w' ⟨he, hw⟩ => ⟨?_, hw.symm⟩
  rw [he, Int.toNat_natCast, nb_bl h]
theorem nb_le64 {x : Nat} (h : x < Bs) : nb x ≤ 64 := by
  rw [← nb_bl h]; exact bl_le x (by rw [← Bs_pow]; exact h)

attribute [local irreducible] nb
set_option maxHeartbeats 2000000 in
set_option maxRecDepth 100000 in
theorem bits_any (n : Nat) (hn : (digs n).length ≤ 1099511627776) (w : World) :
    Calls Tryz.prog 66 #[natV n] w fun e w' => e = .returned (.int .i64 ((nb n : Nat) : Int)) ∧ Below w.heap.size w w' := by
  obtain ⟨w0, hw0, hA, hbw, hsz⟩ := boxes1 w (.int .u64 ((lo n : Nat) : Int)) (.string (hs n)) 32
  have HS := Lib.hid (fun w => small_any n w)
  obtain ⟨a0, a1, af⟩ := id hA
  by_cases hb : n < Bs
  · have hs1 : sm n = true := by unfold sm; exact decide_eq_true hb
    have HL := Lib.hid (fun w => len64 n hb w)
    have hlo := Lib.hid (lo_small hb)
    clear hb
    go_enter Tryz.func66, Tryz.ntmps66
    go_wp2_with fail
    refine (HS.out _).mono ?_
    rintro e w1 ⟨rfl, hb1⟩
    obtain ⟨c0, c1, cf⟩ := hA.below hb1 hsz
    rw [hlo.out] at c0
    clear hlo a0 a1 af
    go_wp2_with fail
    refine (HL.out _).mono ?_
    rintro e w2 ⟨rfl, rfl⟩
    go_wp2_with fail
    go_ret
    exact ⟨rfl, hbw.trans (hb1.mono hbw.size)⟩
  · have hs1 : sm n = false := by unfold sm; exact decide_eq_false hb
    obtain ⟨L, hL⟩ : ∃ L, (digs (n / Bs)).length = L + 1 := by
      have : digs (n / Bs) ≠ [] := by
        intro h
        have := digs_eq_nil.1 h
        rw [Nat.div_eq_zero_iff] at this
        rcases this with h | h
        · unfold Bs at h; omega
        · exact hb h
      exact ⟨(digs (n / Bs)).length - 1, by have := List.length_pos_iff.2 this; omega⟩
    have hLb : L + 1 ≤ 1099511627776 := by rw [← hL]; exact Nat.le_trans (digs_mono (Nat.div_le_self n Bs)) hn
    have hnb := nb_high n L hL
    have htB : (digs (n / Bs))[L]'(by omega) < Bs := (digs_dig _).get L (by omega)
    have hsize : (hs n).size = 8 * (L + 1) := by rw [hs_size, hL]
    have HD := fun w => digitAt_any (hs n) 0 (by omega) (by rw [hsize]; unfold maxLen; omega) w
    rw [hs_piece n 0 (by omega)] at HD
    have hidx : (digs (n / Bs)).length - 1 - 0 = L := by omega
    simp only [hidx] at HD
    rw [hnb]
    generalize (digs (n / Bs))[L]'(by omega) = t at *
    have HL : Hid (∀ w, Calls Tryz.prog 114 #[.int .u64 (t : Int)] w fun e w' => e = .returned (.int .i64 ((nb t : Nat) : Int)) ∧ w' = w) := Lib.hid (fun w => (len64 t htB w).mono fun _ _ h => ⟨h.1, h.2.symm⟩)
    have ht64 := nb_le64 htB
    have HD : Hid (∀ w, Calls Tryz.prog 115 #[.string (hs n), .int .i64 0] w fun e w' => e = .returned (.int .u64 (t : Int)) ∧ ∃ n, w' = w.drewN n) := Lib.hid HD
    clear hnb htB hidx hL hb hn
    obtain ⟨K, hK⟩ : ∃ K, K = L + 1 := ⟨_, rfl⟩
    rw [← hK] at hsize hLb ⊢
    have hdv : ((8 * K : Nat) : Int) / 8 = (K : Int) := by omega
    go_enter Tryz.func66, Tryz.ntmps66
    go_wp2_with fail
    refine (HS.out _).mono ?_
    rintro e w1 ⟨rfl, hb1⟩
    obtain ⟨c0, c1, cf⟩ := hA.below hb1 hsz
    clear a0 a1 af
    go_wp2_with fail
    go_quiet (first | (go_at_call 115; exact Calls.quiet_of (HD.out _)) | (go_at_call 114; exact Calls.quiet_of_same (HL.out _)))
    go_wp2
    go_ret
    refine ⟨congrArg (fun k : Int => Ending.returned (.int .i64 k)) ?_, bdrew (hbw.trans (hb1.mono hbw.size)) nq⟩
    rw [hK]; omega

theorem p2_val (q s : Nat) : val ((List.replicate (q + 1) 0).set q (2 ^ s)) = 2 ^ (64 * q + s) := by
  have e : (List.replicate (q + 1) 0).set q (2 ^ s) = List.replicate q 0 ++ [2 ^ s] := by
    rw [List.replicate_succ', List.set_append_right _ _ (by simp)]
    simp
  rw [e, val_append, val_zeros, List.length_replicate, val_cons, val_nil, Bs_pow, ← Nat.pow_mul, Nat.zero_add, Nat.mul_zero, Nat.add_zero, ← Nat.pow_add]
theorem one_shl (s : Nat) (h : s < 64) : IntKind.u64.wrap ((2 : Int) ^ s) = ((2 ^ s : Nat) : Int) := by
  have := sh_wrap 1 s
  rw [Nat.one_mul, Nat.mod_eq_of_lt (show 2 ^ s < Bs by rw [Bs_pow]; exact Nat.pow_lt_pow_right (by omega) h)] at this
  simpa using this

set_option maxHeartbeats 2000000 in
set_option maxRecDepth 100000 in
theorem powerOfTwo_any (n : Nat) (hn : n ≤ 1099511627776) (w : World) :
    Calls Tryz.prog 112 #[.int .i64 (n : Int)] w fun e w' => e = .returned (natV (2 ^ n)) ∧ Below w.heap.size w w' := by
  obtain ⟨q, hq⟩ : ∃ q, q = n / 64 := ⟨_, rfl⟩
  obtain ⟨s, hs⟩ : ∃ s, s = n % 64 := ⟨_, rfl⟩
  have hns : 64 * q + s = n := by omega
  have hs64 : s < 64 := by omega
  have hdq : (n : Int) / 64 = (q : Int) := by omega
  have hdm : (n : Int).tmod 64 = (s : Int) := by rw [Int.tmod_eq_emod_of_nonneg (by omega)]; omega
  have hm64 : min s 64 = s := by omega
  have hsh := one_shl s hs64
  have hqb : q ≤ 17179869184 := by omega
  obtain ⟨w0, hw0, hA, hbw, hsz⟩ := boxes1 w (.int .u64 0) (.string ⟨#[]⟩) 32
  have hmk : (Instr.makeSlice 114 (.int .i64 ((q : Int) + 1)) (.int .i64 ((q : Int) + 1))).run Tryz.prog w0 = .ok (.slice (some ⟨w0.heap.size, 0, none⟩) (q + 1) (q + 1)) (w0.alloc (zobj (q + 1))) := make64 w0 _ (q + 1) (by omega) (by omega)
  have hz := DB.zeros w0 (q + 1)
  have hcell := hz.cell q (by simp)
  have hfz := hz.frozen q
  rw [List.getElem_replicate] at hcell
  have hset := hz.set q (by simp) (2 ^ s)
  have hbs : 2 ^ s < Bs := by rw [Bs_pow]; exact Nat.pow_lt_pow_right (by omega) hs64
  have HP := fun w h => packQ w0.heap.size (q + 1) (q + 1) (2 ^ n) ((List.replicate (q + 1) 0).set q (2 ^ s)) [] (by simp) ((Dig.zeros _).set q hbs) (by rw [p2_val, hns]) (by omega) (Nat.le_refl _) w h
  rw [List.append_nil] at HP
  replace HP := Lib.hid HP
  have hb1 : Below w.heap.size w (w0.alloc (zobj (q + 1))) := hbw.alloc (Nat.le_of_lt hsz) _
  have hA1 := hA.below ((Below.refl w0.heap.size w0).alloc (Nat.le_refl _) (zobj (q + 1))) hsz
  have hb2 : Below w.heap.size w ((w0.alloc (zobj (q + 1))).setCell ⟨w0.heap.size, q, none⟩ (.int .u64 ((2 ^ s : Nat) : Int))) := hb1.setCell (Nat.le_of_lt hsz) _
  have hA2 : Bx ((w0.alloc (zobj (q + 1))).setCell ⟨w0.heap.size, q, none⟩ (.int .u64 ((2 ^ s : Nat) : Int))) w.heap.size (.int .u64 0) (.string ⟨#[]⟩) :=
    hA.below (((Below.refl w0.heap.size w0).alloc (Nat.le_refl _) (zobj (q + 1))).setCell (Nat.le_refl _) _) hsz
  generalize 2 ^ s = P at *
  generalize hW1 : w0.alloc (zobj (q + 1)) = W1 at *
  generalize hW2 : W1.setCell ⟨w0.heap.size, q, none⟩ (.int .u64 (P : Int)) = W2 at *
  clear hq hs hns hs64 hz hbs
  go_enter Tryz.func112, Tryz.ntmps112
  go_wp2_with fail
  refine (HP.out _ hset).mono ?_
  rintro e w3 ⟨rfl, hb3⟩
  have hs2 : w.heap.size < W2.heap.size := by
    have := hset.lt; omega
  obtain ⟨c0, c1, cf⟩ := hA2.below hb3 hs2
  have hB3 := hb2.trans (hb3.mono (Nat.le_of_lt hs2))
  go_wp2_with fail
  exact bodyPost_ret (v := natV (2 ^ n)) (by simp [results, Tryz.results112, go_sem, c0, c1]) rfl ⟨rfl, (hB3.setCell (by simp) _).setCell (by simp) _⟩

theorem digs_add_le {a b k : Nat} (ha : (digs a).length ≤ k) (hb : (digs b).length ≤ k) : (digs (a + b)).length ≤ k + 1 := by
  have h1 := digs_length_iff.1 ha
  have h2 := digs_length_iff.1 hb
  refine digs_length_iff.2 ?_
  rw [Nat.pow_succ]
  have h3 : Bs ^ k * 2 ≤ Bs ^ k * Bs := Nat.mul_le_mul_left _ Bs_gt
  omega
theorem shiftR (g c n a : Nat) (C : List Nat) (hn : n < 64) (hl : (digs a).length ≤ 1000000000000) (w : World) (hdb : DB w g (digs a ++ C)) :
    Calls Tryz.prog 133 #[.slice (some ⟨g, 0, none⟩) (digs a).length c, .int .i64 (n : Int)] w fun e w' =>
      e = .returned (.tuple #[]) ∧ ∃ O : List Nat, (O.length = (digs a).length ∧ Dig O ∧ val O = a / 2 ^ n) ∧ DB w' g (O ++ C) ∧ w.grownBy w' (some g) := by
  have := shiftRight_any g c n (digs a) C (digs_dig a) hn (by omega) w hdb
  rw [val_digs] at this
  exact this

set_option maxHeartbeats 2000000 in
set_option maxRecDepth 100000 in
theorem half_any (r a : Nat) (hr : 0 < r) (hlr : (digs r).length ≤ 500000000000) (hla : (digs a).length ≤ 500000000000) (w : World) :
    Calls Tryz.prog 113 #[natV r, natV a] w fun e w' => e = .returned (natV ((r + a / r) / 2)) ∧ Below w.heap.size w w' := by
  obtain ⟨w0, hw0, hA, hB, hC, hbw, hsz⟩ := boxes3 w (.int .u64 ((lo r : Nat) : Int)) (.string (hs r)) (.int .u64 ((lo a : Nat) : Int)) (.string (hs a)) (.int .u64 0) (.string ⟨#[]⟩) 32
  have H0 : B3 w0 w.heap.size r a := ⟨hA, hB, hC, hsz⟩
  have HD := Lib.hid (fun w => div_pos a r hr (by omega) w)
  have hlq : (digs (a / r)).length ≤ 500000000000 := Nat.le_trans (digs_mono (Nat.div_le_self a r)) hla
  have HA := fun w => add_any r (a / r) (by omega) (by omega) w
  have hls : (digs (r + a / r)).length ≤ 1000000000000 := Nat.le_trans (digs_add_le hlr hlq) (by omega)
  generalize r + a / r = s at *
  generalize hmm : s / 2 = m at *
  replace hmm := Lib.hid hmm
  replace HA := Lib.hid HA
  have HDg := Lib.hid (fun w => digits_any s (by omega) w)
  clear hA hB hC hsz
  obtain ⟨⟨a0, a1, af⟩, ⟨b0, b1, bf⟩, -⟩ := id H0
  go_enter Tryz.func113, Tryz.ntmps113
  go_wp2_with fail
  refine (HD.out _).mono ?_
  rintro e w1 ⟨rfl, hb1⟩
  have H1 := H0.below hb1
  have hB1 := H0.step hbw hb1
  obtain ⟨w2, hw2, hQ, hR, hb2, hsz2⟩ := boxes2 w1 (.int .u64 ((lo (a / r) : Nat) : Int)) (.string (hs (a / r))) (.int .u64 ((lo (a % r) : Nat) : Int)) (.string (hs (a % r))) 32
  have H2 := H1.below hb2
  have hB2 := H1.step hB1 hb2
  clear a0 a1 af b0 b1 bf hb1 hb2 H0 H1 hB1 hbw hw0 HD
  obtain ⟨⟨a0, a1, af⟩, ⟨b0, b1, bf⟩, -⟩ := id H2
  obtain ⟨q0, q1, qf⟩ := hQ
  go_wp2_with fail
  refine (HA.out _).mono ?_
  rintro e w3 ⟨rfl, hb3⟩
  have H3 := H2.below hb3
  have hB3 := H2.step hB2 hb3
  clear a0 a1 af b0 b1 bf q0 q1 qf hw2 hR hb3 H2 hB2 HA
  go_wp2_with fail
  refine (HDg.out _).mono ?_
  rintro e w4 ⟨g, c, z, rfl, hc, hg, hd, hb4⟩
  have H4 := H3.below hb4
  have hB4 := H3.step hB3 hb4
  have hgk : w.heap.size + 3 ≤ g := Nat.le_trans H3.sz hg
  have HSh := shiftR g c 1 s (List.replicate z 0) (by omega) (by omega) w4 hd
  rw [Nat.pow_one] at HSh
  have HP := fun Q h1 h2 h3 => packQ g c (digs s).length m Q (List.replicate z 0) h1 h2 h3 hls hc
  rw [hmm.out] at HSh
  replace HSh := Lib.hid HSh
  replace HP := Lib.hid HP
  clear hb4 H3 hB3 HDg hd
  go_wp2_with fail
  refine (HSh.out).mono ?_
  rintro e w5 ⟨rfl, O, ⟨o1, o2, o3⟩, hd5, hg5⟩
  have hb5 := grown_below hg5 hgk H4.sz
  have hC5 := H4.C.below hb5 (by omega)
  have hB5 := hB4.trans (hb5.mono (by omega))
  have hs5 : w.heap.size + 3 ≤ w5.heap.size := Nat.le_trans H4.sz hb5.size
  clear hb5 hg5 H4 hB4 HSh
  go_wp2_with fail
  refine (HP.out O o1 o2 o3 _ hd5).mono ?_
  rintro e w6 ⟨rfl, hb6⟩
  obtain ⟨c0, c1, cf⟩ := hC5.below hb6 (by omega)
  have hB6 := hB5.trans (hb6.mono (by omega))
  go_wp2_with fail
  exact bodyPost_ret (v := natV m) (by simp [results, Tryz.results113, go_sem, c0, c1]) rfl ⟨rfl, (hB6.setCell (by simp <;> omega) _).setCell (by simp <;> omega) _⟩
end Go.Proofs.YthehcjfmokabfaaGreatDoor

/-
  Layer 1, walks U: Sqrt, Pow.
-/
namespace Go.Proofs.YthehcjfmokabfaaGreatDoor
open Go.RowKit
attribute [local irreducible] lo hs sm s64 c64 d64 b64 mh ml pd pc qd qc val hiB str cmpI srD lz nb isq

/-- The number that a struct in memory holds. -/
def rdn (w : World) (k : Nat) : Nat := match w.cell? ⟨k, 0, none⟩, w.cell? ⟨k, 1, none⟩ with
  | some (.int _ l), some (.string h) => l.toNat + Bs * bval h.toList
  | _, _ => 0
theorem rdn_eq {w : World} {k r : Nat} (h : Bx w k (.int .u64 ((lo r : Nat) : Int)) (.string (hs r))) : rdn w k = r := by
  obtain ⟨h0, h1, -⟩ := h
  unfold rdn
  rw [h0, h1]
  simp only
  rw [hs_toList, bval_hiB, Int.toNat_natCast]
  unfold lo
  exact Nat.mod_add_div r Bs

theorem eq_zero {b : Nat} (hb : 0 < b) : ((((lo b : Nat) : Int) == ((lo 0 : Nat) : Int)) = false) ∨ ((((lo b : Nat) : Int) == ((lo 0 : Nat) : Int)) = true ∧ ((hs b).toList == (hs 0).toList) = false) := by
  by_cases h : lo b = lo 0
  · right
    refine ⟨by rw [h]; simp, ?_⟩
    rw [hs_eq, decide_eq_false]
    intro h2
    have h3 : b % Bs = 0 % Bs := by have h4 := h; unfold lo at h4; exact h4
    have := Nat.div_add_mod b Bs
    rw [h2, h3] at this
    simp at this; omega
  · left
    rw [beq_eq_false_iff_ne]; omega
theorem nb_pow_len {n k : Nat} (hk : n ≤ 64 * k) : (digs (2 ^ n)).length ≤ k + 1 := by
  refine digs_length_iff.2 ?_
  rw [Bs_pow, ← Nat.pow_mul]
  exact Nat.pow_lt_pow_right (by omega) (by omega)
theorem nb_len {a k : Nat} (h : (digs a).length ≤ k) : nb a ≤ 64 * k := by
  by_cases h0 : a = 0
  · subst h0; rw [nb_zero]; omega
  · obtain ⟨j, e, h1, h2⟩ := nb_spec h0
    rw [e]
    have h3 := digs_length_iff.1 h
    rw [Bs_pow, ← Nat.pow_mul] at h3
    have := (Nat.pow_lt_pow_iff_right (show 1 < 2 by omega)).1 (Nat.lt_of_le_of_lt h1 h3)
    omega

theorem put2 {w : World} {k : Nat} {x y : Value} (hA : Bx w k x y) (x' y' : Value) : Bx ((w.setCell ⟨k, 0, none⟩ x').setCell ⟨k, 1, none⟩ y') k x' y' := by
  obtain ⟨a0, a1, af⟩ := hA
  refine ⟨?_, ?_, fun j => ?_⟩ <;> simp [go_sem, a0, a1, af]
/-- Sqrt's two boxes. -/
structure B2 (w : World) (k : Nat) (a : Nat) : Prop where
  A : Bx w k (.int .u64 ((lo a : Nat) : Int)) (.string (hs a))
  C : Bx w (k + 1) (.int .u64 0) (.string ⟨#[]⟩)
  sz : k + 2 ≤ w.heap.size
theorem B2.below {w w' : World} {k a : Nat} (h : B2 w k a) (hb : Below w.heap.size w w') : B2 w' k a :=
  ⟨h.A.below hb (by have := h.sz; omega), h.C.below hb (by have := h.sz; omega), Nat.le_trans h.sz hb.size⟩
theorem B2.belowN {w w' : World} {k a : Nat} (h : B2 w k a) (hb : Below (k + 2) w w') : B2 w' k a :=
  ⟨h.A.below hb (by omega), h.C.below hb (by omega), Nat.le_trans h.sz hb.size⟩
theorem B2.step {w0 w1 w2 : World} {k a : Nat} (h0 : Below k w0 w1) (h : B2 w1 k a) (hb : Below w1.heap.size w1 w2) : Below k w0 w2 := h0.trans (hb.mono (by have := h.sz; omega))

set_option maxHeartbeats 2000000 in
set_option maxRecDepth 100000 in
theorem sqrt_zero (w : World) : Calls Tryz.prog 64 #[natV 0] w fun e w' => e = .returned (natV (isq 0)) ∧ Below w.heap.size w w' := by
  rw [show isq 0 = 0 from by unfold isq; rfl]
  obtain ⟨w0, hw0, hA, hB, hbw, hsz⟩ := boxes2 w (.int .u64 ((lo 0 : Nat) : Int)) (.string (hs 0)) (.int .u64 0) (.string ⟨#[]⟩) 32
  have H0 : B2 w0 w.heap.size 0 := ⟨hA, hB, hsz⟩
  obtain ⟨a0, a1, af⟩ := id hA
  go_enter Tryz.func64, Tryz.ntmps64
  go_wp2_with fail
  go_region_held3 (fun w' => w'.cell? ⟨w.heap.size, 0, none⟩ = some (.int .u64 ((lo 0 : Nat) : Int)) ∧ w'.cell? ⟨w.heap.size, 1, none⟩ = some (.string (hs 0)))
    (first | exact ⟨a0, a1⟩ | exact ⟨a0', a1'⟩)
    (first
      | (go_at_call 65; ((with_reducible refine Calls.mono (of_zero _) ?_); rintro e w1 ⟨rfl, hb1⟩; obtain ⟨a0', a1', af'⟩ := hA.below ((Below.refl w0.heap.size w0).drew.trans hb1) (by omega))))
  obtain ⟨c0, c1, cf⟩ := hB.below ((Below.refl w0.heap.size w0).drew.trans hb1) (by omega)
  have hB1 := hbw.trans (((Below.refl w0.heap.size w0).drew.trans hb1).mono (by omega))
  go_wp2_with fail
  exact bodyPost_ret (v := natV 0) (by simp [results, Tryz.results64, go_sem, c0, c1]) rfl ⟨rfl, (hB1.setCell (by simp <;> omega) _).setCell (by simp <;> omega) _⟩

set_option maxHeartbeats 2000000 in
set_option maxRecDepth 100000 in
theorem sqrt_pos (a : Nat) (ha : 0 < a) (hla : (digs a).length ≤ 1000000000) (w : World) :
    Calls Tryz.prog 64 #[natV a] w fun e w' => e = .returned (natV (isq a)) ∧ Below w.heap.size w w' := by
  have heq := eq_zero ha
  obtain ⟨w0, hw0, hA, hB, hbw, hsz⟩ := boxes2 w (.int .u64 ((lo a : Nat) : Int)) (.string (hs a)) (.int .u64 0) (.string ⟨#[]⟩) 32
  have H0 : B2 w0 w.heap.size a := ⟨hA, hB, hsz⟩
  have HBt := Lib.hid (fun w => bits_any a (by omega) w)
  have hnbl := nb_len hla
  obtain ⟨m, hm⟩ : ∃ m, m = (nb a + 1) / 2 := ⟨_, rfl⟩
  have HP := Lib.hid (fun w => powerOfTwo_any m (by omega) w)
  have hdiv : ((nb a : Nat) : Int) + 1 = ((nb a + 1 : Nat) : Int) := rfl
  have hmI : (((nb a : Nat) : Int) + 1) / 2 = (m : Int) := by omega
  have hnb : (nb a : Int) ≤ 64000000000 := by omega
  have hr0 : isq a ≤ 2 ^ m := by rw [hm]; exact isq_pow (nb_lt a)
  have hrl : (digs (2 ^ m)).length ≤ 1000000001 := nb_pow_len (by omega)
  have hrp : 0 < 2 ^ m := Nat.pow_pos (by omega)
  generalize hRR : 2 ^ m = R at *
  generalize nb a = n at *
  clear hRR hdiv hnbl hm
  replace hr0 := Lib.hid hr0
  replace hrl := Lib.hid hrl
  replace hrp := Lib.hid hrp
  go_enter Tryz.func64, Tryz.ntmps64
  go_wp2_with fail
  obtain ⟨a0, a1, af⟩ := id hA
  rcases heq with he1 | ⟨he1, he2⟩ <;> (
    go_region_held3 (fun w' => w'.cell? ⟨w.heap.size, 0, none⟩ = some (.int .u64 ((lo a : Nat) : Int)) ∧ w'.cell? ⟨w.heap.size, 1, none⟩ = some (.string (hs a)))
      (first | exact ⟨a0, a1⟩ | exact ⟨a0', a1'⟩)
      (first
        | (go_at_call 65; ((with_reducible refine Calls.mono (of_zero _) ?_); rintro e w1 ⟨rfl, hb1⟩; obtain ⟨a0', a1', af'⟩ := hA.below ((Below.refl w0.heap.size w0).drew.trans hb1) (by omega))))
    have hb01 := (Below.refl w0.heap.size w0).drew.trans hb1
    have H1 := H0.below hb01
    have hB1 := H0.step hbw hb01
    clear a0' a1' af' a0 a1 af hA hB hb01 hb1 H0 hbw hsz hw0
    obtain ⟨⟨a0, a1, af⟩, -⟩ := id H1
    go_wp2_with fail
    refine (HBt.out _).mono ?_
    rintro e w2 ⟨rfl, hb2⟩
    have H2 := H1.below hb2
    have hB2 := H1.step hB1 hb2
    clear a0 a1 af hb2 H1 hB1 HBt
    go_wp2_with fail
    refine (HP.out _).mono ?_
    rintro e w3 ⟨rfl, hb3⟩
    have H3 := H2.below hb3
    have hB3 := H2.step hB2 hb3
    obtain ⟨w4, hw4, hR, hb4, hsz4⟩ := boxes1 w3 (.int .u64 ((lo R : Nat) : Int)) (.string (hs R)) 32
    have H4 := H3.below hb4
    have hB4 := H3.step hB3 hb4
    have hK : w.heap.size + 2 ≤ w3.heap.size := H3.sz
    obtain ⟨k, hk⟩ : ∃ k, k = w3.heap.size := ⟨_, rfl⟩
    clear hb3 H2 hB2 HP hb4
    go_wp2_with fail
    go_loopw [4] (fun _ wr => ∃ r : Nat, isq a ≤ r ∧ 0 < r ∧ (digs r).length ≤ 1000000001 ∧ Bx wr w3.heap.size (.int .u64 ((lo r : Nat) : Int)) (.string (hs r)) ∧ w3.heap.size < wr.heap.size ∧ B2 wr w.heap.size a ∧ Below w.heap.size w wr) (fun _ wr => rdn wr w3.heap.size)
    case atStart => exact ⟨R, hr0.out, hrp.out, hrl.out, hR, hsz4, H4, hB4⟩
    case round =>
      obtain ⟨r, hr1, hr2, hr3, hR, hsz5, H5, hB5⟩ := hrel
      have hmv := rdn_eq hR
      have HH := Lib.hid (fun w => half_any r a hr2 (by omega) (by omega) w)
      obtain ⟨⟨a0, a1, af⟩, -⟩ := id H5
      obtain ⟨r0, r1, rf⟩ := id hR
      clear hw4 H4 hB4 H3 hB3 hsz4
      go_wp2_with fail
      refine (HH.out _).mono ?_
      rintro e w5 ⟨rfl, hb5⟩
      have hx1 := newton_ge a r hr2
      have hx2 : ¬ r ≤ (r + a / r) / 2 → (r + a / r) / 2 < r := fun h => by omega
      have hx3 : isq a < r → (r + a / r) / 2 < r := newton_lt a r
      generalize (r + a / r) / 2 = x at *
      have H5' := H5.below hb5
      have hB5' := H5.step hB5 hb5
      have hR5 := hR.below hb5 hsz5
      have hs55 : w3.heap.size < w5.heap.size := Nat.lt_of_lt_of_le hsz5 hb5.size
      obtain ⟨w6, hw6, hX, hb6, hsz6⟩ := boxes1 w5 (.int .u64 ((lo x : Nat) : Int)) (.string (hs x)) 32
      have H6 := H5'.below hb6
      have hB6 := H5'.step hB5' hb6
      have hR6 := hR5.below hb6 hs55
      have HC := Lib.hid (fun w => cmp_any x r w)
      clear a0 a1 af r0 r1 rf hb5 H5 hB5 hsz5 H5' hB5' hR5 HH hb6 hR
      obtain ⟨r0, r1, rf⟩ := id hR6
      obtain ⟨x0, x1, xf⟩ := id hX
      go_wp2_with fail
      refine (HC.out _).mono ?_
      rintro e w7 ⟨rfl, hb7⟩
      have H7 := H6.below hb7
      have hB7 := H6.step hB6 hb7
      have hR7 := hR6.below hb7 (by omega)
      have hX7 := hX.below hb7 hsz6
      have hs7 : w5.heap.size < w7.heap.size := Nat.lt_of_lt_of_le hsz6 hb7.size
      clear r0 r1 rf x0 x1 xf hw6 H6 hB6 hR6 hX hb7 HC
      obtain ⟨r0, r1, rf⟩ := id hR7
      obtain ⟨x0, x1, xf⟩ := id hX7
      obtain ⟨-, ⟨c0, c1, cf⟩, -⟩ := id H7
      rcases Nat.lt_or_ge x r with hxr | hxr
      · have hcm : cmpI x r < 0 := by rw [cmpI_lt hxr]; decide
        have hcm0 : decide (0 ≤ cmpI x r) = false := decide_eq_false (by omega)
        have hq0 : 0 < isq a := by
          have := (isq_spec a).2
          rcases Nat.eq_zero_or_pos (isq a) with h | h
          · rw [h] at this; omega
          · exact h
        have HL : Hid ((digs x).length ≤ 1000000001) := Lib.hid (Nat.le_trans (digs_mono (Nat.le_of_lt hxr)) hr3)
        have hR8 := put2 hR7 (.int .u64 ((lo x : Nat) : Int)) (.string (hs x))
        have hb8 : Below (w.heap.size + 2) w7 ((w7.setCell ⟨w3.heap.size, 0, none⟩ (.int .u64 ((lo x : Nat) : Int))).setCell ⟨w3.heap.size, 1, none⟩ (.string (hs x))) := ((Below.refl _ _).setCell hK _).setCell hK _
        have H8 := Lib.hid (H7.belowN hb8)
        have hB8 := Lib.hid (hB7.trans (hb8.mono (by omega)))
        have hmx := Lib.hid (rdn_eq hR8)
        have hs8 : Hid (w3.heap.size < ((w7.setCell ⟨w3.heap.size, 0, none⟩ (.int .u64 ((lo x : Nat) : Int))).setCell ⟨w3.heap.size, 1, none⟩ (.string (hs x))).heap.size) := Lib.hid (by simp; omega)
        replace hR8 := Lib.hid hR8
        clear hb8
        go_wp2_with fail
        go_roundw
        case rel => exact ⟨x, hx1, by omega, HL.out, hR8.out, hs8.out, H8.out, hB8.out⟩
        case measure => rw [hmv, hmx.out]; exact hxr
      · have hcm : ¬ cmpI x r < 0 := of_decide_eq_false (cmpI_ge hxr)
        have hcm0 : decide (0 ≤ cmpI x r) = true := decide_eq_true (by omega)
        have hra : isq a = r := by
          rcases Nat.lt_or_eq_of_le hr1 with h | h
          · have := hx3 h; omega
          · exact h
        go_wp2_with fail
        exact bodyPost_ret (v := natV r) (by simp [results, Tryz.results64, go_sem, c0, c1]) rfl ⟨by rw [hra], (hB7.setCell (by simp <;> omega) _).setCell (by simp <;> omega) _⟩)
end Go.Proofs.YthehcjfmokabfaaGreatDoor

/-
  Layer 1, walks V: Pow.
-/
namespace Go.Proofs.YthehcjfmokabfaaGreatDoor
open Go.RowKit
attribute [local irreducible] lo hs sm s64 c64 d64 b64 mh ml pd pc qd qc val hiB str cmpI srD lz nb isq

set_option maxHeartbeats 2000000 in
set_option maxRecDepth 100000 in
theorem pow_neg (a : Nat) (n : Int) (h : n < 0) (w : World) :
    Calls Tryz.prog 67 #[natV a, .int .i64 n] w fun e w' => e = .returned (.tuple #[natV 0, .int .i64 1]) ∧ Below w.heap.size w w' := by
  obtain ⟨w0, hw0, hA, hB, hbw, hsz⟩ := boxes2 w (.int .u64 ((lo a : Nat) : Int)) (.string (hs a)) (.int .u64 0) (.string ⟨#[]⟩) 32
  obtain ⟨c0, c1, cf⟩ := id hB
  have h1 : decide (n < 0) = true := decide_eq_true h
  go_enter Tryz.func67, Tryz.ntmps67
  go_wp2_with fail
  exact bodyPost_ret (v := .tuple #[natV 0, .int .i64 1]) (by rw [natV_zero]; simp [results, Tryz.results67, go_sem, c0, c1]) rfl ⟨rfl, (hbw.setCell (by simp <;> omega) _).setCell (by simp <;> omega) _⟩
set_option maxHeartbeats 2000000 in
set_option maxRecDepth 100000 in
theorem pow_great (a n : Nat) (h : 4096 < n) (hn : n < 9223372036854775808) (w : World) :
    Calls Tryz.prog 67 #[natV a, .int .i64 (n : Int)] w fun e w' => e = .returned (.tuple #[natV 0, .int .i64 3]) ∧ Below w.heap.size w w' := by
  obtain ⟨w0, hw0, hA, hB, hbw, hsz⟩ := boxes2 w (.int .u64 ((lo a : Nat) : Int)) (.string (hs a)) (.int .u64 0) (.string ⟨#[]⟩) 32
  obtain ⟨c0, c1, cf⟩ := id hB
  have h1 : decide (4096 < n) = true := decide_eq_true h
  have h2 : decide ((4096 : Int) < (n : Int)) = true := decide_eq_true (by omega)
  have h3 : decide (n ≤ 4096) = false := decide_eq_false (by omega)
  obtain ⟨a0, a1, af⟩ := id hA
  have h4 : ¬ n = 0 := by omega
  clear hn
  go_enter Tryz.func67, Tryz.ntmps67
  go_wp2_with fail
  go_quiet (fail)
  go_wp2_with fail
  exact bodyPost_ret (v := .tuple #[natV 0, .int .i64 3]) (by rw [natV_zero]; simp [results, Tryz.results67, go_sem, c0, c1]) rfl ⟨rfl, ((bdrew hbw nq).setCell (by simp <;> omega) _).setCell (by simp <;> omega) _⟩

/-- What Pow's second test asks. -/
def great (a n : Nat) : Bool := decide (4096 < n) || (decide (0 < n) && decide (262144 / n < nb a))
set_option maxHeartbeats 2000000 in
set_option maxRecDepth 100000 in
theorem pow_over (a n : Nat) (h0 : 0 < n) (h : n ≤ 4096) (hg : 262144 / n < nb a) (hla : (digs a).length ≤ 1000000000) (w : World) :
    Calls Tryz.prog 67 #[natV a, .int .i64 (n : Int)] w fun e w' => e = .returned (.tuple #[natV 0, .int .i64 3]) ∧ Below w.heap.size w w' := by
  obtain ⟨w0, hw0, hA, hB, hbw, hsz⟩ := boxes2 w (.int .u64 ((lo a : Nat) : Int)) (.string (hs a)) (.int .u64 0) (.string ⟨#[]⟩) 32
  obtain ⟨a0, a1, af⟩ := id hA
  obtain ⟨q, hq⟩ : ∃ q, q = 262144 / n := ⟨_, rfl⟩
  have hqb : q ≤ 262144 := by rw [hq]; exact Nat.div_le_self _ _
  have htd : (262144 : Int).tdiv (n : Int) = (q : Int) := by
    rw [Int.tdiv_eq_ediv_of_nonneg (by omega), hq]; rfl
  have hed : (262144 : Int) / (n : Int) = (q : Int) := by rw [hq]; rfl
  have hnb := nb_len hla
  have HBt := Lib.hid (fun w => bits_any a (by omega) w)
  rw [← hq] at hg
  generalize nb a = B at *
  have h1 : decide ((4096 : Int) < (n : Int)) = false := decide_eq_false (by omega)
  have h2 : decide (4096 < n) = false := decide_eq_false (by omega)
  have h3 : decide ((0 : Int) < (n : Int)) = true := decide_eq_true (by omega)
  have h4 : ¬ n = 0 := by omega
  have h5 : decide (q < B) = true := decide_eq_true hg
  have h6 : decide ((q : Int) < (B : Int)) = true := decide_eq_true (by omega)
  have hwq : IntKind.i64.wrap (q : Int) = (q : Int) := IntWalk.i64_in _ (by omega)
  clear hq hnb hla hg
  go_enter Tryz.func67, Tryz.ntmps67
  go_wp2_with fail
  go_region_held3 (fun w' => w'.cell? ⟨w.heap.size, 0, none⟩ = some (.int .u64 ((lo a : Nat) : Int)) ∧ w'.cell? ⟨w.heap.size, 1, none⟩ = some (.string (hs a)))
    (first | exact ⟨a0, a1⟩ | exact ⟨a0', a1'⟩)
    (first
      | (go_at_call 66; ((with_reducible refine Calls.mono (HBt.out _) ?_); rintro e w1 ⟨rfl, hb1⟩; obtain ⟨a0', a1', af'⟩ := hA.below ((Below.refl w0.heap.size w0).drew.trans hb1) (by omega))))
  have hb01 := (Below.refl w0.heap.size w0).drew.trans hb1
  obtain ⟨c0, c1, cf⟩ := hB.below hb01 (by omega)
  have hB1 := hbw.trans (hb01.mono (by omega))
  go_wp2_with fail
  exact bodyPost_ret (v := .tuple #[natV 0, .int .i64 3]) (by rw [natV_zero]; simp [results, Tryz.results67, go_sem, c0, c1]) rfl ⟨rfl, (hB1.setCell (by simp <;> omega) _).setCell (by simp <;> omega) _⟩

theorem pow_len {a n k : Nat} (hk : k ≤ n) (hg : n = 0 ∨ nb a ≤ 262144 / n) : (digs (a ^ k)).length ≤ 4097 := by
  obtain ⟨N, hN⟩ : ∃ N, N = 4097 := ⟨_, rfl⟩
  rw [← hN]
  refine digs_length_iff.2 ?_
  rcases hg with h | h
  · have : k = 0 := by omega
    rw [this, Nat.pow_zero]
    exact Nat.one_lt_pow (by omega) Bs_gt
  · have h1 : k * nb a ≤ 262144 := Nat.le_trans (Nat.mul_le_mul hk h) (Nat.mul_div_le 262144 n)
    have h2 : a ^ k ≤ 2 ^ (k * nb a) := by
      rw [Nat.mul_comm, Nat.pow_mul]; exact Nat.pow_le_pow_left (Nat.le_of_lt (nb_lt a)) k
    refine Nat.lt_of_le_of_lt h2 ?_
    rw [Bs_pow, ← Nat.pow_mul]
    exact Nat.pow_lt_pow_right (by omega) (by omega)

theorem digs_mul_le {a b k m : Nat} (ha : (digs a).length ≤ k) (hb : (digs b).length ≤ m) : (digs (a * b)).length ≤ k + m := by
  have h1 := digs_length_iff.1 ha
  have h2 := digs_length_iff.1 hb
  refine digs_length_iff.2 ?_
  rw [Nat.pow_add]
  exact Nat.mul_lt_mul'' h1 h2

theorem i64_and1 (n : Int) : bits .and .i64 n 1 = n % 2 := by
  have h127 : (BitVec.ofInt 64 1).toNat = 2 ^ 1 - 1 := by decide
  have key : (BitVec.ofInt 64 n &&& BitVec.ofInt 64 1).toNat = (n % ((2 ^ 64 : Nat) : Int)).toNat % 2 ^ 1 := by
    rw [BitVec.toNat_and, BitVec.toNat_ofInt, h127, Nat.and_two_pow_sub_one_eq_mod]
  show IntKind.i64.wrap ((BitVec.ofInt 64 n &&& BitVec.ofInt 64 1).toNat : Nat) = n % 2
  rw [key, IntKind.wrap_i64]
  omega

theorem pow_bit (n k : Nat) : bits .and .i64 ((n : Int) / 2 ^ k) 1 = ((n / 2 ^ k % 2 : Nat) : Int) := by
  rw [i64_and1]
  have h : ((n : Int) / 2 ^ k) = ((n / 2 ^ k : Nat) : Int) := by
    rw [Int.natCast_ediv, Int.natCast_pow]; rfl
  rw [h]
  generalize n / 2 ^ k = x
  omega

theorem pow_half (a n k : Nat) : a ^ (n / 2 ^ k) = a ^ (n / 2 ^ (k + 1)) * a ^ (n / 2 ^ (k + 1)) * a ^ (n / 2 ^ k % 2) := by
  rw [← Nat.pow_add, ← Nat.pow_add, Nat.pow_succ, ← Nat.div_div_eq_div_mul]
  congr 1
  generalize n / 2 ^ k = x
  omega

set_option maxHeartbeats 2000000 in
set_option maxRecDepth 100000 in
theorem pow_ok (a n : Nat) (h : n ≤ 4096) (hg : n = 0 ∨ nb a ≤ 262144 / n) (hla : (digs a).length ≤ 1000000000) (w : World) :
    Calls Tryz.prog 67 #[natV a, .int .i64 (n : Int)] w fun e w' => e = .returned (.tuple #[natV (a ^ n), .int .i64 0]) ∧ Below w.heap.size w w' := by
  obtain ⟨w0, hw0, hA, hB, hbw, hsz⟩ := boxes2 w (.int .u64 ((lo a : Nat) : Int)) (.string (hs a)) (.int .u64 0) (.string ⟨#[]⟩) 32
  obtain ⟨a0, a1, af⟩ := id hA
  have H0 : B2 w0 w.heap.size a := ⟨hA, hB, hsz⟩
  have h1 : decide ((4096 : Int) < (n : Int)) = false := decide_eq_false (by omega)
  have h2 : decide (4096 < n) = false := decide_eq_false (by omega)
  go_enter Tryz.func67, Tryz.ntmps67
  go_upto_region 3 with fail
  go_cut [24] from 12 to 24 (fun z wx => z = .bool false ∧ B2 wx w.heap.size a ∧ Below w.heap.size w wx)
  case first =>
    rcases Nat.eq_zero_or_pos n with h0 | h0
    · subst h0
      have h3 : decide ((0 : Int) < ((0 : Nat) : Int)) = false := rfl
      go_quiet (fail)
      go_wp2_with fail
      go_meet
      exact ⟨rfl, H0.below (bdrew (Below.refl _ _) nq), bdrew hbw nq⟩
    · have hq1 : nb a ≤ 262144 / n := by omega
      obtain ⟨q, hq⟩ : ∃ q, q = 262144 / n := ⟨_, rfl⟩
      have hqb : q ≤ 262144 := by rw [hq]; exact Nat.div_le_self _ _
      have htd : (262144 : Int).tdiv (n : Int) = (q : Int) := by
        rw [Int.tdiv_eq_ediv_of_nonneg (by omega), hq]; rfl
      have hed : (262144 : Int) / (n : Int) = (q : Int) := by rw [hq]; rfl
      have hnb := nb_len hla
      have HBt := Lib.hid (fun w => bits_any a (by omega) w)
      rw [← hq] at hq1
      have HG := Lib.hid hg
      clear hg
      generalize nb a = B at *
      have h3 : decide ((0 : Int) < (n : Int)) = true := decide_eq_true (by omega)
      have h4 : ¬ n = 0 := by omega
      have h5 : decide (q < B) = false := decide_eq_false (by omega)
      have h6 : decide ((q : Int) < (B : Int)) = false := decide_eq_false (by omega)
      have hwq : IntKind.i64.wrap (q : Int) = (q : Int) := IntWalk.i64_in _ (by omega)
      clear hq hnb hla
      go_region_held3 (fun w' => w'.cell? ⟨w.heap.size, 0, none⟩ = some (.int .u64 ((lo a : Nat) : Int)) ∧ w'.cell? ⟨w.heap.size, 1, none⟩ = some (.string (hs a)))
        (first | exact ⟨a0, a1⟩ | exact ⟨a0', a1'⟩)
        (first
          | (go_at_call 66; ((with_reducible refine Calls.mono (HBt.out _) ?_); rintro e w1 ⟨rfl, hb1⟩; obtain ⟨a0', a1', af'⟩ := hA.below ((Below.refl w0.heap.size w0).drew.trans hb1) (by omega))))
      have hb01 := (Below.refl w0.heap.size w0).drew.trans hb1
      go_wp2_with fail
      go_meet
      exact ⟨rfl, H0.below hb01, hbw.trans (hb01.mono (by omega))⟩
  case rest =>
    obtain ⟨rfl, H1, hB1⟩ := hcut
    have HO := Lib.hid (fun w => of_any 1 Bs_gt w)
    have HLn := Lib.hid (fun w => lenU n (by unfold Bs; omega) w)
    have hlen := nb_lt n
    have hlb : nb n ≤ 64 := nb_le64 (by unfold Bs; omega)
    have hwn : IntKind.u64.wrap (n : Int) = (n : Int) := wrapN _ (by omega)
    have HG := Lib.hid hg
    obtain ⟨L, hL⟩ : ∃ L, L = nb n := ⟨_, rfl⟩
    rw [← hL] at HLn hlen hlb
    have hlen := Lib.hid hlen
    clear hg hA hB hbw hsz a0 a1 af H0 hw0 hL
    go_wp2_with fail
    refine (HO.out _).mono ?_
    rintro e w2 ⟨rfl, hb2⟩
    have H2 := H1.below hb2
    have hB2 := H1.step hB1 hb2
    obtain ⟨w3, hw3, hP, hb3, hsz3⟩ := boxes1 w2 (.int .u64 ((lo 1 : Nat) : Int)) (.string (hs 1)) 32
    have H3 := H2.below hb3
    have hB3 := H2.step hB2 hb3
    have hK : w.heap.size + 2 ≤ w2.heap.size := H2.sz
    clear hb2 H1 hB1 HO hb3 H2 hB2
    go_wp2_with fail
    refine (HLn.out _).mono ?_
    rintro e w4 ⟨rfl, rfl⟩
    clear HLn
    go_wp2_with fail
    go_loopw [8, 31] (fun _ z wr => ∃ i : Nat, i ≤ L ∧ z = .int .i64 i ∧ Bx wr w2.heap.size (.int .u64 ((lo (a ^ (n / 2 ^ (L - i))) : Nat) : Int)) (.string (hs (a ^ (n / 2 ^ (L - i))))) ∧ w2.heap.size < wr.heap.size ∧ B2 wr w.heap.size a ∧ Below w.heap.size w wr) (fun _ z _ => L - (intOf z).toNat)
    case atStart => exact ⟨0, Nat.zero_le _, rfl, by rw [Nat.sub_zero, Nat.div_eq_of_lt hlen.out, Nat.pow_zero]; exact hP, hsz3, H3, hB3⟩
    case round =>
      obtain ⟨i, hi, rfl, hP, hs4, H4, hB4⟩ := hrel
      clear hw3 H3 hB3 hsz3
      obtain ⟨p, hp⟩ : ∃ p, p = a ^ (n / 2 ^ (L - i)) := ⟨_, rfl⟩
      rw [← hp] at hP
      rcases Nat.lt_or_eq_of_le hi with hiL | hiL
      · have hlp : (digs p).length ≤ 4097 := by rw [hp]; exact pow_len (Nat.div_le_self _ _) HG.out
        have HM := Lib.hid (fun w => mul_any p p (by omega) (by omega) w)
        obtain ⟨k, hk⟩ : ∃ k : Nat, L = k + 1 + i := ⟨L - 1 - i, by omega⟩
        obtain ⟨f, hf⟩ : ∃ f, f = n / 2 ^ k := ⟨_, rfl⟩
        obtain ⟨s, hs⟩ : ∃ s, s = p * p := ⟨_, rfl⟩
        rw [← hs] at HM
        have HS := Lib.hid hs
        have HF := Lib.hid hf
        have HP := Lib.hid hp
        clear hs hf hp
        obtain ⟨p0, p1, pf⟩ := id hP
        go_wp2_with fail
        refine (HM.out _).mono ?_
        rintro e w5 ⟨rfl, hb5⟩
        have H5 := H4.below hb5
        have hB5 := H4.step hB4 hb5
        obtain ⟨q0, q1, qf⟩ := hP.below hb5 hs4
        clear p0 p1 pf hP HM H4 hB4
        have hkk : (L : Int) - 1 - (i : Int) = (k : Int) := by omega
        have hkL : L - i = k + 1 := by omega
        have hkL' : L - (i + 1) = k := by omega
        have hR5 := (show Bx w5 w2.heap.size _ _ from ⟨q0, q1, qf⟩)
        have hs5 : w2.heap.size < w5.heap.size := Nat.lt_of_lt_of_le hs4 hb5.size
        obtain ⟨w6, hw6⟩ : ∃ w6, (w5.setCell ⟨w2.heap.size, 0, none⟩ (.int .u64 ((lo s : Nat) : Int))).setCell ⟨w2.heap.size, 1, none⟩ (.string (hs s)) = w6 := ⟨_, rfl⟩
        have hR6 : Bx w6 w2.heap.size (.int .u64 ((lo s : Nat) : Int)) (.string (hs s)) := by rw [← hw6]; exact put2 hR5 _ _
        have hb6 : Below (w.heap.size + 2) w5 w6 := by rw [← hw6]; exact ((Below.refl _ _).setCell hK _).setCell hK _
        have H6 := H5.belowN hb6
        have hB6 := hB5.trans (hb6.mono (by omega))
        have hs6 : w2.heap.size < w6.heap.size := Nat.lt_of_lt_of_le hs5 hb6.size
        have hbt := pow_bit n k
        have hph := pow_half a n k
        rw [hkL] at HP
        have HK := Lib.hid hk
        clear hk
        rw [← HP.out, ← HS.out] at hph
        clear H5 hB5 hR5 hs5 hb5 hb6
        have hbt2 : n / 2 ^ k % 2 = 0 ∨ n / 2 ^ k % 2 = 1 := by generalize n / 2 ^ k = x; omega
        have hlf := pow_len (a := a) (k := n / 2 ^ k) (Nat.div_le_self n _) HG.out
        rcases hbt2 with hz | hz
        · rw [hz] at hbt hph
          rw [Nat.pow_zero, Nat.mul_one] at hph
          have HH := Lib.hid hph
          have hbt' : bits BinOp.and IntKind.i64 ((n : Int) / 2 ^ k) 1 = 0 := hbt
          clear hph hz hlf hbt hkL
          go_wp2_with fail
          go_roundw
          case rel => exact ⟨i + 1, hiL, rfl, by rw [hkL', HH.out]; exact hR6, hs6, H6, hB6⟩
          case measure => simp [intOf]; omega
        · rw [hz] at hbt hph
          rw [Nat.pow_one] at hph
          have hbt' : bits BinOp.and IntKind.i64 ((n : Int) / 2 ^ k) 1 = 1 := hbt
          have hls : (digs s).length ≤ 8200 := by
            have h1 := digs_mul_le hlp hlp
            rw [← HS.out] at h1; omega
          have HM2 := Lib.hid (fun w => mul_any s a (by omega) (by omega) w)
          rw [← hph] at HM2
          obtain ⟨q, hq⟩ : ∃ q, q = a ^ (n / 2 ^ k) := ⟨_, rfl⟩
          rw [← hq] at HM2
          have HQ := Lib.hid hq
          clear hph hz hlf hbt hkL hq hls
          obtain ⟨r0, r1, rf⟩ := id hR6
          obtain ⟨⟨a0, a1, af⟩, -⟩ := id H6
          go_wp2_with fail
          refine (HM2.out _).mono ?_
          rintro e w7 ⟨rfl, hb7⟩
          have H7 := H6.below hb7
          have hB7 := H6.step hB6 hb7
          have hR7 := hR6.below hb7 hs6
          have hs7 : w2.heap.size < w7.heap.size := Nat.lt_of_lt_of_le hs6 hb7.size
          have hR8 := put2 hR7 (.int .u64 ((lo q : Nat) : Int)) (.string (hs q))
          have hb8 : Below (w.heap.size + 2) w7 ((w7.setCell ⟨w2.heap.size, 0, none⟩ (.int .u64 ((lo q : Nat) : Int))).setCell ⟨w2.heap.size, 1, none⟩ (.string (hs q))) := ((Below.refl _ _).setCell hK _).setCell hK _
          have H8 := Lib.hid (H7.belowN hb8)
          have hB8 := Lib.hid (hB7.trans (hb8.mono (by omega)))
          have hs8 := Lib.hid (Nat.lt_of_lt_of_le hs7 hb8.size)
          obtain ⟨r0', r1', rf'⟩ := id hR7
          replace hR8 := Lib.hid hR8
          clear r0 r1 rf a0 a1 af hb8 hb7 H6 hB6 hR6 hs6 HM2 hR7 H7 hB7 hs7 hw6
          go_wp2_with fail
          go_roundw
          case rel => exact ⟨i + 1, hiL, rfl, by rw [hkL', ← HQ.out]; exact hR8.out, hs8.out, H8.out, hB8.out⟩
          case measure => simp [intOf]; omega
      · have hpn : p = a ^ n := by rw [hp, hiL, Nat.sub_self, Nat.pow_zero, Nat.div_one]
        have HPN := Lib.hid hpn
        clear hp hpn
        obtain ⟨p0, p1, pf⟩ := id hP
        obtain ⟨-, ⟨c0, c1, cf⟩, -⟩ := id H4
        go_wp2_with fail
        exact bodyPost_ret (v := .tuple #[natV p, .int .i64 0]) (by simp [results, Tryz.results67, go_sem, c0, c1]) rfl ⟨by rw [HPN.out], (hB4.setCell (by simp <;> omega) _).setCell (by simp <;> omega) _⟩
end Go.Proofs.YthehcjfmokabfaaGreatDoor



/-
  Layer 1: decimal forms, as mathematics.
-/
namespace Go.Proofs.YthehcjfmokabfaaGreatDoor
open Go.Lib (decDigits nDigits)

theorem snoc_ind {α : Type} {p : List α → Prop} (l : List α) (nil : p []) (append_singleton : ∀ m c, p m → p (m ++ [c])) : p l := by
  have h : ∀ r : List α, p r.reverse := by
    intro r
    induction r with
    | nil => exact nil
    | cons c r ih => rw [List.reverse_cons]; exact append_singleton _ _ ih
  have := h l.reverse
  rwa [List.reverse_reverse] at this
theorem head_snoc {α : Type} {m : List α} (l : List α) (h : m ≠ []) : (m ++ l).head? = m.head? := by
  cases m with
  | nil => exact absurd rfl h
  | cons c m => rfl

/-- The byte of a decimal digit. -/
def dch (d : Nat) : UInt8 := UInt8.ofNat (48 + d)
theorem dch_toNat {d : Nat} (h : d < 10) : (dch d).toNat = 48 + d := by
  unfold dch; rw [UInt8.toNat_ofNat']; omega

theorem dec_small {u : Nat} (h : u < 10) : decDigits u = [dch u] := by rw [decDigits, dif_pos h]; rfl
theorem dec_big {u : Nat} (h : ¬ u < 10) : decDigits u = decDigits (u / 10) ++ [dch (u % 10)] := by rw [decDigits, dif_neg h]; rfl

/-- k decimal digits of r, with leading zeros. -/
def pad : Nat → Nat → List UInt8
  | 0, _ => []
  | k + 1, r => pad k (r / 10) ++ [dch (r % 10)]

theorem pad_length : ∀ k r, (pad k r).length = k
  | 0, _ => rfl
  | k + 1, r => by rw [pad, List.length_append, pad_length k]; rfl

theorem dec_mul_add : ∀ (k q r : Nat), 0 < q → r < 10 ^ k → decDigits (q * 10 ^ k + r) = decDigits q ++ pad k r
  | 0, q, r, _, hr => by
    rw [Nat.pow_zero] at hr
    rw [pad, List.append_nil, show r = 0 by omega, Nat.pow_zero, Nat.mul_one, Nat.add_zero]
  | k + 1, q, r, hq, hr => by
    rw [Nat.pow_succ] at hr ⊢
    have h1 : 1 ≤ 10 ^ k := Nat.one_le_pow _ _ (by omega)
    have h2 : q * (10 ^ k * 10) = (q * 10 ^ k) * 10 := by rw [Nat.mul_assoc]
    rw [h2]
    have h3 : 1 ≤ q * 10 ^ k := Nat.mul_pos hq h1
    have h4 := dec_mul_add k q (r / 10) hq (by omega)
    generalize q * 10 ^ k = x at *
    rw [dec_big (by omega), show (x * 10 + r) / 10 = x + r / 10 by omega, show (x * 10 + r) % 10 = r % 10 by omega, h4, pad, List.append_assoc]

theorem pad_zero : ∀ k, pad k 0 = List.replicate k 48
  | 0 => rfl
  | k + 1 => by
    rw [pad, show 0 / 10 = 0 from rfl, pad_zero k]
    show List.replicate k 48 ++ [48] = _
    rw [← List.replicate_succ']

theorem pad_eq : ∀ (k r : Nat), 0 < k → r < 10 ^ k → pad k r = List.replicate (k - (decDigits r).length) 48 ++ decDigits r ∧ (decDigits r).length ≤ k
  | k + 1, r, _, hr => by
    rcases Nat.lt_or_ge r 10 with h | h
    · rw [pad, show r / 10 = 0 by omega, show r % 10 = r by omega, pad_zero, dec_small h]
      exact ⟨rfl, by show 1 ≤ k + 1; omega⟩
    · have hk : 0 < k := by
        rcases Nat.eq_zero_or_pos k with rfl | h'
        · rw [Nat.pow_succ, Nat.pow_zero] at hr; omega
        · exact h'
      rw [Nat.pow_succ] at hr
      obtain ⟨h1, h2⟩ := pad_eq k (r / 10) hk (by omega)
      rw [pad, h1, dec_big (by omega : ¬ r < 10), List.length_append, List.append_assoc]
      refine ⟨?_, by show _ + 1 ≤ k + 1; omega⟩
      congr 2
      show _ = k + 1 - (_ + 1)
      omega

theorem dec_length_pos (n : Nat) : 0 < (decDigits n).length := by
  rcases Nat.lt_or_ge n 10 with h | h
  · rw [dec_small h]; exact Nat.one_pos
  · rw [dec_big (by omega), List.length_append]; exact Nat.lt_of_lt_of_le Nat.one_pos (Nat.le_add_left 1 _)
theorem dec_ne_nil (n : Nat) : decDigits n ≠ [] := fun h => by have := dec_length_pos n; rw [h] at this; exact absurd this (by simp)
theorem dec_length_lt {n k : Nat} (hk : 0 < k) : (decDigits n).length ≤ k ↔ n < 10 ^ k := by
  induction k generalizing n with
  | zero => omega
  | succ k ih =>
    rcases Nat.lt_or_ge n 10 with h | h
    · rw [dec_small h]
      have : 10 ≤ 10 ^ (k + 1) := by rw [Nat.pow_succ]; have := Nat.one_le_pow k 10 (by omega); omega
      exact ⟨fun _ => by omega, fun _ => by show 1 ≤ k + 1; omega⟩
    · rw [dec_big (by omega), List.length_append, Nat.pow_succ]
      rcases Nat.eq_zero_or_pos k with rfl | h'
      · have := dec_length_pos (n / 10)
        rw [Nat.pow_zero]
        constructor
        · intro h1
          have h2 : (decDigits (n / 10)).length + 1 ≤ 0 + 1 := h1
          omega
        · intro h1; omega
      · have := ih (n := n / 10) h'
        constructor
        · intro h1
          have h2 : (decDigits (n / 10)).length + 1 ≤ k + 1 := h1
          have := this.1 (by omega)
          omega
        · intro h1
          have := this.2 (by omega)
          show _ + 1 ≤ k + 1
          omega

/-- The number that decimal digits spell. -/
def dval (l : List UInt8) : Nat := l.foldl (fun n c => n * 10 + (c.toNat - 48)) 0
theorem dval_nil : dval [] = 0 := rfl
theorem dval_snoc (l : List UInt8) (c : UInt8) : dval (l ++ [c]) = dval l * 10 + (c.toNat - 48) := by
  unfold dval; rw [List.foldl_append]; rfl
theorem dval_append (l m : List UInt8) : dval (l ++ m) = dval l * 10 ^ m.length + dval m := by
  induction m using snoc_ind with
  | nil => simp [dval_nil]
  | append_singleton m c ih =>
    rw [← List.append_assoc, dval_snoc, ih, dval_snoc, List.length_append, show [c].length = 1 from rfl, Nat.pow_succ, Nat.add_mul, Nat.mul_assoc]
    omega

def isDig (c : UInt8) : Prop := 48 ≤ c.toNat ∧ c.toNat ≤ 57

theorem dval_lt {l : List UInt8} (h : ∀ c ∈ l, isDig c) : dval l < 10 ^ l.length := by
  induction l using snoc_ind with
  | nil => exact Nat.one_pos
  | append_singleton m c ih =>
    have h1 := ih fun x hx => h x (List.mem_append_left _ hx)
    have h2 := h c (List.mem_append_right _ (List.mem_singleton.2 rfl))
    unfold isDig at h2
    rw [dval_snoc, List.length_append, show [c].length = 1 from rfl, Nat.pow_succ]
    omega

theorem dval_dec (n : Nat) : dval (decDigits n) = n := by
  induction n using Nat.strongRecOn with
  | _ n ih =>
    rcases Nat.lt_or_ge n 10 with h | h
    · rw [dec_small h]
      show 0 * 10 + ((dch n).toNat - 48) = n
      rw [dch_toNat h]; omega
    · rw [dec_big (by omega), dval_snoc, ih (n / 10) (by omega), dch_toNat (by omega)]; omega

theorem dec_isDig (n : Nat) : ∀ c ∈ decDigits n, isDig c := by
  induction n using Nat.strongRecOn with
  | _ n ih =>
    rcases Nat.lt_or_ge n 10 with h | h
    · rw [dec_small h]
      intro c hc
      rw [List.mem_singleton.1 hc]
      unfold isDig; rw [dch_toNat h]; omega
    · rw [dec_big (by omega)]
      intro c hc
      rcases List.mem_append.1 hc with hc | hc
      · exact ih (n / 10) (by omega) c hc
      · rw [List.mem_singleton.1 hc]
        unfold isDig; rw [dch_toNat (by omega)]; omega

/-- What a decimal form is. -/
def isDec (l : List UInt8) : Prop := (∀ c ∈ l, isDig c) ∧ (l = [48] ∨ l ≠ [] ∧ l.head? ≠ some 48)

theorem dec_isDec (n : Nat) : isDec (decDigits n) := by
  refine ⟨dec_isDig n, ?_⟩
  rcases Nat.eq_zero_or_pos n with h0 | h0
  · left; rw [h0, dec_small (by omega)]; rfl
  · right
    refine ⟨dec_ne_nil n, ?_⟩
    induction n using Nat.strongRecOn with
    | _ n ih =>
      rcases Nat.lt_or_ge n 10 with h | h
      · rw [dec_small h]
        show some (dch n) ≠ some 48
        intro he
        have h1 := congrArg UInt8.toNat (Option.some.inj he)
        rw [dch_toNat h] at h1
        have h2 : (48 : UInt8).toNat = 48 := rfl
        omega
      · rw [dec_big (by omega), head_snoc _ (dec_ne_nil _)]
        exact ih (n / 10) (by omega) (by omega)

theorem dch_of {c : UInt8} (h : isDig c) : dch (c.toNat - 48) = c := by
  unfold isDig at h
  apply UInt8.toNat_inj.1
  rw [dch_toNat (by omega)]; omega

theorem dval_pos {l : List UInt8} (h : ∀ c ∈ l, isDig c) (h0 : l ≠ []) (h1 : l.head? ≠ some 48) : 0 < dval l := by
  induction l using snoc_ind with
  | nil => exact absurd rfl h0
  | append_singleton m c ih =>
    rw [dval_snoc]
    by_cases hm : m = []
    · subst hm
      have h2 : c ≠ 48 := fun e => h1 (by rw [e]; rfl)
      have h3 := h c (by simp)
      unfold isDig at h3
      have h4 : c.toNat ≠ 48 := fun e => h2 (UInt8.toNat_inj.1 (by rw [e]; rfl))
      omega
    · rw [head_snoc _ hm] at h1
      have := ih (fun x hx => h x (List.mem_append_left _ hx)) hm h1
      omega

theorem dec_dval {l : List UInt8} (h : isDec l) : decDigits (dval l) = l := by
  obtain ⟨h1, h2⟩ := h
  rcases h2 with rfl | ⟨h2, h3⟩
  · show decDigits 0 = _
    rw [dec_small (by omega)]; rfl
  · induction l using snoc_ind with
    | nil => exact absurd rfl h2
    | append_singleton m c ih =>
      have hc := h1 c (List.mem_append_right _ (List.mem_singleton.2 rfl))
      have hd : c.toNat - 48 < 10 := by unfold isDig at hc; omega
      rw [dval_snoc]
      by_cases hm : m = []
      · subst hm
        rw [dval_nil, show 0 * 10 + (c.toNat - 48) = c.toNat - 48 by omega, dec_small hd, dch_of hc]; rfl
      · have h3' := h3
        rw [head_snoc _ hm] at h3'
        have hm1 := fun x hx => h1 x (List.mem_append_left _ hx)
        have hp := dval_pos hm1 hm h3'
        rw [dec_big (by omega), show (dval m * 10 + (c.toNat - 48)) / 10 = dval m by omega, show (dval m * 10 + (c.toNat - 48)) % 10 = c.toNat - 48 by omega, ih hm1 hm h3', dch_of hc]

theorem dec_inj {a b : Nat} (h : decDigits a = decDigits b) : a = b := by rw [← dval_dec a, h, dval_dec]

/-- The base of the decimal chunks. -/
def CB : Nat := 10000000000000000000
theorem CB_pow : CB = 10 ^ 19 := by unfold CB; rfl
theorem CB_pos : 0 < CB := by unfold CB; omega
theorem CB_gt : 1 < CB := by unfold CB; omega

theorem chunk_split (a k : Nat) : a / CB ^ k = a / CB ^ (k + 1) * CB + a / CB ^ k % CB := by
  rw [Nat.pow_succ, ← Nat.div_div_eq_div_mul]
  have := Nat.div_add_mod (a / CB ^ k) CB
  rw [Nat.mul_comm] at this
  exact this.symm

/-- One chunk more of the decimal form. -/
theorem chunk_dec (a k : Nat) (h : 0 < a / CB ^ (k + 1)) :
    decDigits (a / CB ^ k) = decDigits (a / CB ^ (k + 1)) ++ (List.replicate (19 - (decDigits (a / CB ^ k % CB)).length) 48 ++ decDigits (a / CB ^ k % CB))
      ∧ (decDigits (a / CB ^ k % CB)).length ≤ 19 := by
  have h1 : a / CB ^ k % CB < 10 ^ 19 := by rw [← CB_pow]; exact Nat.mod_lt _ CB_pos
  obtain ⟨h2, h3⟩ := pad_eq 19 (a / CB ^ k % CB) (by omega) h1
  refine ⟨?_, h3⟩
  rw [← h2, ← dec_mul_add 19 _ _ h h1, ← CB_pow, ← chunk_split]

/-- The first number of chunks that leaves nothing. -/
theorem chunk_top (a : Nat) (h : 0 < a) : ∃ k, 0 < a / CB ^ k ∧ a / CB ^ (k + 1) = 0 := by
  have h0 : ∃ n, a / CB ^ n = 0 := ⟨a, Nat.div_eq_of_lt (Nat.lt_pow_self CB_gt)⟩
  have key : ∀ n, a / CB ^ n = 0 → ∃ k, 0 < a / CB ^ k ∧ a / CB ^ (k + 1) = 0 := by
    intro n
    induction n with
    | zero => intro hn; rw [Nat.pow_zero, Nat.div_one] at hn; omega
    | succ n ih =>
      intro hn
      rcases Nat.eq_zero_or_pos (a / CB ^ n) with h1 | h1
      · exact ih h1
      · exact ⟨n, h1, hn⟩
  obtain ⟨n, hn⟩ := h0
  exact key n hn
end Go.Proofs.YthehcjfmokabfaaGreatDoor
