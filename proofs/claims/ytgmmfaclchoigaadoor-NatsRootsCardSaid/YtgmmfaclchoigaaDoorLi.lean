/-
  Layer 1, law I: NatsRoots.
-/
import Derived.Test.YtgmmfaclchoigaaDoorRl
import Derived.Test.YtgmmfaclchoigaaDoorLf
set_option linter.unusedVariables false
set_option linter.unusedSimpArgs false
namespace Go.Proofs.YtgmmfaclchoigaaDoor
open Go.RowKit
attribute [local irreducible] lo hs sm s64 c64 d64 b64 mh ml pd pc qd qc val hiB str cmpI srD lz nb isq decB txt

set_option maxHeartbeats 4000000 in
set_option maxRecDepth 100000 in
theorem roots_big (ax : Option Addr) (cx nx : Nat) (n : Int) (h : 12 < nx) (w : World) (htab : Tab w) :
    Calls Tryd.prog 5 #[.slice ax nx cx, .int .i64 n] w fun e w' => e = .returned (.bool true) ∧ Below w.heap.size w w' := by
  have HW := Lib.hid (works_any w htab)
  have k0 : decide ((12 : Int) < (nx : Int)) = true := decide_eq_true (by omega)
  clear h
  go_enter Tryd.func5, Tryd.ntmps5
  go_wp2_with fail
  with_reducible refine Calls.mono HW.out ?_
  rintro e w1 ⟨rfl, hb⟩
  go_wp2_with fail
  exact bodyPost_ret (v := .bool true) (by simp [results, Tryd.results5, go_sem]) rfl ⟨rfl, hb⟩

theorem digs_pow_le {a K : Nat} (ha : (digs a).length ≤ K) : ∀ i, (digs (a ^ i)).length ≤ K * i + 1
  | 0 => by
    have : (digs 1).length ≤ 1 := digs_length_iff.2 (by rw [Nat.pow_one]; unfold Bs; omega)
    rw [Nat.pow_zero]; omega
  | i + 1 => by
    have := digs_mul_le (digs_pow_le ha i) ha
    rw [Nat.pow_succ, Nat.mul_succ]; omega
theorem roots_cases (n : Int) (b L : Nat) : n < 0 ∨ 4096 < n ∨ (∃ k : Nat, n = (k : Int) ∧ 0 < k ∧ k ≤ 4096 ∧ 262144 < k * b) ∨ (∃ k : Nat, n = (k : Int) ∧ 0 < k ∧ k ≤ 4096 ∧ ¬ 262144 < k * b ∧ (20 < k ∨ (k ≤ 20 ∧ 4 < L))) ∨ (∃ k : Nat, n = (k : Int) ∧ 0 < k ∧ k ≤ 20 ∧ ¬ 262144 < k * b ∧ L ≤ 4) ∨ (n = 0 ∧ 4 < L) ∨ (n = 0 ∧ L ≤ 4) := by
  by_cases h1 : n < 0
  · exact .inl h1
  by_cases h2 : 4096 < n
  · exact .inr (.inl h2)
  by_cases h3 : n = 0
  · subst h3
    by_cases h4 : 4 < L
    · exact .inr (.inr (.inr (.inr (.inr (.inl ⟨rfl, h4⟩)))))
    · exact .inr (.inr (.inr (.inr (.inr (.inr ⟨rfl, by omega⟩)))))
  obtain ⟨k, rfl⟩ := Int.eq_ofNat_of_zero_le (show 0 ≤ n by omega)
  by_cases h4 : 262144 < k * b
  · exact .inr (.inr (.inl ⟨k, rfl, by omega, by omega, h4⟩))
  by_cases h5 : 20 < k
  · exact .inr (.inr (.inr (.inl ⟨k, rfl, by omega, by omega, h4, .inl h5⟩)))
  by_cases h6 : 4 < L
  · exact .inr (.inr (.inr (.inl ⟨k, rfl, by omega, by omega, h4, .inr ⟨by omega, h6⟩⟩)))
  · exact .inr (.inr (.inr (.inr (.inl ⟨k, rfl, by omega, by omega, h4, by omega⟩))))

set_option maxHeartbeats 16000000 in
set_option maxRecDepth 1000000 in
theorem roots_small (vx : Value) (lx : List Nat) (n : Int) (hn63 : n < 9223372036854775808) (w : World) (htab : Tab w) (hx : Ws w vx lx) (nx : lx.length ≤ 12) :
    Calls Tryd.prog 5 #[vx, .int .i64 n] w fun e w' => e = .returned (.bool true) ∧ Below w.heap.size w w' := by
  have MX := fun w h => made_any vx lx (by omega) w h
  have RX := fun w h => Rx.rofw_any vx lx (by omega) w h
  obtain ⟨ax, cx, ex⟩ := hx.form
  have dx := made_digs hx.lt
  have tx := Rx.td_made hx.lt
  subst ex
  have kx : decide ((12 : Int) < (lx.length : Int)) = false := decide_eq_false (by omega)
  generalize made lx = a at *
  replace hx := Lib.hid hx
  replace MX := Lib.hid MX
  replace RX := Lib.hid RX
  generalize lx.length = Nx at *
  have nba := nb_len (Nat.le_trans dx nx)
  obtain ⟨b, hb0⟩ : ∃ b, b = nb a := ⟨_, rfl⟩
  have Q := fun w => sqrt_all a (by omega) w
  have RQ := fun v w hv => Rx.rsqrt_any v a (by omega) w hv
  have hra : isq a ≤ a := Nat.le_trans (Nat.le_mul_self _) (isq_spec a).1
  have SMr := fun v w ht hv => Rx.same_any (isq a) v (Nat.le_trans (digs_mono hra) (by omega)) (Nat.le_trans (Rx.td_mono hra) (by omega)) w ht hv
  have BB := fun w => bits_any a (by omega) w
  have RB := fun v w hv => Rx.rbits_any v a (by omega) (by omega) w hv
  have PO := fun k h1 h2 h3 w => pow_over a k h1 h2 h3 (by omega) w
  have POK := fun k h1 h2 w => pow_ok a k h1 h2 (by omega) w
  have hdp : ∀ k, k ≤ 20 → Nx ≤ 4 → (digs (a ^ k)).length ≤ 81 := fun k hk hN => Nat.le_trans (digs_pow_le (K := 4) (Nat.le_trans dx hN) k) (by omega)
  have RP := fun v k (hk : k ≤ 20) w hv => Rx.rpow_any v a k 36 (by omega) (by omega) (by omega) (by omega) w hv
  have SMp := fun k (hk : k ≤ 20) (hN : Nx ≤ 4) v w ht hv => Rx.same_any (a ^ k) v (Nat.le_trans (hdp k hk hN) (by omega)) (Nat.le_trans (Rx.td_pow_le (K := 36) (by omega) k) (by omega)) w ht hv
  have hcases := roots_cases n b Nx
  rw [← hb0] at BB RB PO POK nba
  clear hb0 hra hdp
  generalize isq a = r at *
  have HW := Lib.hid (fun w h => works_any w h)
  replace hn63 := Lib.hid hn63
  replace Q := Lib.hid Q
  replace RQ := Lib.hid RQ
  replace SMr := Lib.hid SMr
  replace BB := Lib.hid BB
  replace RB := Lib.hid RB
  replace PO := Lib.hid PO
  replace POK := Lib.hid POK
  replace RP := Lib.hid RP
  replace SMp := Lib.hid SMp
  replace dx := Lib.hid dx
  replace tx := Lib.hid tx
  have hL0 : NL w w [] := NL.start w
  rcases hcases with c1 | c1 | ⟨k, rfl, c1, c2, c3⟩ | ⟨k, rfl, c1, c2, c3, c4⟩ | ⟨k, rfl, c1, c2, c3, c4⟩ | ⟨rfl, c4⟩ | ⟨rfl, c4⟩
  · have P := Lib.hid (fun w => pow_neg a n c1 w)
    have d1 : ¬ (0 : Int) < n := by omega
    have d2 : ¬ (20 : Int) < n := by omega
    have d3 : ¬ (0 : Int) ≤ n := by omega
    go_enter Tryd.func5, Tryd.ntmps5
    go_wp2_with fail
    with_reducible refine Calls.mono (MX.out _ (hx.out.below hL0.bl)) ?_
    rintro e x1 ⟨rfl, hb⟩
    replace hL0 := hL0.call hb
    clear hb MX
    go_wp2_with fail
    with_reducible refine Calls.mono (RX.out _ (hx.out.below hL0.bl)) ?_
    rintro e x2 ⟨v6, rfl, h6, hb⟩
    replace hL0 := hL0.call hb
    clear hb RX
    replace h6 := Lib.hid h6
    replace h6 := Lib.hid (h6.out.below (below1 _ (.cells #[.int .u64 ((lo a : Nat) : Int), .string (hs a)] 26)))
    replace hL0 := (hL0.new rfl a 26)
    generalize hweq : (x2.alloc (.cells #[.int .u64 ((lo a : Nat) : Int), .string (hs a)] 26)) = x3 at hL0 h6
    obtain ⟨p1, r1⟩ := hL0.get (x2.heap.size) a (by (first | with_reducible exact List.mem_cons_self | with_reducible exact (List.mem_cons_of_mem _ List.mem_cons_self) | with_reducible exact (List.mem_cons_of_mem _ (List.mem_cons_of_mem _ List.mem_cons_self)) | with_reducible exact (List.mem_cons_of_mem _ (List.mem_cons_of_mem _ (List.mem_cons_of_mem _ List.mem_cons_self))) | with_reducible exact (List.mem_cons_of_mem _ (List.mem_cons_of_mem _ (List.mem_cons_of_mem _ (List.mem_cons_of_mem _ List.mem_cons_self)))) | with_reducible exact (List.mem_cons_of_mem _ (List.mem_cons_of_mem _ (List.mem_cons_of_mem _ (List.mem_cons_of_mem _ (List.mem_cons_of_mem _ List.mem_cons_self))))) | with_reducible exact (List.mem_cons_of_mem _ (List.mem_cons_of_mem _ (List.mem_cons_of_mem _ (List.mem_cons_of_mem _ (List.mem_cons_of_mem _ (List.mem_cons_of_mem _ List.mem_cons_self)))))) | with_reducible exact (List.mem_cons_of_mem _ (List.mem_cons_of_mem _ (List.mem_cons_of_mem _ (List.mem_cons_of_mem _ (List.mem_cons_of_mem _ (List.mem_cons_of_mem _ (List.mem_cons_of_mem _ List.mem_cons_self))))))) | with_reducible exact (List.mem_cons_of_mem _ (List.mem_cons_of_mem _ (List.mem_cons_of_mem _ (List.mem_cons_of_mem _ (List.mem_cons_of_mem _ (List.mem_cons_of_mem _ (List.mem_cons_of_mem _ (List.mem_cons_of_mem _ List.mem_cons_self)))))))) | with_reducible exact (List.mem_cons_of_mem _ (List.mem_cons_of_mem _ (List.mem_cons_of_mem _ (List.mem_cons_of_mem _ (List.mem_cons_of_mem _ (List.mem_cons_of_mem _ (List.mem_cons_of_mem _ (List.mem_cons_of_mem _ (List.mem_cons_of_mem _ List.mem_cons_self))))))))) | with_reducible exact (List.mem_cons_of_mem _ (List.mem_cons_of_mem _ (List.mem_cons_of_mem _ (List.mem_cons_of_mem _ (List.mem_cons_of_mem _ (List.mem_cons_of_mem _ (List.mem_cons_of_mem _ (List.mem_cons_of_mem _ (List.mem_cons_of_mem _ (List.mem_cons_of_mem _ List.mem_cons_self)))))))))) | with_reducible exact (List.mem_cons_of_mem _ (List.mem_cons_of_mem _ (List.mem_cons_of_mem _ (List.mem_cons_of_mem _ (List.mem_cons_of_mem _ (List.mem_cons_of_mem _ (List.mem_cons_of_mem _ (List.mem_cons_of_mem _ (List.mem_cons_of_mem _ (List.mem_cons_of_mem _ (List.mem_cons_of_mem _ List.mem_cons_self)))))))))))))
    go_wp2_with fail
    with_reducible refine Calls.mono (Q.out _) ?_
    rintro e x4 ⟨rfl, hb⟩
    replace hL0 := hL0.call hb
    replace h6 := Lib.hid (h6.out.below hb)
    clear hb Q hweq
    go_wp2_with fail
    with_reducible refine Calls.mono (RQ.out _ _ h6.out) ?_
    rintro e x5 ⟨v21, rfl, h21, hb⟩
    replace hL0 := hL0.call hb
    replace h6 := Lib.hid (h6.out.below hb)
    clear hb RQ
    replace h21 := Lib.hid h21
    go_wp2_with fail
    with_reducible refine Calls.mono (SMr.out _ _ (htab.below hL0.bl) h21.out) ?_
    rintro e x6 ⟨rfl, hb⟩
    replace hL0 := hL0.call hb
    replace h6 := Lib.hid (h6.out.below hb)
    clear hb SMr
    clear h21
    obtain ⟨p2, r2⟩ := hL0.get (x2.heap.size) a (by (first | with_reducible exact List.mem_cons_self | with_reducible exact (List.mem_cons_of_mem _ List.mem_cons_self) | with_reducible exact (List.mem_cons_of_mem _ (List.mem_cons_of_mem _ List.mem_cons_self)) | with_reducible exact (List.mem_cons_of_mem _ (List.mem_cons_of_mem _ (List.mem_cons_of_mem _ List.mem_cons_self))) | with_reducible exact (List.mem_cons_of_mem _ (List.mem_cons_of_mem _ (List.mem_cons_of_mem _ (List.mem_cons_of_mem _ List.mem_cons_self)))) | with_reducible exact (List.mem_cons_of_mem _ (List.mem_cons_of_mem _ (List.mem_cons_of_mem _ (List.mem_cons_of_mem _ (List.mem_cons_of_mem _ List.mem_cons_self))))) | with_reducible exact (List.mem_cons_of_mem _ (List.mem_cons_of_mem _ (List.mem_cons_of_mem _ (List.mem_cons_of_mem _ (List.mem_cons_of_mem _ (List.mem_cons_of_mem _ List.mem_cons_self)))))) | with_reducible exact (List.mem_cons_of_mem _ (List.mem_cons_of_mem _ (List.mem_cons_of_mem _ (List.mem_cons_of_mem _ (List.mem_cons_of_mem _ (List.mem_cons_of_mem _ (List.mem_cons_of_mem _ List.mem_cons_self))))))) | with_reducible exact (List.mem_cons_of_mem _ (List.mem_cons_of_mem _ (List.mem_cons_of_mem _ (List.mem_cons_of_mem _ (List.mem_cons_of_mem _ (List.mem_cons_of_mem _ (List.mem_cons_of_mem _ (List.mem_cons_of_mem _ List.mem_cons_self)))))))) | with_reducible exact (List.mem_cons_of_mem _ (List.mem_cons_of_mem _ (List.mem_cons_of_mem _ (List.mem_cons_of_mem _ (List.mem_cons_of_mem _ (List.mem_cons_of_mem _ (List.mem_cons_of_mem _ (List.mem_cons_of_mem _ (List.mem_cons_of_mem _ List.mem_cons_self))))))))) | with_reducible exact (List.mem_cons_of_mem _ (List.mem_cons_of_mem _ (List.mem_cons_of_mem _ (List.mem_cons_of_mem _ (List.mem_cons_of_mem _ (List.mem_cons_of_mem _ (List.mem_cons_of_mem _ (List.mem_cons_of_mem _ (List.mem_cons_of_mem _ (List.mem_cons_of_mem _ List.mem_cons_self)))))))))) | with_reducible exact (List.mem_cons_of_mem _ (List.mem_cons_of_mem _ (List.mem_cons_of_mem _ (List.mem_cons_of_mem _ (List.mem_cons_of_mem _ (List.mem_cons_of_mem _ (List.mem_cons_of_mem _ (List.mem_cons_of_mem _ (List.mem_cons_of_mem _ (List.mem_cons_of_mem _ (List.mem_cons_of_mem _ List.mem_cons_self)))))))))))))
    go_wp2_with fail
    with_reducible refine Calls.mono (BB.out _) ?_
    rintro e x7 ⟨rfl, hb⟩
    replace hL0 := hL0.call hb
    replace h6 := Lib.hid (h6.out.below hb)
    clear hb BB
    go_wp2_with fail
    with_reducible refine Calls.mono (RB.out _ _ h6.out) ?_
    rintro e x8 ⟨rfl, hb⟩
    replace hL0 := hL0.call hb
    replace h6 := Lib.hid (h6.out.below hb)
    clear hb
    obtain ⟨p3, r3⟩ := hL0.get (x2.heap.size) a (by (first | with_reducible exact List.mem_cons_self | with_reducible exact (List.mem_cons_of_mem _ List.mem_cons_self) | with_reducible exact (List.mem_cons_of_mem _ (List.mem_cons_of_mem _ List.mem_cons_self)) | with_reducible exact (List.mem_cons_of_mem _ (List.mem_cons_of_mem _ (List.mem_cons_of_mem _ List.mem_cons_self))) | with_reducible exact (List.mem_cons_of_mem _ (List.mem_cons_of_mem _ (List.mem_cons_of_mem _ (List.mem_cons_of_mem _ List.mem_cons_self)))) | with_reducible exact (List.mem_cons_of_mem _ (List.mem_cons_of_mem _ (List.mem_cons_of_mem _ (List.mem_cons_of_mem _ (List.mem_cons_of_mem _ List.mem_cons_self))))) | with_reducible exact (List.mem_cons_of_mem _ (List.mem_cons_of_mem _ (List.mem_cons_of_mem _ (List.mem_cons_of_mem _ (List.mem_cons_of_mem _ (List.mem_cons_of_mem _ List.mem_cons_self)))))) | with_reducible exact (List.mem_cons_of_mem _ (List.mem_cons_of_mem _ (List.mem_cons_of_mem _ (List.mem_cons_of_mem _ (List.mem_cons_of_mem _ (List.mem_cons_of_mem _ (List.mem_cons_of_mem _ List.mem_cons_self))))))) | with_reducible exact (List.mem_cons_of_mem _ (List.mem_cons_of_mem _ (List.mem_cons_of_mem _ (List.mem_cons_of_mem _ (List.mem_cons_of_mem _ (List.mem_cons_of_mem _ (List.mem_cons_of_mem _ (List.mem_cons_of_mem _ List.mem_cons_self)))))))) | with_reducible exact (List.mem_cons_of_mem _ (List.mem_cons_of_mem _ (List.mem_cons_of_mem _ (List.mem_cons_of_mem _ (List.mem_cons_of_mem _ (List.mem_cons_of_mem _ (List.mem_cons_of_mem _ (List.mem_cons_of_mem _ (List.mem_cons_of_mem _ List.mem_cons_self))))))))) | with_reducible exact (List.mem_cons_of_mem _ (List.mem_cons_of_mem _ (List.mem_cons_of_mem _ (List.mem_cons_of_mem _ (List.mem_cons_of_mem _ (List.mem_cons_of_mem _ (List.mem_cons_of_mem _ (List.mem_cons_of_mem _ (List.mem_cons_of_mem _ (List.mem_cons_of_mem _ List.mem_cons_self)))))))))) | with_reducible exact (List.mem_cons_of_mem _ (List.mem_cons_of_mem _ (List.mem_cons_of_mem _ (List.mem_cons_of_mem _ (List.mem_cons_of_mem _ (List.mem_cons_of_mem _ (List.mem_cons_of_mem _ (List.mem_cons_of_mem _ (List.mem_cons_of_mem _ (List.mem_cons_of_mem _ (List.mem_cons_of_mem _ List.mem_cons_self)))))))))))))
    go_wp2_with fail
    with_reducible refine Calls.mono (P.out _) ?_
    rintro e x9 ⟨rfl, hb⟩
    replace hL0 := hL0.call hb
    replace h6 := Lib.hid (h6.out.below hb)
    clear hb P
    replace h6 := Lib.hid (h6.out.below (below1 _ (.cells #[.int .u64 ((lo 0 : Nat) : Int), .string (hs 0)] 26)))
    replace hL0 := (hL0.new rfl 0 26)
    generalize hweq : (x9.alloc (.cells #[.int .u64 ((lo 0 : Nat) : Int), .string (hs 0)] 26)) = x10 at hL0 h6
    have z1 : (((lo 0 : Nat) : Int) == 0) = true := by rw [lo_zero]; rfl
    have z2 : ((hs 0).toList == []) = true := by rw [hs_zero, ByteArray.toList_eq]; rfl
    obtain ⟨p4, r4⟩ := hL0.get (x9.heap.size) 0 (by (first | with_reducible exact List.mem_cons_self | with_reducible exact (List.mem_cons_of_mem _ List.mem_cons_self) | with_reducible exact (List.mem_cons_of_mem _ (List.mem_cons_of_mem _ List.mem_cons_self)) | with_reducible exact (List.mem_cons_of_mem _ (List.mem_cons_of_mem _ (List.mem_cons_of_mem _ List.mem_cons_self))) | with_reducible exact (List.mem_cons_of_mem _ (List.mem_cons_of_mem _ (List.mem_cons_of_mem _ (List.mem_cons_of_mem _ List.mem_cons_self)))) | with_reducible exact (List.mem_cons_of_mem _ (List.mem_cons_of_mem _ (List.mem_cons_of_mem _ (List.mem_cons_of_mem _ (List.mem_cons_of_mem _ List.mem_cons_self))))) | with_reducible exact (List.mem_cons_of_mem _ (List.mem_cons_of_mem _ (List.mem_cons_of_mem _ (List.mem_cons_of_mem _ (List.mem_cons_of_mem _ (List.mem_cons_of_mem _ List.mem_cons_self)))))) | with_reducible exact (List.mem_cons_of_mem _ (List.mem_cons_of_mem _ (List.mem_cons_of_mem _ (List.mem_cons_of_mem _ (List.mem_cons_of_mem _ (List.mem_cons_of_mem _ (List.mem_cons_of_mem _ List.mem_cons_self))))))) | with_reducible exact (List.mem_cons_of_mem _ (List.mem_cons_of_mem _ (List.mem_cons_of_mem _ (List.mem_cons_of_mem _ (List.mem_cons_of_mem _ (List.mem_cons_of_mem _ (List.mem_cons_of_mem _ (List.mem_cons_of_mem _ List.mem_cons_self)))))))) | with_reducible exact (List.mem_cons_of_mem _ (List.mem_cons_of_mem _ (List.mem_cons_of_mem _ (List.mem_cons_of_mem _ (List.mem_cons_of_mem _ (List.mem_cons_of_mem _ (List.mem_cons_of_mem _ (List.mem_cons_of_mem _ (List.mem_cons_of_mem _ List.mem_cons_self))))))))) | with_reducible exact (List.mem_cons_of_mem _ (List.mem_cons_of_mem _ (List.mem_cons_of_mem _ (List.mem_cons_of_mem _ (List.mem_cons_of_mem _ (List.mem_cons_of_mem _ (List.mem_cons_of_mem _ (List.mem_cons_of_mem _ (List.mem_cons_of_mem _ (List.mem_cons_of_mem _ List.mem_cons_self)))))))))) | with_reducible exact (List.mem_cons_of_mem _ (List.mem_cons_of_mem _ (List.mem_cons_of_mem _ (List.mem_cons_of_mem _ (List.mem_cons_of_mem _ (List.mem_cons_of_mem _ (List.mem_cons_of_mem _ (List.mem_cons_of_mem _ (List.mem_cons_of_mem _ (List.mem_cons_of_mem _ (List.mem_cons_of_mem _ List.mem_cons_self)))))))))))))
    go_wp2_with fail
    with_reducible refine Calls.mono (HW.out _ (htab.below hL0.bl)) ?_
    rintro e x11 ⟨rfl, hb⟩
    replace hL0 := hL0.call hb
    replace h6 := Lib.hid (h6.out.below hb)
    clear hb HW hweq
    go_wp2_with fail
    exact bodyPost_ret (v := .bool true) (by simp [results, Tryd.results5, go_sem]) rfl ⟨rfl, hL0.bl⟩
  · obtain ⟨k, rfl⟩ := Int.eq_ofNat_of_zero_le (show 0 ≤ n by omega)
    have P := Lib.hid (fun w => pow_great a k (by omega) (by have := hn63.out; omega) w)
    skip
    have bq00 : decide ((0 : Int) < (k : Int)) = true := decide_eq_true (by omega)
    have bq01 : decide (0 < k) = true := decide_eq_true (by omega)
    have bq10 : decide ((k : Int) ≤ (4096 : Int)) = false := decide_eq_false (by omega)
    have bq11 : decide (k ≤ 4096) = false := decide_eq_false (by omega)
    have bq20 : decide ((20 : Int) < (k : Int)) = true := decide_eq_true (by omega)
    have bq21 : decide (20 < k) = true := decide_eq_true (by omega)
    have bq30 : decide ((4096 : Int) < (k : Int)) = true := decide_eq_true (by omega)
    have bq31 : decide (4096 < k) = true := decide_eq_true (by omega)
    replace c1 := Lib.hid c1
    have bz : decide ((k : Int) < 0) = false := decide_eq_false (by omega)
    have bz2 : decide ((0 : Int) ≤ (k : Int)) = true := decide_eq_true (by omega)
    go_enter Tryd.func5, Tryd.ntmps5
    go_wp2_with fail
    with_reducible refine Calls.mono (MX.out _ (hx.out.below hL0.bl)) ?_
    rintro e x1 ⟨rfl, hb⟩
    replace hL0 := hL0.call hb
    clear hb MX
    go_wp2_with fail
    with_reducible refine Calls.mono (RX.out _ (hx.out.below hL0.bl)) ?_
    rintro e x2 ⟨v6, rfl, h6, hb⟩
    replace hL0 := hL0.call hb
    clear hb RX
    replace h6 := Lib.hid h6
    replace h6 := Lib.hid (h6.out.below (below1 _ (.cells #[.int .u64 ((lo a : Nat) : Int), .string (hs a)] 26)))
    replace hL0 := (hL0.new rfl a 26)
    generalize hweq : (x2.alloc (.cells #[.int .u64 ((lo a : Nat) : Int), .string (hs a)] 26)) = x3 at hL0 h6
    obtain ⟨p5, r5⟩ := hL0.get (x2.heap.size) a (by (first | with_reducible exact List.mem_cons_self | with_reducible exact (List.mem_cons_of_mem _ List.mem_cons_self) | with_reducible exact (List.mem_cons_of_mem _ (List.mem_cons_of_mem _ List.mem_cons_self)) | with_reducible exact (List.mem_cons_of_mem _ (List.mem_cons_of_mem _ (List.mem_cons_of_mem _ List.mem_cons_self))) | with_reducible exact (List.mem_cons_of_mem _ (List.mem_cons_of_mem _ (List.mem_cons_of_mem _ (List.mem_cons_of_mem _ List.mem_cons_self)))) | with_reducible exact (List.mem_cons_of_mem _ (List.mem_cons_of_mem _ (List.mem_cons_of_mem _ (List.mem_cons_of_mem _ (List.mem_cons_of_mem _ List.mem_cons_self))))) | with_reducible exact (List.mem_cons_of_mem _ (List.mem_cons_of_mem _ (List.mem_cons_of_mem _ (List.mem_cons_of_mem _ (List.mem_cons_of_mem _ (List.mem_cons_of_mem _ List.mem_cons_self)))))) | with_reducible exact (List.mem_cons_of_mem _ (List.mem_cons_of_mem _ (List.mem_cons_of_mem _ (List.mem_cons_of_mem _ (List.mem_cons_of_mem _ (List.mem_cons_of_mem _ (List.mem_cons_of_mem _ List.mem_cons_self))))))) | with_reducible exact (List.mem_cons_of_mem _ (List.mem_cons_of_mem _ (List.mem_cons_of_mem _ (List.mem_cons_of_mem _ (List.mem_cons_of_mem _ (List.mem_cons_of_mem _ (List.mem_cons_of_mem _ (List.mem_cons_of_mem _ List.mem_cons_self)))))))) | with_reducible exact (List.mem_cons_of_mem _ (List.mem_cons_of_mem _ (List.mem_cons_of_mem _ (List.mem_cons_of_mem _ (List.mem_cons_of_mem _ (List.mem_cons_of_mem _ (List.mem_cons_of_mem _ (List.mem_cons_of_mem _ (List.mem_cons_of_mem _ List.mem_cons_self))))))))) | with_reducible exact (List.mem_cons_of_mem _ (List.mem_cons_of_mem _ (List.mem_cons_of_mem _ (List.mem_cons_of_mem _ (List.mem_cons_of_mem _ (List.mem_cons_of_mem _ (List.mem_cons_of_mem _ (List.mem_cons_of_mem _ (List.mem_cons_of_mem _ (List.mem_cons_of_mem _ List.mem_cons_self)))))))))) | with_reducible exact (List.mem_cons_of_mem _ (List.mem_cons_of_mem _ (List.mem_cons_of_mem _ (List.mem_cons_of_mem _ (List.mem_cons_of_mem _ (List.mem_cons_of_mem _ (List.mem_cons_of_mem _ (List.mem_cons_of_mem _ (List.mem_cons_of_mem _ (List.mem_cons_of_mem _ (List.mem_cons_of_mem _ List.mem_cons_self)))))))))))))
    go_wp2_with fail
    with_reducible refine Calls.mono (Q.out _) ?_
    rintro e x4 ⟨rfl, hb⟩
    replace hL0 := hL0.call hb
    replace h6 := Lib.hid (h6.out.below hb)
    clear hb Q hweq
    go_wp2_with fail
    with_reducible refine Calls.mono (RQ.out _ _ h6.out) ?_
    rintro e x5 ⟨v21, rfl, h21, hb⟩
    replace hL0 := hL0.call hb
    replace h6 := Lib.hid (h6.out.below hb)
    clear hb RQ
    replace h21 := Lib.hid h21
    go_wp2_with fail
    with_reducible refine Calls.mono (SMr.out _ _ (htab.below hL0.bl) h21.out) ?_
    rintro e x6 ⟨rfl, hb⟩
    replace hL0 := hL0.call hb
    replace h6 := Lib.hid (h6.out.below hb)
    clear hb SMr
    clear h21
    obtain ⟨p6, r6⟩ := hL0.get (x2.heap.size) a (by (first | with_reducible exact List.mem_cons_self | with_reducible exact (List.mem_cons_of_mem _ List.mem_cons_self) | with_reducible exact (List.mem_cons_of_mem _ (List.mem_cons_of_mem _ List.mem_cons_self)) | with_reducible exact (List.mem_cons_of_mem _ (List.mem_cons_of_mem _ (List.mem_cons_of_mem _ List.mem_cons_self))) | with_reducible exact (List.mem_cons_of_mem _ (List.mem_cons_of_mem _ (List.mem_cons_of_mem _ (List.mem_cons_of_mem _ List.mem_cons_self)))) | with_reducible exact (List.mem_cons_of_mem _ (List.mem_cons_of_mem _ (List.mem_cons_of_mem _ (List.mem_cons_of_mem _ (List.mem_cons_of_mem _ List.mem_cons_self))))) | with_reducible exact (List.mem_cons_of_mem _ (List.mem_cons_of_mem _ (List.mem_cons_of_mem _ (List.mem_cons_of_mem _ (List.mem_cons_of_mem _ (List.mem_cons_of_mem _ List.mem_cons_self)))))) | with_reducible exact (List.mem_cons_of_mem _ (List.mem_cons_of_mem _ (List.mem_cons_of_mem _ (List.mem_cons_of_mem _ (List.mem_cons_of_mem _ (List.mem_cons_of_mem _ (List.mem_cons_of_mem _ List.mem_cons_self))))))) | with_reducible exact (List.mem_cons_of_mem _ (List.mem_cons_of_mem _ (List.mem_cons_of_mem _ (List.mem_cons_of_mem _ (List.mem_cons_of_mem _ (List.mem_cons_of_mem _ (List.mem_cons_of_mem _ (List.mem_cons_of_mem _ List.mem_cons_self)))))))) | with_reducible exact (List.mem_cons_of_mem _ (List.mem_cons_of_mem _ (List.mem_cons_of_mem _ (List.mem_cons_of_mem _ (List.mem_cons_of_mem _ (List.mem_cons_of_mem _ (List.mem_cons_of_mem _ (List.mem_cons_of_mem _ (List.mem_cons_of_mem _ List.mem_cons_self))))))))) | with_reducible exact (List.mem_cons_of_mem _ (List.mem_cons_of_mem _ (List.mem_cons_of_mem _ (List.mem_cons_of_mem _ (List.mem_cons_of_mem _ (List.mem_cons_of_mem _ (List.mem_cons_of_mem _ (List.mem_cons_of_mem _ (List.mem_cons_of_mem _ (List.mem_cons_of_mem _ List.mem_cons_self)))))))))) | with_reducible exact (List.mem_cons_of_mem _ (List.mem_cons_of_mem _ (List.mem_cons_of_mem _ (List.mem_cons_of_mem _ (List.mem_cons_of_mem _ (List.mem_cons_of_mem _ (List.mem_cons_of_mem _ (List.mem_cons_of_mem _ (List.mem_cons_of_mem _ (List.mem_cons_of_mem _ (List.mem_cons_of_mem _ List.mem_cons_self)))))))))))))
    go_wp2_with fail
    with_reducible refine Calls.mono (BB.out _) ?_
    rintro e x7 ⟨rfl, hb⟩
    replace hL0 := hL0.call hb
    replace h6 := Lib.hid (h6.out.below hb)
    clear hb BB
    go_wp2_with fail
    with_reducible refine Calls.mono (RB.out _ _ h6.out) ?_
    rintro e x8 ⟨rfl, hb⟩
    replace hL0 := hL0.call hb
    replace h6 := Lib.hid (h6.out.below hb)
    clear hb
    obtain ⟨p7, r7⟩ := hL0.get (x2.heap.size) a (by (first | with_reducible exact List.mem_cons_self | with_reducible exact (List.mem_cons_of_mem _ List.mem_cons_self) | with_reducible exact (List.mem_cons_of_mem _ (List.mem_cons_of_mem _ List.mem_cons_self)) | with_reducible exact (List.mem_cons_of_mem _ (List.mem_cons_of_mem _ (List.mem_cons_of_mem _ List.mem_cons_self))) | with_reducible exact (List.mem_cons_of_mem _ (List.mem_cons_of_mem _ (List.mem_cons_of_mem _ (List.mem_cons_of_mem _ List.mem_cons_self)))) | with_reducible exact (List.mem_cons_of_mem _ (List.mem_cons_of_mem _ (List.mem_cons_of_mem _ (List.mem_cons_of_mem _ (List.mem_cons_of_mem _ List.mem_cons_self))))) | with_reducible exact (List.mem_cons_of_mem _ (List.mem_cons_of_mem _ (List.mem_cons_of_mem _ (List.mem_cons_of_mem _ (List.mem_cons_of_mem _ (List.mem_cons_of_mem _ List.mem_cons_self)))))) | with_reducible exact (List.mem_cons_of_mem _ (List.mem_cons_of_mem _ (List.mem_cons_of_mem _ (List.mem_cons_of_mem _ (List.mem_cons_of_mem _ (List.mem_cons_of_mem _ (List.mem_cons_of_mem _ List.mem_cons_self))))))) | with_reducible exact (List.mem_cons_of_mem _ (List.mem_cons_of_mem _ (List.mem_cons_of_mem _ (List.mem_cons_of_mem _ (List.mem_cons_of_mem _ (List.mem_cons_of_mem _ (List.mem_cons_of_mem _ (List.mem_cons_of_mem _ List.mem_cons_self)))))))) | with_reducible exact (List.mem_cons_of_mem _ (List.mem_cons_of_mem _ (List.mem_cons_of_mem _ (List.mem_cons_of_mem _ (List.mem_cons_of_mem _ (List.mem_cons_of_mem _ (List.mem_cons_of_mem _ (List.mem_cons_of_mem _ (List.mem_cons_of_mem _ List.mem_cons_self))))))))) | with_reducible exact (List.mem_cons_of_mem _ (List.mem_cons_of_mem _ (List.mem_cons_of_mem _ (List.mem_cons_of_mem _ (List.mem_cons_of_mem _ (List.mem_cons_of_mem _ (List.mem_cons_of_mem _ (List.mem_cons_of_mem _ (List.mem_cons_of_mem _ (List.mem_cons_of_mem _ List.mem_cons_self)))))))))) | with_reducible exact (List.mem_cons_of_mem _ (List.mem_cons_of_mem _ (List.mem_cons_of_mem _ (List.mem_cons_of_mem _ (List.mem_cons_of_mem _ (List.mem_cons_of_mem _ (List.mem_cons_of_mem _ (List.mem_cons_of_mem _ (List.mem_cons_of_mem _ (List.mem_cons_of_mem _ (List.mem_cons_of_mem _ List.mem_cons_self)))))))))))))
    go_wp2_with fail
    with_reducible refine Calls.mono (P.out _) ?_
    rintro e x9 ⟨rfl, hb⟩
    replace hL0 := hL0.call hb
    replace h6 := Lib.hid (h6.out.below hb)
    clear hb P
    replace h6 := Lib.hid (h6.out.below (below1 _ (.cells #[.int .u64 ((lo 0 : Nat) : Int), .string (hs 0)] 26)))
    replace hL0 := (hL0.new rfl 0 26)
    generalize hweq : (x9.alloc (.cells #[.int .u64 ((lo 0 : Nat) : Int), .string (hs 0)] 26)) = x10 at hL0 h6
    have z1 : (((lo 0 : Nat) : Int) == 0) = true := by rw [lo_zero]; rfl
    have z2 : ((hs 0).toList == []) = true := by rw [hs_zero, ByteArray.toList_eq]; rfl
    obtain ⟨p8, r8⟩ := hL0.get (x9.heap.size) 0 (by (first | with_reducible exact List.mem_cons_self | with_reducible exact (List.mem_cons_of_mem _ List.mem_cons_self) | with_reducible exact (List.mem_cons_of_mem _ (List.mem_cons_of_mem _ List.mem_cons_self)) | with_reducible exact (List.mem_cons_of_mem _ (List.mem_cons_of_mem _ (List.mem_cons_of_mem _ List.mem_cons_self))) | with_reducible exact (List.mem_cons_of_mem _ (List.mem_cons_of_mem _ (List.mem_cons_of_mem _ (List.mem_cons_of_mem _ List.mem_cons_self)))) | with_reducible exact (List.mem_cons_of_mem _ (List.mem_cons_of_mem _ (List.mem_cons_of_mem _ (List.mem_cons_of_mem _ (List.mem_cons_of_mem _ List.mem_cons_self))))) | with_reducible exact (List.mem_cons_of_mem _ (List.mem_cons_of_mem _ (List.mem_cons_of_mem _ (List.mem_cons_of_mem _ (List.mem_cons_of_mem _ (List.mem_cons_of_mem _ List.mem_cons_self)))))) | with_reducible exact (List.mem_cons_of_mem _ (List.mem_cons_of_mem _ (List.mem_cons_of_mem _ (List.mem_cons_of_mem _ (List.mem_cons_of_mem _ (List.mem_cons_of_mem _ (List.mem_cons_of_mem _ List.mem_cons_self))))))) | with_reducible exact (List.mem_cons_of_mem _ (List.mem_cons_of_mem _ (List.mem_cons_of_mem _ (List.mem_cons_of_mem _ (List.mem_cons_of_mem _ (List.mem_cons_of_mem _ (List.mem_cons_of_mem _ (List.mem_cons_of_mem _ List.mem_cons_self)))))))) | with_reducible exact (List.mem_cons_of_mem _ (List.mem_cons_of_mem _ (List.mem_cons_of_mem _ (List.mem_cons_of_mem _ (List.mem_cons_of_mem _ (List.mem_cons_of_mem _ (List.mem_cons_of_mem _ (List.mem_cons_of_mem _ (List.mem_cons_of_mem _ List.mem_cons_self))))))))) | with_reducible exact (List.mem_cons_of_mem _ (List.mem_cons_of_mem _ (List.mem_cons_of_mem _ (List.mem_cons_of_mem _ (List.mem_cons_of_mem _ (List.mem_cons_of_mem _ (List.mem_cons_of_mem _ (List.mem_cons_of_mem _ (List.mem_cons_of_mem _ (List.mem_cons_of_mem _ List.mem_cons_self)))))))))) | with_reducible exact (List.mem_cons_of_mem _ (List.mem_cons_of_mem _ (List.mem_cons_of_mem _ (List.mem_cons_of_mem _ (List.mem_cons_of_mem _ (List.mem_cons_of_mem _ (List.mem_cons_of_mem _ (List.mem_cons_of_mem _ (List.mem_cons_of_mem _ (List.mem_cons_of_mem _ (List.mem_cons_of_mem _ List.mem_cons_self)))))))))))))
    go_wp2_with fail
    with_reducible refine Calls.mono (HW.out _ (htab.below hL0.bl)) ?_
    rintro e x11 ⟨rfl, hb⟩
    replace hL0 := hL0.call hb
    replace h6 := Lib.hid (h6.out.below hb)
    clear hb HW hweq
    go_wp2_with fail
    exact bodyPost_ret (v := .bool true) (by simp [results, Tryd.results5, go_sem]) rfl ⟨rfl, hL0.bl⟩
  · have P := Lib.hid (fun w => PO.out k c1 c2 ((Nat.div_lt_iff_lt_mul c1).2 (by rw [Nat.mul_comm]; exact c3)) w)
    obtain ⟨z, hz⟩ : ∃ z, z = k * b := ⟨_, rfl⟩
    have hzb : z ≤ 3145728 := by rw [hz]; exact Nat.le_trans (Nat.mul_le_mul c2 nba) (by decide)
    have hzz : (k : Int) * (b : Int) = (z : Int) := by rw [hz]; rfl
    rw [← hz] at c3
    clear hz
    have hzb2 : (z : Int) ≤ 3145728 := by omega
    have dz2 : decide (262144 < z) = true := decide_eq_true (by omega)
    have dz : decide ((262144 : Int) < (z : Int)) = true := decide_eq_true (by omega)
    have bq00 : decide ((0 : Int) < (k : Int)) = true := decide_eq_true (by omega)
    have bq01 : decide (0 < k) = true := decide_eq_true (by omega)
    have bq10 : decide ((k : Int) ≤ (4096 : Int)) = true := decide_eq_true (by omega)
    have bq11 : decide (k ≤ 4096) = true := decide_eq_true (by omega)
    have bq20 : decide ((4096 : Int) < (k : Int)) = false := decide_eq_false (by omega)
    have bq21 : decide (4096 < k) = false := decide_eq_false (by omega)
    replace c1 := Lib.hid c1
    replace c2 := Lib.hid c2
    replace c3 := Lib.hid c3
    have bz : decide ((k : Int) < 0) = false := decide_eq_false (by omega)
    have bz2 : decide ((0 : Int) ≤ (k : Int)) = true := decide_eq_true (by omega)
    go_enter Tryd.func5, Tryd.ntmps5
    go_wp2_with fail
    with_reducible refine Calls.mono (MX.out _ (hx.out.below hL0.bl)) ?_
    rintro e x1 ⟨rfl, hb⟩
    replace hL0 := hL0.call hb
    clear hb MX
    go_wp2_with fail
    with_reducible refine Calls.mono (RX.out _ (hx.out.below hL0.bl)) ?_
    rintro e x2 ⟨v6, rfl, h6, hb⟩
    replace hL0 := hL0.call hb
    clear hb RX
    replace h6 := Lib.hid h6
    replace h6 := Lib.hid (h6.out.below (below1 _ (.cells #[.int .u64 ((lo a : Nat) : Int), .string (hs a)] 26)))
    replace hL0 := (hL0.new rfl a 26)
    generalize hweq : (x2.alloc (.cells #[.int .u64 ((lo a : Nat) : Int), .string (hs a)] 26)) = x3 at hL0 h6
    obtain ⟨p9, r9⟩ := hL0.get (x2.heap.size) a (by (first | with_reducible exact List.mem_cons_self | with_reducible exact (List.mem_cons_of_mem _ List.mem_cons_self) | with_reducible exact (List.mem_cons_of_mem _ (List.mem_cons_of_mem _ List.mem_cons_self)) | with_reducible exact (List.mem_cons_of_mem _ (List.mem_cons_of_mem _ (List.mem_cons_of_mem _ List.mem_cons_self))) | with_reducible exact (List.mem_cons_of_mem _ (List.mem_cons_of_mem _ (List.mem_cons_of_mem _ (List.mem_cons_of_mem _ List.mem_cons_self)))) | with_reducible exact (List.mem_cons_of_mem _ (List.mem_cons_of_mem _ (List.mem_cons_of_mem _ (List.mem_cons_of_mem _ (List.mem_cons_of_mem _ List.mem_cons_self))))) | with_reducible exact (List.mem_cons_of_mem _ (List.mem_cons_of_mem _ (List.mem_cons_of_mem _ (List.mem_cons_of_mem _ (List.mem_cons_of_mem _ (List.mem_cons_of_mem _ List.mem_cons_self)))))) | with_reducible exact (List.mem_cons_of_mem _ (List.mem_cons_of_mem _ (List.mem_cons_of_mem _ (List.mem_cons_of_mem _ (List.mem_cons_of_mem _ (List.mem_cons_of_mem _ (List.mem_cons_of_mem _ List.mem_cons_self))))))) | with_reducible exact (List.mem_cons_of_mem _ (List.mem_cons_of_mem _ (List.mem_cons_of_mem _ (List.mem_cons_of_mem _ (List.mem_cons_of_mem _ (List.mem_cons_of_mem _ (List.mem_cons_of_mem _ (List.mem_cons_of_mem _ List.mem_cons_self)))))))) | with_reducible exact (List.mem_cons_of_mem _ (List.mem_cons_of_mem _ (List.mem_cons_of_mem _ (List.mem_cons_of_mem _ (List.mem_cons_of_mem _ (List.mem_cons_of_mem _ (List.mem_cons_of_mem _ (List.mem_cons_of_mem _ (List.mem_cons_of_mem _ List.mem_cons_self))))))))) | with_reducible exact (List.mem_cons_of_mem _ (List.mem_cons_of_mem _ (List.mem_cons_of_mem _ (List.mem_cons_of_mem _ (List.mem_cons_of_mem _ (List.mem_cons_of_mem _ (List.mem_cons_of_mem _ (List.mem_cons_of_mem _ (List.mem_cons_of_mem _ (List.mem_cons_of_mem _ List.mem_cons_self)))))))))) | with_reducible exact (List.mem_cons_of_mem _ (List.mem_cons_of_mem _ (List.mem_cons_of_mem _ (List.mem_cons_of_mem _ (List.mem_cons_of_mem _ (List.mem_cons_of_mem _ (List.mem_cons_of_mem _ (List.mem_cons_of_mem _ (List.mem_cons_of_mem _ (List.mem_cons_of_mem _ (List.mem_cons_of_mem _ List.mem_cons_self)))))))))))))
    go_wp2_with fail
    with_reducible refine Calls.mono (Q.out _) ?_
    rintro e x4 ⟨rfl, hb⟩
    replace hL0 := hL0.call hb
    replace h6 := Lib.hid (h6.out.below hb)
    clear hb Q hweq
    go_wp2_with fail
    with_reducible refine Calls.mono (RQ.out _ _ h6.out) ?_
    rintro e x5 ⟨v21, rfl, h21, hb⟩
    replace hL0 := hL0.call hb
    replace h6 := Lib.hid (h6.out.below hb)
    clear hb RQ
    replace h21 := Lib.hid h21
    go_wp2_with fail
    with_reducible refine Calls.mono (SMr.out _ _ (htab.below hL0.bl) h21.out) ?_
    rintro e x6 ⟨rfl, hb⟩
    replace hL0 := hL0.call hb
    replace h6 := Lib.hid (h6.out.below hb)
    clear hb SMr
    clear h21
    obtain ⟨p10, r10⟩ := hL0.get (x2.heap.size) a (by (first | with_reducible exact List.mem_cons_self | with_reducible exact (List.mem_cons_of_mem _ List.mem_cons_self) | with_reducible exact (List.mem_cons_of_mem _ (List.mem_cons_of_mem _ List.mem_cons_self)) | with_reducible exact (List.mem_cons_of_mem _ (List.mem_cons_of_mem _ (List.mem_cons_of_mem _ List.mem_cons_self))) | with_reducible exact (List.mem_cons_of_mem _ (List.mem_cons_of_mem _ (List.mem_cons_of_mem _ (List.mem_cons_of_mem _ List.mem_cons_self)))) | with_reducible exact (List.mem_cons_of_mem _ (List.mem_cons_of_mem _ (List.mem_cons_of_mem _ (List.mem_cons_of_mem _ (List.mem_cons_of_mem _ List.mem_cons_self))))) | with_reducible exact (List.mem_cons_of_mem _ (List.mem_cons_of_mem _ (List.mem_cons_of_mem _ (List.mem_cons_of_mem _ (List.mem_cons_of_mem _ (List.mem_cons_of_mem _ List.mem_cons_self)))))) | with_reducible exact (List.mem_cons_of_mem _ (List.mem_cons_of_mem _ (List.mem_cons_of_mem _ (List.mem_cons_of_mem _ (List.mem_cons_of_mem _ (List.mem_cons_of_mem _ (List.mem_cons_of_mem _ List.mem_cons_self))))))) | with_reducible exact (List.mem_cons_of_mem _ (List.mem_cons_of_mem _ (List.mem_cons_of_mem _ (List.mem_cons_of_mem _ (List.mem_cons_of_mem _ (List.mem_cons_of_mem _ (List.mem_cons_of_mem _ (List.mem_cons_of_mem _ List.mem_cons_self)))))))) | with_reducible exact (List.mem_cons_of_mem _ (List.mem_cons_of_mem _ (List.mem_cons_of_mem _ (List.mem_cons_of_mem _ (List.mem_cons_of_mem _ (List.mem_cons_of_mem _ (List.mem_cons_of_mem _ (List.mem_cons_of_mem _ (List.mem_cons_of_mem _ List.mem_cons_self))))))))) | with_reducible exact (List.mem_cons_of_mem _ (List.mem_cons_of_mem _ (List.mem_cons_of_mem _ (List.mem_cons_of_mem _ (List.mem_cons_of_mem _ (List.mem_cons_of_mem _ (List.mem_cons_of_mem _ (List.mem_cons_of_mem _ (List.mem_cons_of_mem _ (List.mem_cons_of_mem _ List.mem_cons_self)))))))))) | with_reducible exact (List.mem_cons_of_mem _ (List.mem_cons_of_mem _ (List.mem_cons_of_mem _ (List.mem_cons_of_mem _ (List.mem_cons_of_mem _ (List.mem_cons_of_mem _ (List.mem_cons_of_mem _ (List.mem_cons_of_mem _ (List.mem_cons_of_mem _ (List.mem_cons_of_mem _ (List.mem_cons_of_mem _ List.mem_cons_self)))))))))))))
    go_wp2_with fail
    with_reducible refine Calls.mono (BB.out _) ?_
    rintro e x7 ⟨rfl, hb⟩
    replace hL0 := hL0.call hb
    replace h6 := Lib.hid (h6.out.below hb)
    clear hb BB
    go_wp2_with fail
    with_reducible refine Calls.mono (RB.out _ _ h6.out) ?_
    rintro e x8 ⟨rfl, hb⟩
    replace hL0 := hL0.call hb
    replace h6 := Lib.hid (h6.out.below hb)
    clear hb
    go_wp2_with fail
    with_reducible refine Calls.mono (RB.out _ _ h6.out) ?_
    rintro e x9 ⟨rfl, hb⟩
    replace hL0 := hL0.call hb
    replace h6 := Lib.hid (h6.out.below hb)
    clear hb RB
    obtain ⟨p11, r11⟩ := hL0.get (x2.heap.size) a (by (first | with_reducible exact List.mem_cons_self | with_reducible exact (List.mem_cons_of_mem _ List.mem_cons_self) | with_reducible exact (List.mem_cons_of_mem _ (List.mem_cons_of_mem _ List.mem_cons_self)) | with_reducible exact (List.mem_cons_of_mem _ (List.mem_cons_of_mem _ (List.mem_cons_of_mem _ List.mem_cons_self))) | with_reducible exact (List.mem_cons_of_mem _ (List.mem_cons_of_mem _ (List.mem_cons_of_mem _ (List.mem_cons_of_mem _ List.mem_cons_self)))) | with_reducible exact (List.mem_cons_of_mem _ (List.mem_cons_of_mem _ (List.mem_cons_of_mem _ (List.mem_cons_of_mem _ (List.mem_cons_of_mem _ List.mem_cons_self))))) | with_reducible exact (List.mem_cons_of_mem _ (List.mem_cons_of_mem _ (List.mem_cons_of_mem _ (List.mem_cons_of_mem _ (List.mem_cons_of_mem _ (List.mem_cons_of_mem _ List.mem_cons_self)))))) | with_reducible exact (List.mem_cons_of_mem _ (List.mem_cons_of_mem _ (List.mem_cons_of_mem _ (List.mem_cons_of_mem _ (List.mem_cons_of_mem _ (List.mem_cons_of_mem _ (List.mem_cons_of_mem _ List.mem_cons_self))))))) | with_reducible exact (List.mem_cons_of_mem _ (List.mem_cons_of_mem _ (List.mem_cons_of_mem _ (List.mem_cons_of_mem _ (List.mem_cons_of_mem _ (List.mem_cons_of_mem _ (List.mem_cons_of_mem _ (List.mem_cons_of_mem _ List.mem_cons_self)))))))) | with_reducible exact (List.mem_cons_of_mem _ (List.mem_cons_of_mem _ (List.mem_cons_of_mem _ (List.mem_cons_of_mem _ (List.mem_cons_of_mem _ (List.mem_cons_of_mem _ (List.mem_cons_of_mem _ (List.mem_cons_of_mem _ (List.mem_cons_of_mem _ List.mem_cons_self))))))))) | with_reducible exact (List.mem_cons_of_mem _ (List.mem_cons_of_mem _ (List.mem_cons_of_mem _ (List.mem_cons_of_mem _ (List.mem_cons_of_mem _ (List.mem_cons_of_mem _ (List.mem_cons_of_mem _ (List.mem_cons_of_mem _ (List.mem_cons_of_mem _ (List.mem_cons_of_mem _ List.mem_cons_self)))))))))) | with_reducible exact (List.mem_cons_of_mem _ (List.mem_cons_of_mem _ (List.mem_cons_of_mem _ (List.mem_cons_of_mem _ (List.mem_cons_of_mem _ (List.mem_cons_of_mem _ (List.mem_cons_of_mem _ (List.mem_cons_of_mem _ (List.mem_cons_of_mem _ (List.mem_cons_of_mem _ (List.mem_cons_of_mem _ List.mem_cons_self)))))))))))))
    go_wp2_with fail
    with_reducible refine Calls.mono (P.out _) ?_
    rintro e x10 ⟨rfl, hb⟩
    replace hL0 := hL0.call hb
    replace h6 := Lib.hid (h6.out.below hb)
    clear hb P
    replace h6 := Lib.hid (h6.out.below (below1 _ (.cells #[.int .u64 ((lo 0 : Nat) : Int), .string (hs 0)] 26)))
    replace hL0 := (hL0.new rfl 0 26)
    generalize hweq : (x10.alloc (.cells #[.int .u64 ((lo 0 : Nat) : Int), .string (hs 0)] 26)) = x11 at hL0 h6
    have z1 : (((lo 0 : Nat) : Int) == 0) = true := by rw [lo_zero]; rfl
    have z2 : ((hs 0).toList == []) = true := by rw [hs_zero, ByteArray.toList_eq]; rfl
    obtain ⟨p12, r12⟩ := hL0.get (x10.heap.size) 0 (by (first | with_reducible exact List.mem_cons_self | with_reducible exact (List.mem_cons_of_mem _ List.mem_cons_self) | with_reducible exact (List.mem_cons_of_mem _ (List.mem_cons_of_mem _ List.mem_cons_self)) | with_reducible exact (List.mem_cons_of_mem _ (List.mem_cons_of_mem _ (List.mem_cons_of_mem _ List.mem_cons_self))) | with_reducible exact (List.mem_cons_of_mem _ (List.mem_cons_of_mem _ (List.mem_cons_of_mem _ (List.mem_cons_of_mem _ List.mem_cons_self)))) | with_reducible exact (List.mem_cons_of_mem _ (List.mem_cons_of_mem _ (List.mem_cons_of_mem _ (List.mem_cons_of_mem _ (List.mem_cons_of_mem _ List.mem_cons_self))))) | with_reducible exact (List.mem_cons_of_mem _ (List.mem_cons_of_mem _ (List.mem_cons_of_mem _ (List.mem_cons_of_mem _ (List.mem_cons_of_mem _ (List.mem_cons_of_mem _ List.mem_cons_self)))))) | with_reducible exact (List.mem_cons_of_mem _ (List.mem_cons_of_mem _ (List.mem_cons_of_mem _ (List.mem_cons_of_mem _ (List.mem_cons_of_mem _ (List.mem_cons_of_mem _ (List.mem_cons_of_mem _ List.mem_cons_self))))))) | with_reducible exact (List.mem_cons_of_mem _ (List.mem_cons_of_mem _ (List.mem_cons_of_mem _ (List.mem_cons_of_mem _ (List.mem_cons_of_mem _ (List.mem_cons_of_mem _ (List.mem_cons_of_mem _ (List.mem_cons_of_mem _ List.mem_cons_self)))))))) | with_reducible exact (List.mem_cons_of_mem _ (List.mem_cons_of_mem _ (List.mem_cons_of_mem _ (List.mem_cons_of_mem _ (List.mem_cons_of_mem _ (List.mem_cons_of_mem _ (List.mem_cons_of_mem _ (List.mem_cons_of_mem _ (List.mem_cons_of_mem _ List.mem_cons_self))))))))) | with_reducible exact (List.mem_cons_of_mem _ (List.mem_cons_of_mem _ (List.mem_cons_of_mem _ (List.mem_cons_of_mem _ (List.mem_cons_of_mem _ (List.mem_cons_of_mem _ (List.mem_cons_of_mem _ (List.mem_cons_of_mem _ (List.mem_cons_of_mem _ (List.mem_cons_of_mem _ List.mem_cons_self)))))))))) | with_reducible exact (List.mem_cons_of_mem _ (List.mem_cons_of_mem _ (List.mem_cons_of_mem _ (List.mem_cons_of_mem _ (List.mem_cons_of_mem _ (List.mem_cons_of_mem _ (List.mem_cons_of_mem _ (List.mem_cons_of_mem _ (List.mem_cons_of_mem _ (List.mem_cons_of_mem _ (List.mem_cons_of_mem _ List.mem_cons_self)))))))))))))
    go_wp2_with fail
    with_reducible refine Calls.mono (HW.out _ (htab.below hL0.bl)) ?_
    rintro e x12 ⟨rfl, hb⟩
    replace hL0 := hL0.call hb
    replace h6 := Lib.hid (h6.out.below hb)
    clear hb HW hweq
    go_wp2_with fail
    exact bodyPost_ret (v := .bool true) (by simp [results, Tryd.results5, go_sem]) rfl ⟨rfl, hL0.bl⟩
  · skip
    obtain ⟨z, hz⟩ : ∃ z, z = k * b := ⟨_, rfl⟩
    have hzb : z ≤ 3145728 := by rw [hz]; exact Nat.le_trans (Nat.mul_le_mul c2 nba) (by decide)
    have hzz : (k : Int) * (b : Int) = (z : Int) := by rw [hz]; rfl
    rw [← hz] at c3
    clear hz
    have hzb2 : (z : Int) ≤ 3145728 := by omega
    have dz2 : decide (262144 < z) = false := decide_eq_false (by omega)
    have dz : decide ((262144 : Int) < (z : Int)) = false := decide_eq_false (by omega)
    have bq00 : decide ((0 : Int) < (k : Int)) = true := decide_eq_true (by omega)
    have bq01 : decide (0 < k) = true := decide_eq_true (by omega)
    have bq10 : decide ((k : Int) ≤ (4096 : Int)) = true := decide_eq_true (by omega)
    have bq11 : decide (k ≤ 4096) = true := decide_eq_true (by omega)
    replace c1 := Lib.hid c1
    replace c2 := Lib.hid c2
    replace c3 := Lib.hid c3
    have bz2 : decide ((0 : Int) ≤ (k : Int)) = true := decide_eq_true (by omega)
    rcases c4 with c4 | ⟨c4, c5⟩
    · have d6 : decide ((20 : Int) < (k : Int)) = true := decide_eq_true (by omega)
      have d8 : decide (20 < k) = true := decide_eq_true (by omega)
      replace c4 := Lib.hid c4
      go_enter Tryd.func5, Tryd.ntmps5
      go_wp2_with fail
      with_reducible refine Calls.mono (MX.out _ (hx.out.below hL0.bl)) ?_
      rintro e x1 ⟨rfl, hb⟩
      replace hL0 := hL0.call hb
      clear hb MX
      go_wp2_with fail
      with_reducible refine Calls.mono (RX.out _ (hx.out.below hL0.bl)) ?_
      rintro e x2 ⟨v6, rfl, h6, hb⟩
      replace hL0 := hL0.call hb
      clear hb RX
      replace h6 := Lib.hid h6
      replace h6 := Lib.hid (h6.out.below (below1 _ (.cells #[.int .u64 ((lo a : Nat) : Int), .string (hs a)] 26)))
      replace hL0 := (hL0.new rfl a 26)
      generalize hweq : (x2.alloc (.cells #[.int .u64 ((lo a : Nat) : Int), .string (hs a)] 26)) = x3 at hL0 h6
      obtain ⟨p13, r13⟩ := hL0.get (x2.heap.size) a (by (first | with_reducible exact List.mem_cons_self | with_reducible exact (List.mem_cons_of_mem _ List.mem_cons_self) | with_reducible exact (List.mem_cons_of_mem _ (List.mem_cons_of_mem _ List.mem_cons_self)) | with_reducible exact (List.mem_cons_of_mem _ (List.mem_cons_of_mem _ (List.mem_cons_of_mem _ List.mem_cons_self))) | with_reducible exact (List.mem_cons_of_mem _ (List.mem_cons_of_mem _ (List.mem_cons_of_mem _ (List.mem_cons_of_mem _ List.mem_cons_self)))) | with_reducible exact (List.mem_cons_of_mem _ (List.mem_cons_of_mem _ (List.mem_cons_of_mem _ (List.mem_cons_of_mem _ (List.mem_cons_of_mem _ List.mem_cons_self))))) | with_reducible exact (List.mem_cons_of_mem _ (List.mem_cons_of_mem _ (List.mem_cons_of_mem _ (List.mem_cons_of_mem _ (List.mem_cons_of_mem _ (List.mem_cons_of_mem _ List.mem_cons_self)))))) | with_reducible exact (List.mem_cons_of_mem _ (List.mem_cons_of_mem _ (List.mem_cons_of_mem _ (List.mem_cons_of_mem _ (List.mem_cons_of_mem _ (List.mem_cons_of_mem _ (List.mem_cons_of_mem _ List.mem_cons_self))))))) | with_reducible exact (List.mem_cons_of_mem _ (List.mem_cons_of_mem _ (List.mem_cons_of_mem _ (List.mem_cons_of_mem _ (List.mem_cons_of_mem _ (List.mem_cons_of_mem _ (List.mem_cons_of_mem _ (List.mem_cons_of_mem _ List.mem_cons_self)))))))) | with_reducible exact (List.mem_cons_of_mem _ (List.mem_cons_of_mem _ (List.mem_cons_of_mem _ (List.mem_cons_of_mem _ (List.mem_cons_of_mem _ (List.mem_cons_of_mem _ (List.mem_cons_of_mem _ (List.mem_cons_of_mem _ (List.mem_cons_of_mem _ List.mem_cons_self))))))))) | with_reducible exact (List.mem_cons_of_mem _ (List.mem_cons_of_mem _ (List.mem_cons_of_mem _ (List.mem_cons_of_mem _ (List.mem_cons_of_mem _ (List.mem_cons_of_mem _ (List.mem_cons_of_mem _ (List.mem_cons_of_mem _ (List.mem_cons_of_mem _ (List.mem_cons_of_mem _ List.mem_cons_self)))))))))) | with_reducible exact (List.mem_cons_of_mem _ (List.mem_cons_of_mem _ (List.mem_cons_of_mem _ (List.mem_cons_of_mem _ (List.mem_cons_of_mem _ (List.mem_cons_of_mem _ (List.mem_cons_of_mem _ (List.mem_cons_of_mem _ (List.mem_cons_of_mem _ (List.mem_cons_of_mem _ (List.mem_cons_of_mem _ List.mem_cons_self)))))))))))))
      go_wp2_with fail
      with_reducible refine Calls.mono (Q.out _) ?_
      rintro e x4 ⟨rfl, hb⟩
      replace hL0 := hL0.call hb
      replace h6 := Lib.hid (h6.out.below hb)
      clear hb Q hweq
      go_wp2_with fail
      with_reducible refine Calls.mono (RQ.out _ _ h6.out) ?_
      rintro e x5 ⟨v21, rfl, h21, hb⟩
      replace hL0 := hL0.call hb
      replace h6 := Lib.hid (h6.out.below hb)
      clear hb RQ
      replace h21 := Lib.hid h21
      go_wp2_with fail
      with_reducible refine Calls.mono (SMr.out _ _ (htab.below hL0.bl) h21.out) ?_
      rintro e x6 ⟨rfl, hb⟩
      replace hL0 := hL0.call hb
      replace h6 := Lib.hid (h6.out.below hb)
      clear hb SMr
      clear h21
      obtain ⟨p14, r14⟩ := hL0.get (x2.heap.size) a (by (first | with_reducible exact List.mem_cons_self | with_reducible exact (List.mem_cons_of_mem _ List.mem_cons_self) | with_reducible exact (List.mem_cons_of_mem _ (List.mem_cons_of_mem _ List.mem_cons_self)) | with_reducible exact (List.mem_cons_of_mem _ (List.mem_cons_of_mem _ (List.mem_cons_of_mem _ List.mem_cons_self))) | with_reducible exact (List.mem_cons_of_mem _ (List.mem_cons_of_mem _ (List.mem_cons_of_mem _ (List.mem_cons_of_mem _ List.mem_cons_self)))) | with_reducible exact (List.mem_cons_of_mem _ (List.mem_cons_of_mem _ (List.mem_cons_of_mem _ (List.mem_cons_of_mem _ (List.mem_cons_of_mem _ List.mem_cons_self))))) | with_reducible exact (List.mem_cons_of_mem _ (List.mem_cons_of_mem _ (List.mem_cons_of_mem _ (List.mem_cons_of_mem _ (List.mem_cons_of_mem _ (List.mem_cons_of_mem _ List.mem_cons_self)))))) | with_reducible exact (List.mem_cons_of_mem _ (List.mem_cons_of_mem _ (List.mem_cons_of_mem _ (List.mem_cons_of_mem _ (List.mem_cons_of_mem _ (List.mem_cons_of_mem _ (List.mem_cons_of_mem _ List.mem_cons_self))))))) | with_reducible exact (List.mem_cons_of_mem _ (List.mem_cons_of_mem _ (List.mem_cons_of_mem _ (List.mem_cons_of_mem _ (List.mem_cons_of_mem _ (List.mem_cons_of_mem _ (List.mem_cons_of_mem _ (List.mem_cons_of_mem _ List.mem_cons_self)))))))) | with_reducible exact (List.mem_cons_of_mem _ (List.mem_cons_of_mem _ (List.mem_cons_of_mem _ (List.mem_cons_of_mem _ (List.mem_cons_of_mem _ (List.mem_cons_of_mem _ (List.mem_cons_of_mem _ (List.mem_cons_of_mem _ (List.mem_cons_of_mem _ List.mem_cons_self))))))))) | with_reducible exact (List.mem_cons_of_mem _ (List.mem_cons_of_mem _ (List.mem_cons_of_mem _ (List.mem_cons_of_mem _ (List.mem_cons_of_mem _ (List.mem_cons_of_mem _ (List.mem_cons_of_mem _ (List.mem_cons_of_mem _ (List.mem_cons_of_mem _ (List.mem_cons_of_mem _ List.mem_cons_self)))))))))) | with_reducible exact (List.mem_cons_of_mem _ (List.mem_cons_of_mem _ (List.mem_cons_of_mem _ (List.mem_cons_of_mem _ (List.mem_cons_of_mem _ (List.mem_cons_of_mem _ (List.mem_cons_of_mem _ (List.mem_cons_of_mem _ (List.mem_cons_of_mem _ (List.mem_cons_of_mem _ (List.mem_cons_of_mem _ List.mem_cons_self)))))))))))))
      go_wp2_with fail
      with_reducible refine Calls.mono (BB.out _) ?_
      rintro e x7 ⟨rfl, hb⟩
      replace hL0 := hL0.call hb
      replace h6 := Lib.hid (h6.out.below hb)
      clear hb BB
      go_wp2_with fail
      with_reducible refine Calls.mono (RB.out _ _ h6.out) ?_
      rintro e x8 ⟨rfl, hb⟩
      replace hL0 := hL0.call hb
      replace h6 := Lib.hid (h6.out.below hb)
      clear hb
      go_wp2_with fail
      with_reducible refine Calls.mono (RB.out _ _ h6.out) ?_
      rintro e x9 ⟨rfl, hb⟩
      replace hL0 := hL0.call hb
      replace h6 := Lib.hid (h6.out.below hb)
      clear hb RB
      go_wp2_with fail
      with_reducible refine Calls.mono (HW.out _ (htab.below hL0.bl)) ?_
      rintro e x10 ⟨rfl, hb⟩
      replace hL0 := hL0.call hb
      replace h6 := Lib.hid (h6.out.below hb)
      clear hb HW
      go_wp2_with fail
      exact bodyPost_ret (v := .bool true) (by simp [results, Tryd.results5, go_sem]) rfl ⟨rfl, hL0.bl⟩
    · have d6 : decide ((20 : Int) < (k : Int)) = false := decide_eq_false (by omega)
      have d8 : decide (20 < k) = false := decide_eq_false (by omega)
      have d7 : decide ((4 : Int) < (Nx : Int)) = true := decide_eq_true (by omega)
      have d9 : decide (4 < Nx) = true := decide_eq_true (by omega)
      replace c4 := Lib.hid c4
      replace c5 := Lib.hid c5
      go_enter Tryd.func5, Tryd.ntmps5
      go_wp2_with fail
      with_reducible refine Calls.mono (MX.out _ (hx.out.below hL0.bl)) ?_
      rintro e x1 ⟨rfl, hb⟩
      replace hL0 := hL0.call hb
      clear hb MX
      go_wp2_with fail
      with_reducible refine Calls.mono (RX.out _ (hx.out.below hL0.bl)) ?_
      rintro e x2 ⟨v6, rfl, h6, hb⟩
      replace hL0 := hL0.call hb
      clear hb RX
      replace h6 := Lib.hid h6
      replace h6 := Lib.hid (h6.out.below (below1 _ (.cells #[.int .u64 ((lo a : Nat) : Int), .string (hs a)] 26)))
      replace hL0 := (hL0.new rfl a 26)
      generalize hweq : (x2.alloc (.cells #[.int .u64 ((lo a : Nat) : Int), .string (hs a)] 26)) = x3 at hL0 h6
      obtain ⟨p15, r15⟩ := hL0.get (x2.heap.size) a (by (first | with_reducible exact List.mem_cons_self | with_reducible exact (List.mem_cons_of_mem _ List.mem_cons_self) | with_reducible exact (List.mem_cons_of_mem _ (List.mem_cons_of_mem _ List.mem_cons_self)) | with_reducible exact (List.mem_cons_of_mem _ (List.mem_cons_of_mem _ (List.mem_cons_of_mem _ List.mem_cons_self))) | with_reducible exact (List.mem_cons_of_mem _ (List.mem_cons_of_mem _ (List.mem_cons_of_mem _ (List.mem_cons_of_mem _ List.mem_cons_self)))) | with_reducible exact (List.mem_cons_of_mem _ (List.mem_cons_of_mem _ (List.mem_cons_of_mem _ (List.mem_cons_of_mem _ (List.mem_cons_of_mem _ List.mem_cons_self))))) | with_reducible exact (List.mem_cons_of_mem _ (List.mem_cons_of_mem _ (List.mem_cons_of_mem _ (List.mem_cons_of_mem _ (List.mem_cons_of_mem _ (List.mem_cons_of_mem _ List.mem_cons_self)))))) | with_reducible exact (List.mem_cons_of_mem _ (List.mem_cons_of_mem _ (List.mem_cons_of_mem _ (List.mem_cons_of_mem _ (List.mem_cons_of_mem _ (List.mem_cons_of_mem _ (List.mem_cons_of_mem _ List.mem_cons_self))))))) | with_reducible exact (List.mem_cons_of_mem _ (List.mem_cons_of_mem _ (List.mem_cons_of_mem _ (List.mem_cons_of_mem _ (List.mem_cons_of_mem _ (List.mem_cons_of_mem _ (List.mem_cons_of_mem _ (List.mem_cons_of_mem _ List.mem_cons_self)))))))) | with_reducible exact (List.mem_cons_of_mem _ (List.mem_cons_of_mem _ (List.mem_cons_of_mem _ (List.mem_cons_of_mem _ (List.mem_cons_of_mem _ (List.mem_cons_of_mem _ (List.mem_cons_of_mem _ (List.mem_cons_of_mem _ (List.mem_cons_of_mem _ List.mem_cons_self))))))))) | with_reducible exact (List.mem_cons_of_mem _ (List.mem_cons_of_mem _ (List.mem_cons_of_mem _ (List.mem_cons_of_mem _ (List.mem_cons_of_mem _ (List.mem_cons_of_mem _ (List.mem_cons_of_mem _ (List.mem_cons_of_mem _ (List.mem_cons_of_mem _ (List.mem_cons_of_mem _ List.mem_cons_self)))))))))) | with_reducible exact (List.mem_cons_of_mem _ (List.mem_cons_of_mem _ (List.mem_cons_of_mem _ (List.mem_cons_of_mem _ (List.mem_cons_of_mem _ (List.mem_cons_of_mem _ (List.mem_cons_of_mem _ (List.mem_cons_of_mem _ (List.mem_cons_of_mem _ (List.mem_cons_of_mem _ (List.mem_cons_of_mem _ List.mem_cons_self)))))))))))))
      go_wp2_with fail
      with_reducible refine Calls.mono (Q.out _) ?_
      rintro e x4 ⟨rfl, hb⟩
      replace hL0 := hL0.call hb
      replace h6 := Lib.hid (h6.out.below hb)
      clear hb Q hweq
      go_wp2_with fail
      with_reducible refine Calls.mono (RQ.out _ _ h6.out) ?_
      rintro e x5 ⟨v21, rfl, h21, hb⟩
      replace hL0 := hL0.call hb
      replace h6 := Lib.hid (h6.out.below hb)
      clear hb RQ
      replace h21 := Lib.hid h21
      go_wp2_with fail
      with_reducible refine Calls.mono (SMr.out _ _ (htab.below hL0.bl) h21.out) ?_
      rintro e x6 ⟨rfl, hb⟩
      replace hL0 := hL0.call hb
      replace h6 := Lib.hid (h6.out.below hb)
      clear hb SMr
      clear h21
      obtain ⟨p16, r16⟩ := hL0.get (x2.heap.size) a (by (first | with_reducible exact List.mem_cons_self | with_reducible exact (List.mem_cons_of_mem _ List.mem_cons_self) | with_reducible exact (List.mem_cons_of_mem _ (List.mem_cons_of_mem _ List.mem_cons_self)) | with_reducible exact (List.mem_cons_of_mem _ (List.mem_cons_of_mem _ (List.mem_cons_of_mem _ List.mem_cons_self))) | with_reducible exact (List.mem_cons_of_mem _ (List.mem_cons_of_mem _ (List.mem_cons_of_mem _ (List.mem_cons_of_mem _ List.mem_cons_self)))) | with_reducible exact (List.mem_cons_of_mem _ (List.mem_cons_of_mem _ (List.mem_cons_of_mem _ (List.mem_cons_of_mem _ (List.mem_cons_of_mem _ List.mem_cons_self))))) | with_reducible exact (List.mem_cons_of_mem _ (List.mem_cons_of_mem _ (List.mem_cons_of_mem _ (List.mem_cons_of_mem _ (List.mem_cons_of_mem _ (List.mem_cons_of_mem _ List.mem_cons_self)))))) | with_reducible exact (List.mem_cons_of_mem _ (List.mem_cons_of_mem _ (List.mem_cons_of_mem _ (List.mem_cons_of_mem _ (List.mem_cons_of_mem _ (List.mem_cons_of_mem _ (List.mem_cons_of_mem _ List.mem_cons_self))))))) | with_reducible exact (List.mem_cons_of_mem _ (List.mem_cons_of_mem _ (List.mem_cons_of_mem _ (List.mem_cons_of_mem _ (List.mem_cons_of_mem _ (List.mem_cons_of_mem _ (List.mem_cons_of_mem _ (List.mem_cons_of_mem _ List.mem_cons_self)))))))) | with_reducible exact (List.mem_cons_of_mem _ (List.mem_cons_of_mem _ (List.mem_cons_of_mem _ (List.mem_cons_of_mem _ (List.mem_cons_of_mem _ (List.mem_cons_of_mem _ (List.mem_cons_of_mem _ (List.mem_cons_of_mem _ (List.mem_cons_of_mem _ List.mem_cons_self))))))))) | with_reducible exact (List.mem_cons_of_mem _ (List.mem_cons_of_mem _ (List.mem_cons_of_mem _ (List.mem_cons_of_mem _ (List.mem_cons_of_mem _ (List.mem_cons_of_mem _ (List.mem_cons_of_mem _ (List.mem_cons_of_mem _ (List.mem_cons_of_mem _ (List.mem_cons_of_mem _ List.mem_cons_self)))))))))) | with_reducible exact (List.mem_cons_of_mem _ (List.mem_cons_of_mem _ (List.mem_cons_of_mem _ (List.mem_cons_of_mem _ (List.mem_cons_of_mem _ (List.mem_cons_of_mem _ (List.mem_cons_of_mem _ (List.mem_cons_of_mem _ (List.mem_cons_of_mem _ (List.mem_cons_of_mem _ (List.mem_cons_of_mem _ List.mem_cons_self)))))))))))))
      go_wp2_with fail
      with_reducible refine Calls.mono (BB.out _) ?_
      rintro e x7 ⟨rfl, hb⟩
      replace hL0 := hL0.call hb
      replace h6 := Lib.hid (h6.out.below hb)
      clear hb BB
      go_wp2_with fail
      with_reducible refine Calls.mono (RB.out _ _ h6.out) ?_
      rintro e x8 ⟨rfl, hb⟩
      replace hL0 := hL0.call hb
      replace h6 := Lib.hid (h6.out.below hb)
      clear hb
      go_wp2_with fail
      with_reducible refine Calls.mono (RB.out _ _ h6.out) ?_
      rintro e x9 ⟨rfl, hb⟩
      replace hL0 := hL0.call hb
      replace h6 := Lib.hid (h6.out.below hb)
      clear hb RB
      go_wp2_with fail
      with_reducible refine Calls.mono (HW.out _ (htab.below hL0.bl)) ?_
      rintro e x10 ⟨rfl, hb⟩
      replace hL0 := hL0.call hb
      replace h6 := Lib.hid (h6.out.below hb)
      clear hb HW
      go_wp2_with fail
      exact bodyPost_ret (v := .bool true) (by simp [results, Tryd.results5, go_sem]) rfl ⟨rfl, hL0.bl⟩
  · have P := fun w => POK.out k (by omega) (.inr ((Nat.le_div_iff_mul_le c1).2 (by rw [Nat.mul_comm]; omega))) w
    have RPk := fun v w hv => RP.out v k c2 w hv
    have SMk := fun v w ht hv => SMp.out k c2 c4 v w ht hv
    generalize a ^ k = p at *
    replace P := Lib.hid P
    replace RPk := Lib.hid RPk
    replace SMk := Lib.hid SMk
    clear SMp RP POK PO
    obtain ⟨z, hz⟩ : ∃ z, z = k * b := ⟨_, rfl⟩
    have hzb : z ≤ 3145728 := by rw [hz]; exact Nat.le_trans (Nat.mul_le_mul (show k ≤ 4096 by omega) nba) (by decide)
    have hzz : (k : Int) * (b : Int) = (z : Int) := by rw [hz]; rfl
    rw [← hz] at c3
    clear hz
    have hzb2 : (z : Int) ≤ 3145728 := by omega
    have dz2 : decide (262144 < z) = false := decide_eq_false (by omega)
    have dz : decide ((262144 : Int) < (z : Int)) = false := decide_eq_false (by omega)
    have d7 : decide ((4 : Int) < (Nx : Int)) = false := decide_eq_false (by omega)
    have d9 : decide (4 < Nx) = false := decide_eq_false (by omega)
    have bq00 : decide ((0 : Int) < (k : Int)) = true := decide_eq_true (by omega)
    have bq01 : decide (0 < k) = true := decide_eq_true (by omega)
    have bq10 : decide ((k : Int) ≤ (4096 : Int)) = true := decide_eq_true (by omega)
    have bq11 : decide (k ≤ 4096) = true := decide_eq_true (by omega)
    have bq20 : decide ((20 : Int) < (k : Int)) = false := decide_eq_false (by omega)
    have bq21 : decide (20 < k) = false := decide_eq_false (by omega)
    have bq30 : decide ((4096 : Int) < (k : Int)) = false := decide_eq_false (by omega)
    have bq31 : decide (4096 < k) = false := decide_eq_false (by omega)
    replace c1 := Lib.hid c1
    replace c2 := Lib.hid c2
    replace c3 := Lib.hid c3
    replace c4 := Lib.hid c4
    have bz : decide ((k : Int) < 0) = false := decide_eq_false (by omega)
    have bz2 : decide ((0 : Int) ≤ (k : Int)) = true := decide_eq_true (by omega)
    go_enter Tryd.func5, Tryd.ntmps5
    go_wp2_with fail
    with_reducible refine Calls.mono (MX.out _ (hx.out.below hL0.bl)) ?_
    rintro e x1 ⟨rfl, hb⟩
    replace hL0 := hL0.call hb
    clear hb MX
    go_wp2_with fail
    with_reducible refine Calls.mono (RX.out _ (hx.out.below hL0.bl)) ?_
    rintro e x2 ⟨v6, rfl, h6, hb⟩
    replace hL0 := hL0.call hb
    clear hb RX
    replace h6 := Lib.hid h6
    replace h6 := Lib.hid (h6.out.below (below1 _ (.cells #[.int .u64 ((lo a : Nat) : Int), .string (hs a)] 26)))
    replace hL0 := (hL0.new rfl a 26)
    generalize hweq : (x2.alloc (.cells #[.int .u64 ((lo a : Nat) : Int), .string (hs a)] 26)) = x3 at hL0 h6
    obtain ⟨p17, r17⟩ := hL0.get (x2.heap.size) a (by (first | with_reducible exact List.mem_cons_self | with_reducible exact (List.mem_cons_of_mem _ List.mem_cons_self) | with_reducible exact (List.mem_cons_of_mem _ (List.mem_cons_of_mem _ List.mem_cons_self)) | with_reducible exact (List.mem_cons_of_mem _ (List.mem_cons_of_mem _ (List.mem_cons_of_mem _ List.mem_cons_self))) | with_reducible exact (List.mem_cons_of_mem _ (List.mem_cons_of_mem _ (List.mem_cons_of_mem _ (List.mem_cons_of_mem _ List.mem_cons_self)))) | with_reducible exact (List.mem_cons_of_mem _ (List.mem_cons_of_mem _ (List.mem_cons_of_mem _ (List.mem_cons_of_mem _ (List.mem_cons_of_mem _ List.mem_cons_self))))) | with_reducible exact (List.mem_cons_of_mem _ (List.mem_cons_of_mem _ (List.mem_cons_of_mem _ (List.mem_cons_of_mem _ (List.mem_cons_of_mem _ (List.mem_cons_of_mem _ List.mem_cons_self)))))) | with_reducible exact (List.mem_cons_of_mem _ (List.mem_cons_of_mem _ (List.mem_cons_of_mem _ (List.mem_cons_of_mem _ (List.mem_cons_of_mem _ (List.mem_cons_of_mem _ (List.mem_cons_of_mem _ List.mem_cons_self))))))) | with_reducible exact (List.mem_cons_of_mem _ (List.mem_cons_of_mem _ (List.mem_cons_of_mem _ (List.mem_cons_of_mem _ (List.mem_cons_of_mem _ (List.mem_cons_of_mem _ (List.mem_cons_of_mem _ (List.mem_cons_of_mem _ List.mem_cons_self)))))))) | with_reducible exact (List.mem_cons_of_mem _ (List.mem_cons_of_mem _ (List.mem_cons_of_mem _ (List.mem_cons_of_mem _ (List.mem_cons_of_mem _ (List.mem_cons_of_mem _ (List.mem_cons_of_mem _ (List.mem_cons_of_mem _ (List.mem_cons_of_mem _ List.mem_cons_self))))))))) | with_reducible exact (List.mem_cons_of_mem _ (List.mem_cons_of_mem _ (List.mem_cons_of_mem _ (List.mem_cons_of_mem _ (List.mem_cons_of_mem _ (List.mem_cons_of_mem _ (List.mem_cons_of_mem _ (List.mem_cons_of_mem _ (List.mem_cons_of_mem _ (List.mem_cons_of_mem _ List.mem_cons_self)))))))))) | with_reducible exact (List.mem_cons_of_mem _ (List.mem_cons_of_mem _ (List.mem_cons_of_mem _ (List.mem_cons_of_mem _ (List.mem_cons_of_mem _ (List.mem_cons_of_mem _ (List.mem_cons_of_mem _ (List.mem_cons_of_mem _ (List.mem_cons_of_mem _ (List.mem_cons_of_mem _ (List.mem_cons_of_mem _ List.mem_cons_self)))))))))))))
    go_wp2_with fail
    with_reducible refine Calls.mono (Q.out _) ?_
    rintro e x4 ⟨rfl, hb⟩
    replace hL0 := hL0.call hb
    replace h6 := Lib.hid (h6.out.below hb)
    clear hb Q hweq
    go_wp2_with fail
    with_reducible refine Calls.mono (RQ.out _ _ h6.out) ?_
    rintro e x5 ⟨v21, rfl, h21, hb⟩
    replace hL0 := hL0.call hb
    replace h6 := Lib.hid (h6.out.below hb)
    clear hb RQ
    replace h21 := Lib.hid h21
    go_wp2_with fail
    with_reducible refine Calls.mono (SMr.out _ _ (htab.below hL0.bl) h21.out) ?_
    rintro e x6 ⟨rfl, hb⟩
    replace hL0 := hL0.call hb
    replace h6 := Lib.hid (h6.out.below hb)
    clear hb SMr
    clear h21
    obtain ⟨p18, r18⟩ := hL0.get (x2.heap.size) a (by (first | with_reducible exact List.mem_cons_self | with_reducible exact (List.mem_cons_of_mem _ List.mem_cons_self) | with_reducible exact (List.mem_cons_of_mem _ (List.mem_cons_of_mem _ List.mem_cons_self)) | with_reducible exact (List.mem_cons_of_mem _ (List.mem_cons_of_mem _ (List.mem_cons_of_mem _ List.mem_cons_self))) | with_reducible exact (List.mem_cons_of_mem _ (List.mem_cons_of_mem _ (List.mem_cons_of_mem _ (List.mem_cons_of_mem _ List.mem_cons_self)))) | with_reducible exact (List.mem_cons_of_mem _ (List.mem_cons_of_mem _ (List.mem_cons_of_mem _ (List.mem_cons_of_mem _ (List.mem_cons_of_mem _ List.mem_cons_self))))) | with_reducible exact (List.mem_cons_of_mem _ (List.mem_cons_of_mem _ (List.mem_cons_of_mem _ (List.mem_cons_of_mem _ (List.mem_cons_of_mem _ (List.mem_cons_of_mem _ List.mem_cons_self)))))) | with_reducible exact (List.mem_cons_of_mem _ (List.mem_cons_of_mem _ (List.mem_cons_of_mem _ (List.mem_cons_of_mem _ (List.mem_cons_of_mem _ (List.mem_cons_of_mem _ (List.mem_cons_of_mem _ List.mem_cons_self))))))) | with_reducible exact (List.mem_cons_of_mem _ (List.mem_cons_of_mem _ (List.mem_cons_of_mem _ (List.mem_cons_of_mem _ (List.mem_cons_of_mem _ (List.mem_cons_of_mem _ (List.mem_cons_of_mem _ (List.mem_cons_of_mem _ List.mem_cons_self)))))))) | with_reducible exact (List.mem_cons_of_mem _ (List.mem_cons_of_mem _ (List.mem_cons_of_mem _ (List.mem_cons_of_mem _ (List.mem_cons_of_mem _ (List.mem_cons_of_mem _ (List.mem_cons_of_mem _ (List.mem_cons_of_mem _ (List.mem_cons_of_mem _ List.mem_cons_self))))))))) | with_reducible exact (List.mem_cons_of_mem _ (List.mem_cons_of_mem _ (List.mem_cons_of_mem _ (List.mem_cons_of_mem _ (List.mem_cons_of_mem _ (List.mem_cons_of_mem _ (List.mem_cons_of_mem _ (List.mem_cons_of_mem _ (List.mem_cons_of_mem _ (List.mem_cons_of_mem _ List.mem_cons_self)))))))))) | with_reducible exact (List.mem_cons_of_mem _ (List.mem_cons_of_mem _ (List.mem_cons_of_mem _ (List.mem_cons_of_mem _ (List.mem_cons_of_mem _ (List.mem_cons_of_mem _ (List.mem_cons_of_mem _ (List.mem_cons_of_mem _ (List.mem_cons_of_mem _ (List.mem_cons_of_mem _ (List.mem_cons_of_mem _ List.mem_cons_self)))))))))))))
    go_wp2_with fail
    with_reducible refine Calls.mono (BB.out _) ?_
    rintro e x7 ⟨rfl, hb⟩
    replace hL0 := hL0.call hb
    replace h6 := Lib.hid (h6.out.below hb)
    clear hb BB
    go_wp2_with fail
    with_reducible refine Calls.mono (RB.out _ _ h6.out) ?_
    rintro e x8 ⟨rfl, hb⟩
    replace hL0 := hL0.call hb
    replace h6 := Lib.hid (h6.out.below hb)
    clear hb
    go_wp2_with fail
    with_reducible refine Calls.mono (RB.out _ _ h6.out) ?_
    rintro e x9 ⟨rfl, hb⟩
    replace hL0 := hL0.call hb
    replace h6 := Lib.hid (h6.out.below hb)
    clear hb RB
    obtain ⟨p19, r19⟩ := hL0.get (x2.heap.size) a (by (first | with_reducible exact List.mem_cons_self | with_reducible exact (List.mem_cons_of_mem _ List.mem_cons_self) | with_reducible exact (List.mem_cons_of_mem _ (List.mem_cons_of_mem _ List.mem_cons_self)) | with_reducible exact (List.mem_cons_of_mem _ (List.mem_cons_of_mem _ (List.mem_cons_of_mem _ List.mem_cons_self))) | with_reducible exact (List.mem_cons_of_mem _ (List.mem_cons_of_mem _ (List.mem_cons_of_mem _ (List.mem_cons_of_mem _ List.mem_cons_self)))) | with_reducible exact (List.mem_cons_of_mem _ (List.mem_cons_of_mem _ (List.mem_cons_of_mem _ (List.mem_cons_of_mem _ (List.mem_cons_of_mem _ List.mem_cons_self))))) | with_reducible exact (List.mem_cons_of_mem _ (List.mem_cons_of_mem _ (List.mem_cons_of_mem _ (List.mem_cons_of_mem _ (List.mem_cons_of_mem _ (List.mem_cons_of_mem _ List.mem_cons_self)))))) | with_reducible exact (List.mem_cons_of_mem _ (List.mem_cons_of_mem _ (List.mem_cons_of_mem _ (List.mem_cons_of_mem _ (List.mem_cons_of_mem _ (List.mem_cons_of_mem _ (List.mem_cons_of_mem _ List.mem_cons_self))))))) | with_reducible exact (List.mem_cons_of_mem _ (List.mem_cons_of_mem _ (List.mem_cons_of_mem _ (List.mem_cons_of_mem _ (List.mem_cons_of_mem _ (List.mem_cons_of_mem _ (List.mem_cons_of_mem _ (List.mem_cons_of_mem _ List.mem_cons_self)))))))) | with_reducible exact (List.mem_cons_of_mem _ (List.mem_cons_of_mem _ (List.mem_cons_of_mem _ (List.mem_cons_of_mem _ (List.mem_cons_of_mem _ (List.mem_cons_of_mem _ (List.mem_cons_of_mem _ (List.mem_cons_of_mem _ (List.mem_cons_of_mem _ List.mem_cons_self))))))))) | with_reducible exact (List.mem_cons_of_mem _ (List.mem_cons_of_mem _ (List.mem_cons_of_mem _ (List.mem_cons_of_mem _ (List.mem_cons_of_mem _ (List.mem_cons_of_mem _ (List.mem_cons_of_mem _ (List.mem_cons_of_mem _ (List.mem_cons_of_mem _ (List.mem_cons_of_mem _ List.mem_cons_self)))))))))) | with_reducible exact (List.mem_cons_of_mem _ (List.mem_cons_of_mem _ (List.mem_cons_of_mem _ (List.mem_cons_of_mem _ (List.mem_cons_of_mem _ (List.mem_cons_of_mem _ (List.mem_cons_of_mem _ (List.mem_cons_of_mem _ (List.mem_cons_of_mem _ (List.mem_cons_of_mem _ (List.mem_cons_of_mem _ List.mem_cons_self)))))))))))))
    go_wp2_with fail
    with_reducible refine Calls.mono (P.out _) ?_
    rintro e x10 ⟨rfl, hb⟩
    replace hL0 := hL0.call hb
    replace h6 := Lib.hid (h6.out.below hb)
    clear hb P
    replace h6 := Lib.hid (h6.out.below (below1 _ (.cells #[.int .u64 ((lo p : Nat) : Int), .string (hs p)] 26)))
    replace hL0 := (hL0.new rfl p 26)
    generalize hweq : (x10.alloc (.cells #[.int .u64 ((lo p : Nat) : Int), .string (hs p)] 26)) = x11 at hL0 h6
    go_upto_region 14 with fail
    clear hweq
    have c0 := (hL0.get (x10.heap.size) p (by (first | with_reducible exact List.mem_cons_self | with_reducible exact (List.mem_cons_of_mem _ List.mem_cons_self) | with_reducible exact (List.mem_cons_of_mem _ (List.mem_cons_of_mem _ List.mem_cons_self)) | with_reducible exact (List.mem_cons_of_mem _ (List.mem_cons_of_mem _ (List.mem_cons_of_mem _ List.mem_cons_self))) | with_reducible exact (List.mem_cons_of_mem _ (List.mem_cons_of_mem _ (List.mem_cons_of_mem _ (List.mem_cons_of_mem _ List.mem_cons_self)))) | with_reducible exact (List.mem_cons_of_mem _ (List.mem_cons_of_mem _ (List.mem_cons_of_mem _ (List.mem_cons_of_mem _ (List.mem_cons_of_mem _ List.mem_cons_self))))) | with_reducible exact (List.mem_cons_of_mem _ (List.mem_cons_of_mem _ (List.mem_cons_of_mem _ (List.mem_cons_of_mem _ (List.mem_cons_of_mem _ (List.mem_cons_of_mem _ List.mem_cons_self)))))) | with_reducible exact (List.mem_cons_of_mem _ (List.mem_cons_of_mem _ (List.mem_cons_of_mem _ (List.mem_cons_of_mem _ (List.mem_cons_of_mem _ (List.mem_cons_of_mem _ (List.mem_cons_of_mem _ List.mem_cons_self))))))) | with_reducible exact (List.mem_cons_of_mem _ (List.mem_cons_of_mem _ (List.mem_cons_of_mem _ (List.mem_cons_of_mem _ (List.mem_cons_of_mem _ (List.mem_cons_of_mem _ (List.mem_cons_of_mem _ (List.mem_cons_of_mem _ List.mem_cons_self)))))))) | with_reducible exact (List.mem_cons_of_mem _ (List.mem_cons_of_mem _ (List.mem_cons_of_mem _ (List.mem_cons_of_mem _ (List.mem_cons_of_mem _ (List.mem_cons_of_mem _ (List.mem_cons_of_mem _ (List.mem_cons_of_mem _ (List.mem_cons_of_mem _ List.mem_cons_self))))))))) | with_reducible exact (List.mem_cons_of_mem _ (List.mem_cons_of_mem _ (List.mem_cons_of_mem _ (List.mem_cons_of_mem _ (List.mem_cons_of_mem _ (List.mem_cons_of_mem _ (List.mem_cons_of_mem _ (List.mem_cons_of_mem _ (List.mem_cons_of_mem _ (List.mem_cons_of_mem _ List.mem_cons_self)))))))))) | with_reducible exact (List.mem_cons_of_mem _ (List.mem_cons_of_mem _ (List.mem_cons_of_mem _ (List.mem_cons_of_mem _ (List.mem_cons_of_mem _ (List.mem_cons_of_mem _ (List.mem_cons_of_mem _ (List.mem_cons_of_mem _ (List.mem_cons_of_mem _ (List.mem_cons_of_mem _ (List.mem_cons_of_mem _ List.mem_cons_self)))))))))))))).1
    have e1 := (hL0.get (x10.heap.size) p (by (first | with_reducible exact List.mem_cons_self | with_reducible exact (List.mem_cons_of_mem _ List.mem_cons_self) | with_reducible exact (List.mem_cons_of_mem _ (List.mem_cons_of_mem _ List.mem_cons_self)) | with_reducible exact (List.mem_cons_of_mem _ (List.mem_cons_of_mem _ (List.mem_cons_of_mem _ List.mem_cons_self))) | with_reducible exact (List.mem_cons_of_mem _ (List.mem_cons_of_mem _ (List.mem_cons_of_mem _ (List.mem_cons_of_mem _ List.mem_cons_self)))) | with_reducible exact (List.mem_cons_of_mem _ (List.mem_cons_of_mem _ (List.mem_cons_of_mem _ (List.mem_cons_of_mem _ (List.mem_cons_of_mem _ List.mem_cons_self))))) | with_reducible exact (List.mem_cons_of_mem _ (List.mem_cons_of_mem _ (List.mem_cons_of_mem _ (List.mem_cons_of_mem _ (List.mem_cons_of_mem _ (List.mem_cons_of_mem _ List.mem_cons_self)))))) | with_reducible exact (List.mem_cons_of_mem _ (List.mem_cons_of_mem _ (List.mem_cons_of_mem _ (List.mem_cons_of_mem _ (List.mem_cons_of_mem _ (List.mem_cons_of_mem _ (List.mem_cons_of_mem _ List.mem_cons_self))))))) | with_reducible exact (List.mem_cons_of_mem _ (List.mem_cons_of_mem _ (List.mem_cons_of_mem _ (List.mem_cons_of_mem _ (List.mem_cons_of_mem _ (List.mem_cons_of_mem _ (List.mem_cons_of_mem _ (List.mem_cons_of_mem _ List.mem_cons_self)))))))) | with_reducible exact (List.mem_cons_of_mem _ (List.mem_cons_of_mem _ (List.mem_cons_of_mem _ (List.mem_cons_of_mem _ (List.mem_cons_of_mem _ (List.mem_cons_of_mem _ (List.mem_cons_of_mem _ (List.mem_cons_of_mem _ (List.mem_cons_of_mem _ List.mem_cons_self))))))))) | with_reducible exact (List.mem_cons_of_mem _ (List.mem_cons_of_mem _ (List.mem_cons_of_mem _ (List.mem_cons_of_mem _ (List.mem_cons_of_mem _ (List.mem_cons_of_mem _ (List.mem_cons_of_mem _ (List.mem_cons_of_mem _ (List.mem_cons_of_mem _ (List.mem_cons_of_mem _ List.mem_cons_self)))))))))) | with_reducible exact (List.mem_cons_of_mem _ (List.mem_cons_of_mem _ (List.mem_cons_of_mem _ (List.mem_cons_of_mem _ (List.mem_cons_of_mem _ (List.mem_cons_of_mem _ (List.mem_cons_of_mem _ (List.mem_cons_of_mem _ (List.mem_cons_of_mem _ (List.mem_cons_of_mem _ (List.mem_cons_of_mem _ List.mem_cons_self)))))))))))))).2
    have hkb : x10.heap.size < x11.drew.heap.size := (hL0.all (x10.heap.size, p) (by (first | with_reducible exact List.mem_cons_self | with_reducible exact (List.mem_cons_of_mem _ List.mem_cons_self) | with_reducible exact (List.mem_cons_of_mem _ (List.mem_cons_of_mem _ List.mem_cons_self)) | with_reducible exact (List.mem_cons_of_mem _ (List.mem_cons_of_mem _ (List.mem_cons_of_mem _ List.mem_cons_self))) | with_reducible exact (List.mem_cons_of_mem _ (List.mem_cons_of_mem _ (List.mem_cons_of_mem _ (List.mem_cons_of_mem _ List.mem_cons_self)))) | with_reducible exact (List.mem_cons_of_mem _ (List.mem_cons_of_mem _ (List.mem_cons_of_mem _ (List.mem_cons_of_mem _ (List.mem_cons_of_mem _ List.mem_cons_self))))) | with_reducible exact (List.mem_cons_of_mem _ (List.mem_cons_of_mem _ (List.mem_cons_of_mem _ (List.mem_cons_of_mem _ (List.mem_cons_of_mem _ (List.mem_cons_of_mem _ List.mem_cons_self)))))) | with_reducible exact (List.mem_cons_of_mem _ (List.mem_cons_of_mem _ (List.mem_cons_of_mem _ (List.mem_cons_of_mem _ (List.mem_cons_of_mem _ (List.mem_cons_of_mem _ (List.mem_cons_of_mem _ List.mem_cons_self))))))) | with_reducible exact (List.mem_cons_of_mem _ (List.mem_cons_of_mem _ (List.mem_cons_of_mem _ (List.mem_cons_of_mem _ (List.mem_cons_of_mem _ (List.mem_cons_of_mem _ (List.mem_cons_of_mem _ (List.mem_cons_of_mem _ List.mem_cons_self)))))))) | with_reducible exact (List.mem_cons_of_mem _ (List.mem_cons_of_mem _ (List.mem_cons_of_mem _ (List.mem_cons_of_mem _ (List.mem_cons_of_mem _ (List.mem_cons_of_mem _ (List.mem_cons_of_mem _ (List.mem_cons_of_mem _ (List.mem_cons_of_mem _ List.mem_cons_self))))))))) | with_reducible exact (List.mem_cons_of_mem _ (List.mem_cons_of_mem _ (List.mem_cons_of_mem _ (List.mem_cons_of_mem _ (List.mem_cons_of_mem _ (List.mem_cons_of_mem _ (List.mem_cons_of_mem _ (List.mem_cons_of_mem _ (List.mem_cons_of_mem _ (List.mem_cons_of_mem _ List.mem_cons_self)))))))))) | with_reducible exact (List.mem_cons_of_mem _ (List.mem_cons_of_mem _ (List.mem_cons_of_mem _ (List.mem_cons_of_mem _ (List.mem_cons_of_mem _ (List.mem_cons_of_mem _ (List.mem_cons_of_mem _ (List.mem_cons_of_mem _ (List.mem_cons_of_mem _ (List.mem_cons_of_mem _ (List.mem_cons_of_mem _ List.mem_cons_self)))))))))))))).2.lt
    replace c0 : x11.drew.cell? ⟨x10.heap.size, 0, none⟩ = _ := c0
    replace e1 : x11.drew.cell? ⟨x10.heap.size, 1, none⟩ = _ := e1
    have r6 := Lib.hid h6.out.drew
    have t0 := (htab.below hL0.bl.drew)
    go_region_held3 (fun w' => w'.cell? ⟨x10.heap.size, 0, none⟩ = some (.int .u64 ((lo p : Nat) : Int)) ∧ w'.cell? ⟨x10.heap.size, 1, none⟩ = some (.string (hs p)))
      (first | exact ⟨c0, e1⟩ | exact ⟨c0a, e1a⟩ | exact ⟨c0b, e1b⟩ | exact ⟨c0c, e1c⟩)
      (first
        | (go_at_call 32; ((with_reducible refine Calls.mono (RPk.out _ _ r6.out) ?_); rintro e w1 ⟨v88, rfl, h88, hb1⟩; have c0a := (hb1.cell (p := ⟨x10.heap.size, 0, none⟩) hkb).trans c0; have e1a := (hb1.cell (p := ⟨x10.heap.size, 1, none⟩) hkb).trans e1; replace h88 := Lib.hid h88))
        | (go_at_call 16; ((with_reducible refine Calls.mono (SMk.out _ _ (t0.below hb1) h88.out) ?_); rintro e w2 ⟨rfl, hb2⟩; have c0b := (hb2.cell (p := ⟨x10.heap.size, 0, none⟩) (Nat.lt_of_lt_of_le hkb hb1.size)).trans c0a; have e1b := (hb2.cell (p := ⟨x10.heap.size, 1, none⟩) (Nat.lt_of_lt_of_le hkb hb1.size)).trans e1a))
        | (go_at_call 11; ((with_reducible refine Calls.mono (works_any _ ((t0.below hb1).below hb2)) ?_); rintro e w3 ⟨rfl, hb3⟩; have c0c := (hb3.cell (p := ⟨x10.heap.size, 0, none⟩) (Nat.lt_of_lt_of_le hkb (Nat.le_trans hb1.size hb2.size))).trans c0b; have e1c := (hb3.cell (p := ⟨x10.heap.size, 1, none⟩) (Nat.lt_of_lt_of_le hkb (Nat.le_trans hb1.size hb2.size))).trans e1b)))
    have hB := ((hL0.bl.drew.trans (hb1.mono hL0.bl.size)).trans (hb2.mono (Nat.le_trans hL0.bl.size hb1.size))).trans (hb3.mono (Nat.le_trans hL0.bl.size (Nat.le_trans hb1.size hb2.size)))
    go_wp2_with fail
    exact bodyPost_ret (v := .bool true) (by simp [results, Tryd.results5, go_sem]) rfl ⟨rfl, hB⟩
  · have d7 : decide ((4 : Int) < (Nx : Int)) = true := decide_eq_true (by omega)
    have d9 : decide (4 < Nx) = true := decide_eq_true (by omega)
    replace c4 := Lib.hid c4
    go_enter Tryd.func5, Tryd.ntmps5
    go_wp2_with fail
    with_reducible refine Calls.mono (MX.out _ (hx.out.below hL0.bl)) ?_
    rintro e x1 ⟨rfl, hb⟩
    replace hL0 := hL0.call hb
    clear hb MX
    go_wp2_with fail
    with_reducible refine Calls.mono (RX.out _ (hx.out.below hL0.bl)) ?_
    rintro e x2 ⟨v6, rfl, h6, hb⟩
    replace hL0 := hL0.call hb
    clear hb RX
    replace h6 := Lib.hid h6
    replace h6 := Lib.hid (h6.out.below (below1 _ (.cells #[.int .u64 ((lo a : Nat) : Int), .string (hs a)] 26)))
    replace hL0 := (hL0.new rfl a 26)
    generalize hweq : (x2.alloc (.cells #[.int .u64 ((lo a : Nat) : Int), .string (hs a)] 26)) = x3 at hL0 h6
    obtain ⟨p20, r20⟩ := hL0.get (x2.heap.size) a (by (first | with_reducible exact List.mem_cons_self | with_reducible exact (List.mem_cons_of_mem _ List.mem_cons_self) | with_reducible exact (List.mem_cons_of_mem _ (List.mem_cons_of_mem _ List.mem_cons_self)) | with_reducible exact (List.mem_cons_of_mem _ (List.mem_cons_of_mem _ (List.mem_cons_of_mem _ List.mem_cons_self))) | with_reducible exact (List.mem_cons_of_mem _ (List.mem_cons_of_mem _ (List.mem_cons_of_mem _ (List.mem_cons_of_mem _ List.mem_cons_self)))) | with_reducible exact (List.mem_cons_of_mem _ (List.mem_cons_of_mem _ (List.mem_cons_of_mem _ (List.mem_cons_of_mem _ (List.mem_cons_of_mem _ List.mem_cons_self))))) | with_reducible exact (List.mem_cons_of_mem _ (List.mem_cons_of_mem _ (List.mem_cons_of_mem _ (List.mem_cons_of_mem _ (List.mem_cons_of_mem _ (List.mem_cons_of_mem _ List.mem_cons_self)))))) | with_reducible exact (List.mem_cons_of_mem _ (List.mem_cons_of_mem _ (List.mem_cons_of_mem _ (List.mem_cons_of_mem _ (List.mem_cons_of_mem _ (List.mem_cons_of_mem _ (List.mem_cons_of_mem _ List.mem_cons_self))))))) | with_reducible exact (List.mem_cons_of_mem _ (List.mem_cons_of_mem _ (List.mem_cons_of_mem _ (List.mem_cons_of_mem _ (List.mem_cons_of_mem _ (List.mem_cons_of_mem _ (List.mem_cons_of_mem _ (List.mem_cons_of_mem _ List.mem_cons_self)))))))) | with_reducible exact (List.mem_cons_of_mem _ (List.mem_cons_of_mem _ (List.mem_cons_of_mem _ (List.mem_cons_of_mem _ (List.mem_cons_of_mem _ (List.mem_cons_of_mem _ (List.mem_cons_of_mem _ (List.mem_cons_of_mem _ (List.mem_cons_of_mem _ List.mem_cons_self))))))))) | with_reducible exact (List.mem_cons_of_mem _ (List.mem_cons_of_mem _ (List.mem_cons_of_mem _ (List.mem_cons_of_mem _ (List.mem_cons_of_mem _ (List.mem_cons_of_mem _ (List.mem_cons_of_mem _ (List.mem_cons_of_mem _ (List.mem_cons_of_mem _ (List.mem_cons_of_mem _ List.mem_cons_self)))))))))) | with_reducible exact (List.mem_cons_of_mem _ (List.mem_cons_of_mem _ (List.mem_cons_of_mem _ (List.mem_cons_of_mem _ (List.mem_cons_of_mem _ (List.mem_cons_of_mem _ (List.mem_cons_of_mem _ (List.mem_cons_of_mem _ (List.mem_cons_of_mem _ (List.mem_cons_of_mem _ (List.mem_cons_of_mem _ List.mem_cons_self)))))))))))))
    go_wp2_with fail
    with_reducible refine Calls.mono (Q.out _) ?_
    rintro e x4 ⟨rfl, hb⟩
    replace hL0 := hL0.call hb
    replace h6 := Lib.hid (h6.out.below hb)
    clear hb Q hweq
    go_wp2_with fail
    with_reducible refine Calls.mono (RQ.out _ _ h6.out) ?_
    rintro e x5 ⟨v21, rfl, h21, hb⟩
    replace hL0 := hL0.call hb
    replace h6 := Lib.hid (h6.out.below hb)
    clear hb RQ
    replace h21 := Lib.hid h21
    go_wp2_with fail
    with_reducible refine Calls.mono (SMr.out _ _ (htab.below hL0.bl) h21.out) ?_
    rintro e x6 ⟨rfl, hb⟩
    replace hL0 := hL0.call hb
    replace h6 := Lib.hid (h6.out.below hb)
    clear hb SMr
    clear h21
    obtain ⟨p21, r21⟩ := hL0.get (x2.heap.size) a (by (first | with_reducible exact List.mem_cons_self | with_reducible exact (List.mem_cons_of_mem _ List.mem_cons_self) | with_reducible exact (List.mem_cons_of_mem _ (List.mem_cons_of_mem _ List.mem_cons_self)) | with_reducible exact (List.mem_cons_of_mem _ (List.mem_cons_of_mem _ (List.mem_cons_of_mem _ List.mem_cons_self))) | with_reducible exact (List.mem_cons_of_mem _ (List.mem_cons_of_mem _ (List.mem_cons_of_mem _ (List.mem_cons_of_mem _ List.mem_cons_self)))) | with_reducible exact (List.mem_cons_of_mem _ (List.mem_cons_of_mem _ (List.mem_cons_of_mem _ (List.mem_cons_of_mem _ (List.mem_cons_of_mem _ List.mem_cons_self))))) | with_reducible exact (List.mem_cons_of_mem _ (List.mem_cons_of_mem _ (List.mem_cons_of_mem _ (List.mem_cons_of_mem _ (List.mem_cons_of_mem _ (List.mem_cons_of_mem _ List.mem_cons_self)))))) | with_reducible exact (List.mem_cons_of_mem _ (List.mem_cons_of_mem _ (List.mem_cons_of_mem _ (List.mem_cons_of_mem _ (List.mem_cons_of_mem _ (List.mem_cons_of_mem _ (List.mem_cons_of_mem _ List.mem_cons_self))))))) | with_reducible exact (List.mem_cons_of_mem _ (List.mem_cons_of_mem _ (List.mem_cons_of_mem _ (List.mem_cons_of_mem _ (List.mem_cons_of_mem _ (List.mem_cons_of_mem _ (List.mem_cons_of_mem _ (List.mem_cons_of_mem _ List.mem_cons_self)))))))) | with_reducible exact (List.mem_cons_of_mem _ (List.mem_cons_of_mem _ (List.mem_cons_of_mem _ (List.mem_cons_of_mem _ (List.mem_cons_of_mem _ (List.mem_cons_of_mem _ (List.mem_cons_of_mem _ (List.mem_cons_of_mem _ (List.mem_cons_of_mem _ List.mem_cons_self))))))))) | with_reducible exact (List.mem_cons_of_mem _ (List.mem_cons_of_mem _ (List.mem_cons_of_mem _ (List.mem_cons_of_mem _ (List.mem_cons_of_mem _ (List.mem_cons_of_mem _ (List.mem_cons_of_mem _ (List.mem_cons_of_mem _ (List.mem_cons_of_mem _ (List.mem_cons_of_mem _ List.mem_cons_self)))))))))) | with_reducible exact (List.mem_cons_of_mem _ (List.mem_cons_of_mem _ (List.mem_cons_of_mem _ (List.mem_cons_of_mem _ (List.mem_cons_of_mem _ (List.mem_cons_of_mem _ (List.mem_cons_of_mem _ (List.mem_cons_of_mem _ (List.mem_cons_of_mem _ (List.mem_cons_of_mem _ (List.mem_cons_of_mem _ List.mem_cons_self)))))))))))))
    go_wp2_with fail
    with_reducible refine Calls.mono (BB.out _) ?_
    rintro e x7 ⟨rfl, hb⟩
    replace hL0 := hL0.call hb
    replace h6 := Lib.hid (h6.out.below hb)
    clear hb BB
    go_wp2_with fail
    with_reducible refine Calls.mono (RB.out _ _ h6.out) ?_
    rintro e x8 ⟨rfl, hb⟩
    replace hL0 := hL0.call hb
    replace h6 := Lib.hid (h6.out.below hb)
    clear hb
    go_wp2_with fail
    with_reducible refine Calls.mono (HW.out _ (htab.below hL0.bl)) ?_
    rintro e x9 ⟨rfl, hb⟩
    replace hL0 := hL0.call hb
    replace h6 := Lib.hid (h6.out.below hb)
    clear hb HW
    go_wp2_with fail
    exact bodyPost_ret (v := .bool true) (by simp [results, Tryd.results5, go_sem]) rfl ⟨rfl, hL0.bl⟩
  · have P := fun w => POK.out 0 (by omega) (.inl rfl) w
    have RPk := fun v w hv => RP.out v 0 (by omega) w hv
    have SMk := fun v w ht hv => SMp.out 0 (by omega) c4 v w ht hv
    generalize a ^ 0 = p at *
    replace P := Lib.hid P
    replace RPk := Lib.hid RPk
    replace SMk := Lib.hid SMk
    clear SMp RP POK PO
    have d7 : decide ((4 : Int) < (Nx : Int)) = false := decide_eq_false (by omega)
    have d9 : decide (4 < Nx) = false := decide_eq_false (by omega)
    replace c4 := Lib.hid c4
    go_enter Tryd.func5, Tryd.ntmps5
    go_wp2_with fail
    with_reducible refine Calls.mono (MX.out _ (hx.out.below hL0.bl)) ?_
    rintro e x1 ⟨rfl, hb⟩
    replace hL0 := hL0.call hb
    clear hb MX
    go_wp2_with fail
    with_reducible refine Calls.mono (RX.out _ (hx.out.below hL0.bl)) ?_
    rintro e x2 ⟨v6, rfl, h6, hb⟩
    replace hL0 := hL0.call hb
    clear hb RX
    replace h6 := Lib.hid h6
    replace h6 := Lib.hid (h6.out.below (below1 _ (.cells #[.int .u64 ((lo a : Nat) : Int), .string (hs a)] 26)))
    replace hL0 := (hL0.new rfl a 26)
    generalize hweq : (x2.alloc (.cells #[.int .u64 ((lo a : Nat) : Int), .string (hs a)] 26)) = x3 at hL0 h6
    obtain ⟨p22, r22⟩ := hL0.get (x2.heap.size) a (by (first | with_reducible exact List.mem_cons_self | with_reducible exact (List.mem_cons_of_mem _ List.mem_cons_self) | with_reducible exact (List.mem_cons_of_mem _ (List.mem_cons_of_mem _ List.mem_cons_self)) | with_reducible exact (List.mem_cons_of_mem _ (List.mem_cons_of_mem _ (List.mem_cons_of_mem _ List.mem_cons_self))) | with_reducible exact (List.mem_cons_of_mem _ (List.mem_cons_of_mem _ (List.mem_cons_of_mem _ (List.mem_cons_of_mem _ List.mem_cons_self)))) | with_reducible exact (List.mem_cons_of_mem _ (List.mem_cons_of_mem _ (List.mem_cons_of_mem _ (List.mem_cons_of_mem _ (List.mem_cons_of_mem _ List.mem_cons_self))))) | with_reducible exact (List.mem_cons_of_mem _ (List.mem_cons_of_mem _ (List.mem_cons_of_mem _ (List.mem_cons_of_mem _ (List.mem_cons_of_mem _ (List.mem_cons_of_mem _ List.mem_cons_self)))))) | with_reducible exact (List.mem_cons_of_mem _ (List.mem_cons_of_mem _ (List.mem_cons_of_mem _ (List.mem_cons_of_mem _ (List.mem_cons_of_mem _ (List.mem_cons_of_mem _ (List.mem_cons_of_mem _ List.mem_cons_self))))))) | with_reducible exact (List.mem_cons_of_mem _ (List.mem_cons_of_mem _ (List.mem_cons_of_mem _ (List.mem_cons_of_mem _ (List.mem_cons_of_mem _ (List.mem_cons_of_mem _ (List.mem_cons_of_mem _ (List.mem_cons_of_mem _ List.mem_cons_self)))))))) | with_reducible exact (List.mem_cons_of_mem _ (List.mem_cons_of_mem _ (List.mem_cons_of_mem _ (List.mem_cons_of_mem _ (List.mem_cons_of_mem _ (List.mem_cons_of_mem _ (List.mem_cons_of_mem _ (List.mem_cons_of_mem _ (List.mem_cons_of_mem _ List.mem_cons_self))))))))) | with_reducible exact (List.mem_cons_of_mem _ (List.mem_cons_of_mem _ (List.mem_cons_of_mem _ (List.mem_cons_of_mem _ (List.mem_cons_of_mem _ (List.mem_cons_of_mem _ (List.mem_cons_of_mem _ (List.mem_cons_of_mem _ (List.mem_cons_of_mem _ (List.mem_cons_of_mem _ List.mem_cons_self)))))))))) | with_reducible exact (List.mem_cons_of_mem _ (List.mem_cons_of_mem _ (List.mem_cons_of_mem _ (List.mem_cons_of_mem _ (List.mem_cons_of_mem _ (List.mem_cons_of_mem _ (List.mem_cons_of_mem _ (List.mem_cons_of_mem _ (List.mem_cons_of_mem _ (List.mem_cons_of_mem _ (List.mem_cons_of_mem _ List.mem_cons_self)))))))))))))
    go_wp2_with fail
    with_reducible refine Calls.mono (Q.out _) ?_
    rintro e x4 ⟨rfl, hb⟩
    replace hL0 := hL0.call hb
    replace h6 := Lib.hid (h6.out.below hb)
    clear hb Q hweq
    go_wp2_with fail
    with_reducible refine Calls.mono (RQ.out _ _ h6.out) ?_
    rintro e x5 ⟨v21, rfl, h21, hb⟩
    replace hL0 := hL0.call hb
    replace h6 := Lib.hid (h6.out.below hb)
    clear hb RQ
    replace h21 := Lib.hid h21
    go_wp2_with fail
    with_reducible refine Calls.mono (SMr.out _ _ (htab.below hL0.bl) h21.out) ?_
    rintro e x6 ⟨rfl, hb⟩
    replace hL0 := hL0.call hb
    replace h6 := Lib.hid (h6.out.below hb)
    clear hb SMr
    clear h21
    obtain ⟨p23, r23⟩ := hL0.get (x2.heap.size) a (by (first | with_reducible exact List.mem_cons_self | with_reducible exact (List.mem_cons_of_mem _ List.mem_cons_self) | with_reducible exact (List.mem_cons_of_mem _ (List.mem_cons_of_mem _ List.mem_cons_self)) | with_reducible exact (List.mem_cons_of_mem _ (List.mem_cons_of_mem _ (List.mem_cons_of_mem _ List.mem_cons_self))) | with_reducible exact (List.mem_cons_of_mem _ (List.mem_cons_of_mem _ (List.mem_cons_of_mem _ (List.mem_cons_of_mem _ List.mem_cons_self)))) | with_reducible exact (List.mem_cons_of_mem _ (List.mem_cons_of_mem _ (List.mem_cons_of_mem _ (List.mem_cons_of_mem _ (List.mem_cons_of_mem _ List.mem_cons_self))))) | with_reducible exact (List.mem_cons_of_mem _ (List.mem_cons_of_mem _ (List.mem_cons_of_mem _ (List.mem_cons_of_mem _ (List.mem_cons_of_mem _ (List.mem_cons_of_mem _ List.mem_cons_self)))))) | with_reducible exact (List.mem_cons_of_mem _ (List.mem_cons_of_mem _ (List.mem_cons_of_mem _ (List.mem_cons_of_mem _ (List.mem_cons_of_mem _ (List.mem_cons_of_mem _ (List.mem_cons_of_mem _ List.mem_cons_self))))))) | with_reducible exact (List.mem_cons_of_mem _ (List.mem_cons_of_mem _ (List.mem_cons_of_mem _ (List.mem_cons_of_mem _ (List.mem_cons_of_mem _ (List.mem_cons_of_mem _ (List.mem_cons_of_mem _ (List.mem_cons_of_mem _ List.mem_cons_self)))))))) | with_reducible exact (List.mem_cons_of_mem _ (List.mem_cons_of_mem _ (List.mem_cons_of_mem _ (List.mem_cons_of_mem _ (List.mem_cons_of_mem _ (List.mem_cons_of_mem _ (List.mem_cons_of_mem _ (List.mem_cons_of_mem _ (List.mem_cons_of_mem _ List.mem_cons_self))))))))) | with_reducible exact (List.mem_cons_of_mem _ (List.mem_cons_of_mem _ (List.mem_cons_of_mem _ (List.mem_cons_of_mem _ (List.mem_cons_of_mem _ (List.mem_cons_of_mem _ (List.mem_cons_of_mem _ (List.mem_cons_of_mem _ (List.mem_cons_of_mem _ (List.mem_cons_of_mem _ List.mem_cons_self)))))))))) | with_reducible exact (List.mem_cons_of_mem _ (List.mem_cons_of_mem _ (List.mem_cons_of_mem _ (List.mem_cons_of_mem _ (List.mem_cons_of_mem _ (List.mem_cons_of_mem _ (List.mem_cons_of_mem _ (List.mem_cons_of_mem _ (List.mem_cons_of_mem _ (List.mem_cons_of_mem _ (List.mem_cons_of_mem _ List.mem_cons_self)))))))))))))
    go_wp2_with fail
    with_reducible refine Calls.mono (BB.out _) ?_
    rintro e x7 ⟨rfl, hb⟩
    replace hL0 := hL0.call hb
    replace h6 := Lib.hid (h6.out.below hb)
    clear hb BB
    go_wp2_with fail
    with_reducible refine Calls.mono (RB.out _ _ h6.out) ?_
    rintro e x8 ⟨rfl, hb⟩
    replace hL0 := hL0.call hb
    replace h6 := Lib.hid (h6.out.below hb)
    clear hb
    obtain ⟨p24, r24⟩ := hL0.get (x2.heap.size) a (by (first | with_reducible exact List.mem_cons_self | with_reducible exact (List.mem_cons_of_mem _ List.mem_cons_self) | with_reducible exact (List.mem_cons_of_mem _ (List.mem_cons_of_mem _ List.mem_cons_self)) | with_reducible exact (List.mem_cons_of_mem _ (List.mem_cons_of_mem _ (List.mem_cons_of_mem _ List.mem_cons_self))) | with_reducible exact (List.mem_cons_of_mem _ (List.mem_cons_of_mem _ (List.mem_cons_of_mem _ (List.mem_cons_of_mem _ List.mem_cons_self)))) | with_reducible exact (List.mem_cons_of_mem _ (List.mem_cons_of_mem _ (List.mem_cons_of_mem _ (List.mem_cons_of_mem _ (List.mem_cons_of_mem _ List.mem_cons_self))))) | with_reducible exact (List.mem_cons_of_mem _ (List.mem_cons_of_mem _ (List.mem_cons_of_mem _ (List.mem_cons_of_mem _ (List.mem_cons_of_mem _ (List.mem_cons_of_mem _ List.mem_cons_self)))))) | with_reducible exact (List.mem_cons_of_mem _ (List.mem_cons_of_mem _ (List.mem_cons_of_mem _ (List.mem_cons_of_mem _ (List.mem_cons_of_mem _ (List.mem_cons_of_mem _ (List.mem_cons_of_mem _ List.mem_cons_self))))))) | with_reducible exact (List.mem_cons_of_mem _ (List.mem_cons_of_mem _ (List.mem_cons_of_mem _ (List.mem_cons_of_mem _ (List.mem_cons_of_mem _ (List.mem_cons_of_mem _ (List.mem_cons_of_mem _ (List.mem_cons_of_mem _ List.mem_cons_self)))))))) | with_reducible exact (List.mem_cons_of_mem _ (List.mem_cons_of_mem _ (List.mem_cons_of_mem _ (List.mem_cons_of_mem _ (List.mem_cons_of_mem _ (List.mem_cons_of_mem _ (List.mem_cons_of_mem _ (List.mem_cons_of_mem _ (List.mem_cons_of_mem _ List.mem_cons_self))))))))) | with_reducible exact (List.mem_cons_of_mem _ (List.mem_cons_of_mem _ (List.mem_cons_of_mem _ (List.mem_cons_of_mem _ (List.mem_cons_of_mem _ (List.mem_cons_of_mem _ (List.mem_cons_of_mem _ (List.mem_cons_of_mem _ (List.mem_cons_of_mem _ (List.mem_cons_of_mem _ List.mem_cons_self)))))))))) | with_reducible exact (List.mem_cons_of_mem _ (List.mem_cons_of_mem _ (List.mem_cons_of_mem _ (List.mem_cons_of_mem _ (List.mem_cons_of_mem _ (List.mem_cons_of_mem _ (List.mem_cons_of_mem _ (List.mem_cons_of_mem _ (List.mem_cons_of_mem _ (List.mem_cons_of_mem _ (List.mem_cons_of_mem _ List.mem_cons_self)))))))))))))
    go_wp2_with fail
    with_reducible refine Calls.mono (P.out _) ?_
    rintro e x9 ⟨rfl, hb⟩
    replace hL0 := hL0.call hb
    replace h6 := Lib.hid (h6.out.below hb)
    clear hb P
    replace h6 := Lib.hid (h6.out.below (below1 _ (.cells #[.int .u64 ((lo p : Nat) : Int), .string (hs p)] 26)))
    replace hL0 := (hL0.new rfl p 26)
    generalize hweq : (x9.alloc (.cells #[.int .u64 ((lo p : Nat) : Int), .string (hs p)] 26)) = x10 at hL0 h6
    go_upto_region 14 with fail
    clear hweq
    have c0 := (hL0.get (x9.heap.size) p (by (first | with_reducible exact List.mem_cons_self | with_reducible exact (List.mem_cons_of_mem _ List.mem_cons_self) | with_reducible exact (List.mem_cons_of_mem _ (List.mem_cons_of_mem _ List.mem_cons_self)) | with_reducible exact (List.mem_cons_of_mem _ (List.mem_cons_of_mem _ (List.mem_cons_of_mem _ List.mem_cons_self))) | with_reducible exact (List.mem_cons_of_mem _ (List.mem_cons_of_mem _ (List.mem_cons_of_mem _ (List.mem_cons_of_mem _ List.mem_cons_self)))) | with_reducible exact (List.mem_cons_of_mem _ (List.mem_cons_of_mem _ (List.mem_cons_of_mem _ (List.mem_cons_of_mem _ (List.mem_cons_of_mem _ List.mem_cons_self))))) | with_reducible exact (List.mem_cons_of_mem _ (List.mem_cons_of_mem _ (List.mem_cons_of_mem _ (List.mem_cons_of_mem _ (List.mem_cons_of_mem _ (List.mem_cons_of_mem _ List.mem_cons_self)))))) | with_reducible exact (List.mem_cons_of_mem _ (List.mem_cons_of_mem _ (List.mem_cons_of_mem _ (List.mem_cons_of_mem _ (List.mem_cons_of_mem _ (List.mem_cons_of_mem _ (List.mem_cons_of_mem _ List.mem_cons_self))))))) | with_reducible exact (List.mem_cons_of_mem _ (List.mem_cons_of_mem _ (List.mem_cons_of_mem _ (List.mem_cons_of_mem _ (List.mem_cons_of_mem _ (List.mem_cons_of_mem _ (List.mem_cons_of_mem _ (List.mem_cons_of_mem _ List.mem_cons_self)))))))) | with_reducible exact (List.mem_cons_of_mem _ (List.mem_cons_of_mem _ (List.mem_cons_of_mem _ (List.mem_cons_of_mem _ (List.mem_cons_of_mem _ (List.mem_cons_of_mem _ (List.mem_cons_of_mem _ (List.mem_cons_of_mem _ (List.mem_cons_of_mem _ List.mem_cons_self))))))))) | with_reducible exact (List.mem_cons_of_mem _ (List.mem_cons_of_mem _ (List.mem_cons_of_mem _ (List.mem_cons_of_mem _ (List.mem_cons_of_mem _ (List.mem_cons_of_mem _ (List.mem_cons_of_mem _ (List.mem_cons_of_mem _ (List.mem_cons_of_mem _ (List.mem_cons_of_mem _ List.mem_cons_self)))))))))) | with_reducible exact (List.mem_cons_of_mem _ (List.mem_cons_of_mem _ (List.mem_cons_of_mem _ (List.mem_cons_of_mem _ (List.mem_cons_of_mem _ (List.mem_cons_of_mem _ (List.mem_cons_of_mem _ (List.mem_cons_of_mem _ (List.mem_cons_of_mem _ (List.mem_cons_of_mem _ (List.mem_cons_of_mem _ List.mem_cons_self)))))))))))))).1
    have e1 := (hL0.get (x9.heap.size) p (by (first | with_reducible exact List.mem_cons_self | with_reducible exact (List.mem_cons_of_mem _ List.mem_cons_self) | with_reducible exact (List.mem_cons_of_mem _ (List.mem_cons_of_mem _ List.mem_cons_self)) | with_reducible exact (List.mem_cons_of_mem _ (List.mem_cons_of_mem _ (List.mem_cons_of_mem _ List.mem_cons_self))) | with_reducible exact (List.mem_cons_of_mem _ (List.mem_cons_of_mem _ (List.mem_cons_of_mem _ (List.mem_cons_of_mem _ List.mem_cons_self)))) | with_reducible exact (List.mem_cons_of_mem _ (List.mem_cons_of_mem _ (List.mem_cons_of_mem _ (List.mem_cons_of_mem _ (List.mem_cons_of_mem _ List.mem_cons_self))))) | with_reducible exact (List.mem_cons_of_mem _ (List.mem_cons_of_mem _ (List.mem_cons_of_mem _ (List.mem_cons_of_mem _ (List.mem_cons_of_mem _ (List.mem_cons_of_mem _ List.mem_cons_self)))))) | with_reducible exact (List.mem_cons_of_mem _ (List.mem_cons_of_mem _ (List.mem_cons_of_mem _ (List.mem_cons_of_mem _ (List.mem_cons_of_mem _ (List.mem_cons_of_mem _ (List.mem_cons_of_mem _ List.mem_cons_self))))))) | with_reducible exact (List.mem_cons_of_mem _ (List.mem_cons_of_mem _ (List.mem_cons_of_mem _ (List.mem_cons_of_mem _ (List.mem_cons_of_mem _ (List.mem_cons_of_mem _ (List.mem_cons_of_mem _ (List.mem_cons_of_mem _ List.mem_cons_self)))))))) | with_reducible exact (List.mem_cons_of_mem _ (List.mem_cons_of_mem _ (List.mem_cons_of_mem _ (List.mem_cons_of_mem _ (List.mem_cons_of_mem _ (List.mem_cons_of_mem _ (List.mem_cons_of_mem _ (List.mem_cons_of_mem _ (List.mem_cons_of_mem _ List.mem_cons_self))))))))) | with_reducible exact (List.mem_cons_of_mem _ (List.mem_cons_of_mem _ (List.mem_cons_of_mem _ (List.mem_cons_of_mem _ (List.mem_cons_of_mem _ (List.mem_cons_of_mem _ (List.mem_cons_of_mem _ (List.mem_cons_of_mem _ (List.mem_cons_of_mem _ (List.mem_cons_of_mem _ List.mem_cons_self)))))))))) | with_reducible exact (List.mem_cons_of_mem _ (List.mem_cons_of_mem _ (List.mem_cons_of_mem _ (List.mem_cons_of_mem _ (List.mem_cons_of_mem _ (List.mem_cons_of_mem _ (List.mem_cons_of_mem _ (List.mem_cons_of_mem _ (List.mem_cons_of_mem _ (List.mem_cons_of_mem _ (List.mem_cons_of_mem _ List.mem_cons_self)))))))))))))).2
    have hkb : x9.heap.size < x10.drew.heap.size := (hL0.all (x9.heap.size, p) (by (first | with_reducible exact List.mem_cons_self | with_reducible exact (List.mem_cons_of_mem _ List.mem_cons_self) | with_reducible exact (List.mem_cons_of_mem _ (List.mem_cons_of_mem _ List.mem_cons_self)) | with_reducible exact (List.mem_cons_of_mem _ (List.mem_cons_of_mem _ (List.mem_cons_of_mem _ List.mem_cons_self))) | with_reducible exact (List.mem_cons_of_mem _ (List.mem_cons_of_mem _ (List.mem_cons_of_mem _ (List.mem_cons_of_mem _ List.mem_cons_self)))) | with_reducible exact (List.mem_cons_of_mem _ (List.mem_cons_of_mem _ (List.mem_cons_of_mem _ (List.mem_cons_of_mem _ (List.mem_cons_of_mem _ List.mem_cons_self))))) | with_reducible exact (List.mem_cons_of_mem _ (List.mem_cons_of_mem _ (List.mem_cons_of_mem _ (List.mem_cons_of_mem _ (List.mem_cons_of_mem _ (List.mem_cons_of_mem _ List.mem_cons_self)))))) | with_reducible exact (List.mem_cons_of_mem _ (List.mem_cons_of_mem _ (List.mem_cons_of_mem _ (List.mem_cons_of_mem _ (List.mem_cons_of_mem _ (List.mem_cons_of_mem _ (List.mem_cons_of_mem _ List.mem_cons_self))))))) | with_reducible exact (List.mem_cons_of_mem _ (List.mem_cons_of_mem _ (List.mem_cons_of_mem _ (List.mem_cons_of_mem _ (List.mem_cons_of_mem _ (List.mem_cons_of_mem _ (List.mem_cons_of_mem _ (List.mem_cons_of_mem _ List.mem_cons_self)))))))) | with_reducible exact (List.mem_cons_of_mem _ (List.mem_cons_of_mem _ (List.mem_cons_of_mem _ (List.mem_cons_of_mem _ (List.mem_cons_of_mem _ (List.mem_cons_of_mem _ (List.mem_cons_of_mem _ (List.mem_cons_of_mem _ (List.mem_cons_of_mem _ List.mem_cons_self))))))))) | with_reducible exact (List.mem_cons_of_mem _ (List.mem_cons_of_mem _ (List.mem_cons_of_mem _ (List.mem_cons_of_mem _ (List.mem_cons_of_mem _ (List.mem_cons_of_mem _ (List.mem_cons_of_mem _ (List.mem_cons_of_mem _ (List.mem_cons_of_mem _ (List.mem_cons_of_mem _ List.mem_cons_self)))))))))) | with_reducible exact (List.mem_cons_of_mem _ (List.mem_cons_of_mem _ (List.mem_cons_of_mem _ (List.mem_cons_of_mem _ (List.mem_cons_of_mem _ (List.mem_cons_of_mem _ (List.mem_cons_of_mem _ (List.mem_cons_of_mem _ (List.mem_cons_of_mem _ (List.mem_cons_of_mem _ (List.mem_cons_of_mem _ List.mem_cons_self)))))))))))))).2.lt
    replace c0 : x10.drew.cell? ⟨x9.heap.size, 0, none⟩ = _ := c0
    replace e1 : x10.drew.cell? ⟨x9.heap.size, 1, none⟩ = _ := e1
    have r6 := Lib.hid h6.out.drew
    have t0 := (htab.below hL0.bl.drew)
    go_region_held3 (fun w' => w'.cell? ⟨x9.heap.size, 0, none⟩ = some (.int .u64 ((lo p : Nat) : Int)) ∧ w'.cell? ⟨x9.heap.size, 1, none⟩ = some (.string (hs p)))
      (first | exact ⟨c0, e1⟩ | exact ⟨c0a, e1a⟩ | exact ⟨c0b, e1b⟩ | exact ⟨c0c, e1c⟩)
      (first
        | (go_at_call 32; ((with_reducible refine Calls.mono (RPk.out _ _ r6.out) ?_); rintro e w1 ⟨v88, rfl, h88, hb1⟩; have c0a := (hb1.cell (p := ⟨x9.heap.size, 0, none⟩) hkb).trans c0; have e1a := (hb1.cell (p := ⟨x9.heap.size, 1, none⟩) hkb).trans e1; replace h88 := Lib.hid h88))
        | (go_at_call 16; ((with_reducible refine Calls.mono (SMk.out _ _ (t0.below hb1) h88.out) ?_); rintro e w2 ⟨rfl, hb2⟩; have c0b := (hb2.cell (p := ⟨x9.heap.size, 0, none⟩) (Nat.lt_of_lt_of_le hkb hb1.size)).trans c0a; have e1b := (hb2.cell (p := ⟨x9.heap.size, 1, none⟩) (Nat.lt_of_lt_of_le hkb hb1.size)).trans e1a))
        | (go_at_call 11; ((with_reducible refine Calls.mono (works_any _ ((t0.below hb1).below hb2)) ?_); rintro e w3 ⟨rfl, hb3⟩; have c0c := (hb3.cell (p := ⟨x9.heap.size, 0, none⟩) (Nat.lt_of_lt_of_le hkb (Nat.le_trans hb1.size hb2.size))).trans c0b; have e1c := (hb3.cell (p := ⟨x9.heap.size, 1, none⟩) (Nat.lt_of_lt_of_le hkb (Nat.le_trans hb1.size hb2.size))).trans e1b)))
    have hB := ((hL0.bl.drew.trans (hb1.mono hL0.bl.size)).trans (hb2.mono (Nat.le_trans hL0.bl.size hb1.size))).trans (hb3.mono (Nat.le_trans hL0.bl.size (Nat.le_trans hb1.size hb2.size)))
    go_wp2_with fail
    exact bodyPost_ret (v := .bool true) (by simp [results, Tryd.results5, go_sem]) rfl ⟨rfl, hB⟩

theorem roots_any (vx : Value) (lx : List Nat) (n : Int) (hn63 : n < 9223372036854775808) (w : World) (htab : Tab w) (hx : Ws w vx lx) :
    Calls Tryd.prog 5 #[vx, .int .i64 n] w fun e w' => e = .returned (.bool true) ∧ Below w.heap.size w w' := by
  by_cases h : 12 < lx.length
  · obtain ⟨ax, cx, rfl⟩ := hx.form
    exact roots_big ax cx _ n h w htab
  · exact roots_small vx lx n hn63 w htab hx (by omega)
end Go.Proofs.YtgmmfaclchoigaaDoor
