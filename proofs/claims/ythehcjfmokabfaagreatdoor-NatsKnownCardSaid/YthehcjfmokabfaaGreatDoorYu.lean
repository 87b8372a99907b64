/-
  Layer 1, law I: NatsRoots.
-/
import Derived.Test.YthehcjfmokabfaaGreatDoorYt
import Derived.Test.YthehcjfmokabfaaGreatDoorYo
set_option linter.unusedVariables false
set_option linter.unusedSimpArgs false
namespace Go.Proofs.YthehcjfmokabfaaGreatDoor
open Go.RowKit
attribute [local irreducible] lo hs sm s64 c64 d64 b64 mh ml pd pc qd qc val hiB str cmpI srD lz nb isq decB txt

set_option maxHeartbeats 4000000 in
set_option maxRecDepth 100000 in
theorem roots_big (ax : Option Addr) (cx nx : Nat) (n : Int) (h : 12 < nx) (w : World) (htab : Tab w) :
    Calls Tryz.prog 13 #[.slice ax nx cx, .int .i64 n] w fun e w' => e = .returned (.bool true) ∧ Below w.heap.size w w' := by
  have HW := Lib.hid (works_any w htab)
  have k0 : decide ((12 : Int) < (nx : Int)) = true := decide_eq_true (by omega)
  clear h
  go_enter Tryz.func13, Tryz.ntmps13
  go_wp2_with fail
  with_reducible refine Calls.mono HW.out ?_
  rintro e w1 ⟨rfl, hb⟩
  go_wp2_with fail
  exact bodyPost_ret (v := .bool true) (by simp [results, Tryz.results13, go_sem]) rfl ⟨rfl, hb⟩

theorem digs_pow_le {a K : Nat} (ha : (digs a).length ≤ K) : ∀ i, (digs (a ^ i)).length ≤ K * i + 1
  | 0 => by
    have : (digs 1).length ≤ 1 := digs_length_iff.2 (by rw [Nat.pow_one]; unfold Bs; omega)
    rw [Nat.pow_zero]; omega
  | i + 1 => by
    have := digs_mul_le (digs_pow_le ha i) ha
    rw [Nat.pow_succ, Nat.mul_succ]; omega
theorem roots_cases (n : Int) (b L : Nat) : n < 0 ∨ 4096 < n ∨ (∃ k : Nat, n = (k : Int) ∧ 0 < k ∧ k ≤ 4096 ∧ 262144 < k * b) ∨ (∃ k : Nat, n = (k : Int) ∧ 0 < k ∧ k ≤ 4096 ∧ ¬ 262144 < k * b ∧ (20 < k ∨ (k ≤ 20 ∧ 4 < L))) ∨ (∃ k : Nat, n = (k : Int) ∧ 0 < k ∧ k ≤ 20 ∧ ¬ 262144 < k * b ∧ L ≤ 4) ∨ (n = 0 ∧ 4 < L) ∨ (n = 0 ∧ L ≤ 4) := by
  by_cases h1 : n < 0
  · exact .inl h1
  by_cases h2 : 4096 < n
  · exact .inr (.inl h2)
  by_cases h3 : n = 0
  · subst h3
    by_cases h4 : 4 < L
    · exact .inr (.inr (.inr (.inr (.inr (.inl ⟨rfl, h4⟩)))))
    · exact .inr (.inr (.inr (.inr (.inr (.inr ⟨rfl, by omega⟩)))))
  obtain ⟨k, rfl⟩ := Int.eq_ofNat_of_zero_le (show 0 ≤ n by omega)
  by_cases h4 : 262144 < k * b
  · exact .inr (.inr (.inl ⟨k, rfl, by omega, by omega, h4⟩))
  by_cases h5 : 20 < k
  · exact .inr (.inr (.inr (.inl ⟨k, rfl, by omega, by omega, h4, .inl h5⟩)))
  by_cases h6 : 4 < L
  · exact .inr (.inr (.inr (.inl ⟨k, rfl, by omega, by omega, h4, .inr ⟨by omega, h6⟩⟩)))
  · exact .inr (.inr (.inr (.inr (.inl ⟨k, rfl, by omega, by omega, h4, by omega⟩))))

set_option maxHeartbeats 16000000 in
set_option maxRecDepth 1000000 in
theorem roots_small (vx : Value) (lx : List Nat) (n : Int) (hn63 : n < 9223372036854775808) (w : World) (htab : Tab w) (hx : Ws w vx lx) (nx : lx.length ≤ 12) :
    Calls Tryz.prog 13 #[vx, .int .i64 n] w fun e w' => e = .returned (.bool true) ∧ Below w.heap.size w w' := by
  have MX := fun w h => made_any vx lx (by omega) w h
  have RX := fun w h => Rx.rofw_any vx lx (by omega) w h
  obtain ⟨ax, cx, ex⟩ := hx.form
  have dx := made_digs hx.lt
  have tx := Rx.td_made hx.lt
  subst ex
  have kx : decide ((12 : Int) < (lx.length : Int)) = false := decide_eq_false (by omega)
  generalize made lx = a at *
  replace hx := Lib.hid hx
  replace MX := Lib.hid MX
  replace RX := Lib.hid RX
  generalize lx.length = Nx at *
  have nba := nb_len (Nat.le_trans dx nx)
  obtain ⟨b, hb0⟩ : ∃ b, b = nb a := ⟨_, rfl⟩
  have Q := fun w => sqrt_all a (by omega) w
  have RQ := fun v w hv => Rx.rsqrt_any v a (by omega) w hv
  have hra : isq a ≤ a := Nat.le_trans (Nat.le_mul_self _) (isq_spec a).1
  have SMr := fun v w ht hv => Rx.same_any (isq a) v (Nat.le_trans (digs_mono hra) (by omega)) (Nat.le_trans (Rx.td_mono hra) (by omega)) w ht hv
  have BB := fun w => bits_any a (by omega) w
  have RB := fun v w hv => Rx.rbits_any v a (by omega) (by omega) w hv
  have PO := fun k h1 h2 h3 w => pow_over a k h1 h2 h3 (by omega) w
  have POK := fun k h1 h2 w => pow_ok a k h1 h2 (by omega) w
  have hdp : ∀ k, k ≤ 20 → Nx ≤ 4 → (digs (a ^ k)).length ≤ 81 := fun k hk hN => Nat.le_trans (digs_pow_le (K := 4) (Nat.le_trans dx hN) k) (by omega)
  have RP := fun v k (hk : k ≤ 20) w hv => Rx.rpow_any v a k 36 (by omega) (by omega) (by omega) (by omega) w hv
  have SMp := fun k (hk : k ≤ 20) (hN : Nx ≤ 4) v w ht hv => Rx.same_any (a ^ k) v (Nat.le_trans (hdp k hk hN) (by omega)) (Nat.le_trans (Rx.td_pow_le (K := 36) (by omega) k) (by omega)) w ht hv
  have hcases := roots_cases n b Nx
  rw [← hb0] at BB RB PO POK nba
  clear hb0 hra hdp
  generalize isq a = r at *
  have HW := Lib.hid (fun w h => works_any w h)
  replace hn63 := Lib.hid hn63
  replace Q := Lib.hid Q
  replace RQ := Lib.hid RQ
  replace SMr := Lib.hid SMr
  replace BB := Lib.hid BB
  replace RB := Lib.hid RB
  replace PO := Lib.hid PO
  replace POK := Lib.hid POK
  replace RP := Lib.hid RP
  replace SMp := Lib.hid SMp
  replace dx := Lib.hid dx
  replace tx := Lib.hid tx
  have hL0 : NL w w [] := NL.start w
  rcases hcases with c1 | c1 | ⟨k, rfl, c1, c2, c3⟩ | ⟨k, rfl, c1, c2, c3, c4⟩ | ⟨k, rfl, c1, c2, c3, c4⟩ | ⟨rfl, c4⟩ | ⟨rfl, c4⟩
  · have P := Lib.hid (fun w => pow_neg a n c1 w)
    have d1 : ¬ (0 : Int) < n := by omega
    have d2 : ¬ (20 : Int) < n := by omega
    have d3 : ¬ (0 : Int) ≤ n := by omega
    go_enter Tryz.func13, Tryz.ntmps13
    go_wp2_with fail
    with_reducible refine Calls.mono (MX.out _ (hx.out.below hL0.bl)) ?_
    rintro e x1 ⟨rfl, hb⟩
    replace hL0 := hL0.call hb
    clear hb MX
    go_wp2_with fail
    with_reducible refine Calls.mono (RX.out _ (hx.out.below hL0.bl)) ?_
    rintro e x2 ⟨v6, rfl, h6, hb⟩
    replace hL0 := hL0.call hb
    clear hb RX
    replace h6 := Lib.hid h6
    replace h6 := Lib.hid (h6.out.below (below1 _ (.cells #[.int .u64 ((lo a : Nat) : Int), .string (hs a)] 32)))
    replace hL0 := (hL0.new rfl a 32)
    generalize hweq : (x2.alloc (.cells #[.int .u64 ((lo a : Nat) : Int), .string (hs a)] 32)) = x3 at hL0 h6
    obtain ⟨p1, r1⟩ := hL0.get (x2.heap.size) a (by (repeat (first | with_reducible exact List.mem_cons_self | with_reducible refine List.mem_cons_of_mem _ ?_)))
    go_wp2_with fail
    with_reducible refine Calls.mono (Q.out _) ?_
    rintro e x4 ⟨rfl, hb⟩
    replace hL0 := hL0.call hb
    replace h6 := Lib.hid (h6.out.below hb)
    clear hb Q hweq
    go_wp2_with fail
    with_reducible refine Calls.mono (RQ.out _ _ h6.out) ?_
    rintro e x5 ⟨v21, rfl, h21, hb⟩
    replace hL0 := hL0.call hb
    replace h6 := Lib.hid (h6.out.below hb)
    clear hb RQ
    replace h21 := Lib.hid h21
    go_wp2_with fail
    with_reducible refine Calls.mono (SMr.out _ _ (htab.below hL0.bl) h21.out) ?_
    rintro e x6 ⟨rfl, hb⟩
    replace hL0 := hL0.call hb
    replace h6 := Lib.hid (h6.out.below hb)
    clear hb SMr
    clear h21
    obtain ⟨p2, r2⟩ := hL0.get (x2.heap.size) a (by (repeat (first | with_reducible exact List.mem_cons_self | with_reducible refine List.mem_cons_of_mem _ ?_)))
    go_wp2_with fail
    with_reducible refine Calls.mono (BB.out _) ?_
    rintro e x7 ⟨rfl, hb⟩
    replace hL0 := hL0.call hb
    replace h6 := Lib.hid (h6.out.below hb)
    clear hb BB
    go_wp2_with fail
    with_reducible refine Calls.mono (RB.out _ _ h6.out) ?_
    rintro e x8 ⟨rfl, hb⟩
    replace hL0 := hL0.call hb
    replace h6 := Lib.hid (h6.out.below hb)
    clear hb
    obtain ⟨p3, r3⟩ := hL0.get (x2.heap.size) a (by (repeat (first | with_reducible exact List.mem_cons_self | with_reducible refine List.mem_cons_of_mem _ ?_)))
    go_wp2_with fail
    with_reducible refine Calls.mono (P.out _) ?_
    rintro e x9 ⟨rfl, hb⟩
    replace hL0 := hL0.call hb
    replace h6 := Lib.hid (h6.out.below hb)
    clear hb P
    replace h6 := Lib.hid (h6.out.below (below1 _ (.cells #[.int .u64 ((lo 0 : Nat) : Int), .string (hs 0)] 32)))
    replace hL0 := (hL0.new rfl 0 32)
    generalize hweq : (x9.alloc (.cells #[.int .u64 ((lo 0 : Nat) : Int), .string (hs 0)] 32)) = x10 at hL0 h6
    have z1 : (((lo 0 : Nat) : Int) == 0) = true := by rw [lo_zero]; rfl
    have z2 : ((hs 0).toList == []) = true := by rw [hs_zero, ByteArray.toList_eq]; rfl
    obtain ⟨p4, r4⟩ := hL0.get (x9.heap.size) 0 (by (repeat (first | with_reducible exact List.mem_cons_self | with_reducible refine List.mem_cons_of_mem _ ?_)))
    go_wp2_with fail
    with_reducible refine Calls.mono (HW.out _ (htab.below hL0.bl)) ?_
    rintro e x11 ⟨rfl, hb⟩
    replace hL0 := hL0.call hb
    replace h6 := Lib.hid (h6.out.below hb)
    clear hb HW hweq
    go_wp2_with fail
    exact bodyPost_ret (v := .bool true) (by simp [results, Tryz.results13, go_sem]) rfl ⟨rfl, hL0.bl⟩
  · obtain ⟨k, rfl⟩ := Int.eq_ofNat_of_zero_le (show 0 ≤ n by omega)
    have P := Lib.hid (fun w => pow_great a k (by omega) (by have := hn63.out; omega) w)
    skip
    have bq00 : decide ((0 : Int) < (k : Int)) = true := decide_eq_true (by omega)
    have bq01 : decide (0 < k) = true := decide_eq_true (by omega)
    have bq10 : decide ((k : Int) ≤ (4096 : Int)) = false := decide_eq_false (by omega)
    have bq11 : decide (k ≤ 4096) = false := decide_eq_false (by omega)
    have bq20 : decide ((20 : Int) < (k : Int)) = true := decide_eq_true (by omega)
    have bq21 : decide (20 < k) = true := decide_eq_true (by omega)
    have bq30 : decide ((4096 : Int) < (k : Int)) = true := decide_eq_true (by omega)
    have bq31 : decide (4096 < k) = true := decide_eq_true (by omega)
    replace c1 := Lib.hid c1
    have bz : decide ((k : Int) < 0) = false := decide_eq_false (by omega)
    have bz2 : decide ((0 : Int) ≤ (k : Int)) = true := decide_eq_true (by omega)
    go_enter Tryz.func13, Tryz.ntmps13
    go_wp2_with fail
    with_reducible refine Calls.mono (MX.out _ (hx.out.below hL0.bl)) ?_
    rintro e x1 ⟨rfl, hb⟩
    replace hL0 := hL0.call hb
    clear hb MX
    go_wp2_with fail
    with_reducible refine Calls.mono (RX.out _ (hx.out.below hL0.bl)) ?_
    rintro e x2 ⟨v6, rfl, h6, hb⟩
    replace hL0 := hL0.call hb
    clear hb RX
    replace h6 := Lib.hid h6
    replace h6 := Lib.hid (h6.out.below (below1 _ (.cells #[.int .u64 ((lo a : Nat) : Int), .string (hs a)] 32)))
    replace hL0 := (hL0.new rfl a 32)
    generalize hweq : (x2.alloc (.cells #[.int .u64 ((lo a : Nat) : Int), .string (hs a)] 32)) = x3 at hL0 h6
    obtain ⟨p5, r5⟩ := hL0.get (x2.heap.size) a (by (repeat (first | with_reducible exact List.mem_cons_self | with_reducible refine List.mem_cons_of_mem _ ?_)))
    go_wp2_with fail
    with_reducible refine Calls.mono (Q.out _) ?_
    rintro e x4 ⟨rfl, hb⟩
    replace hL0 := hL0.call hb
    replace h6 := Lib.hid (h6.out.below hb)
    clear hb Q hweq
    go_wp2_with fail
    with_reducible refine Calls.mono (RQ.out _ _ h6.out) ?_
    rintro e x5 ⟨v21, rfl, h21, hb⟩
    replace hL0 := hL0.call hb
    replace h6 := Lib.hid (h6.out.below hb)
    clear hb RQ
    replace h21 := Lib.hid h21
    go_wp2_with fail
    with_reducible refine Calls.mono (SMr.out _ _ (htab.below hL0.bl) h21.out) ?_
    rintro e x6 ⟨rfl, hb⟩
    replace hL0 := hL0.call hb
    replace h6 := Lib.hid (h6.out.below hb)
    clear hb SMr
    clear h21
    obtain ⟨p6, r6⟩ := hL0.get (x2.heap.size) a (by (repeat (first | with_reducible exact List.mem_cons_self | with_reducible refine List.mem_cons_of_mem _ ?_)))
    go_wp2_with fail
    with_reducible refine Calls.mono (BB.out _) ?_
    rintro e x7 ⟨rfl, hb⟩
    replace hL0 := hL0.call hb
    replace h6 := Lib.hid (h6.out.below hb)
    clear hb BB
    go_wp2_with fail
    with_reducible refine Calls.mono (RB.out _ _ h6.out) ?_
    rintro e x8 ⟨rfl, hb⟩
    replace hL0 := hL0.call hb
    replace h6 := Lib.hid (h6.out.below hb)
    clear hb
    obtain ⟨p7, r7⟩ := hL0.get (x2.heap.size) a (by (repeat (first | with_reducible exact List.mem_cons_self | with_reducible refine List.mem_cons_of_mem _ ?_)))
    go_wp2_with fail
    with_reducible refine Calls.mono (P.out _) ?_
    rintro e x9 ⟨rfl, hb⟩
    replace hL0 := hL0.call hb
    replace h6 := Lib.hid (h6.out.below hb)
    clear hb P
    replace h6 := Lib.hid (h6.out.below (below1 _ (.cells #[.int .u64 ((lo 0 : Nat) : Int), .string (hs 0)] 32)))
    replace hL0 := (hL0.new rfl 0 32)
    generalize hweq : (x9.alloc (.cells #[.int .u64 ((lo 0 : Nat) : Int), .string (hs 0)] 32)) = x10 at hL0 h6
    have z1 : (((lo 0 : Nat) : Int) == 0) = true := by rw [lo_zero]; rfl
    have z2 : ((hs 0).toList == []) = true := by rw [hs_zero, ByteArray.toList_eq]; rfl
    obtain ⟨p8, r8⟩ := hL0.get (x9.heap.size) 0 (by (repeat (first | with_reducible exact List.mem_cons_self | with_reducible refine List.mem_cons_of_mem _ ?_)))
    go_wp2_with fail
    with_reducible refine Calls.mono (HW.out _ (htab.below hL0.bl)) ?_
    rintro e x11 ⟨rfl, hb⟩
    replace hL0 := hL0.call hb
    replace h6 := Lib.hid (h6.out.below hb)
    clear hb HW hweq
    go_wp2_with fail
    exact bodyPost_ret (v := .bool true) (by simp [results, Tryz.results13, go_sem]) rfl ⟨rfl, hL0.bl⟩
  · have P := Lib.hid (fun w => PO.out k c1 c2 ((Nat.div_lt_iff_lt_mul c1).2 (by rw [Nat.mul_comm]; exact c3)) w)
    obtain ⟨z, hz⟩ : ∃ z, z = k * b := ⟨_, rfl⟩
    have hzb : z ≤ 3145728 := by rw [hz]; exact Nat.le_trans (Nat.mul_le_mul c2 nba) (by decide)
    have hzz : (k : Int) * (b : Int) = (z : Int) := by rw [hz]; rfl
    rw [← hz] at c3
    clear hz
    have hzb2 : (z : Int) ≤ 3145728 := by omega
    have dz2 : decide (262144 < z) = true := decide_eq_true (by omega)
    have dz : decide ((262144 : Int) < (z : Int)) = true := decide_eq_true (by omega)
    have bq00 : decide ((0 : Int) < (k : Int)) = true := decide_eq_true (by omega)
    have bq01 : decide (0 < k) = true := decide_eq_true (by omega)
    have bq10 : decide ((k : Int) ≤ (4096 : Int)) = true := decide_eq_true (by omega)
    have bq11 : decide (k ≤ 4096) = true := decide_eq_true (by omega)
    have bq20 : decide ((4096 : Int) < (k : Int)) = false := decide_eq_false (by omega)
    have bq21 : decide (4096 < k) = false := decide_eq_false (by omega)
    replace c1 := Lib.hid c1
    replace c2 := Lib.hid c2
    replace c3 := Lib.hid c3
    have bz : decide ((k : Int) < 0) = false := decide_eq_false (by omega)
    have bz2 : decide ((0 : Int) ≤ (k : Int)) = true := decide_eq_true (by omega)
    go_enter Tryz.func13, Tryz.ntmps13
    go_wp2_with fail
    with_reducible refine Calls.mono (MX.out _ (hx.out.below hL0.bl)) ?_
    rintro e x1 ⟨rfl, hb⟩
    replace hL0 := hL0.call hb
    clear hb MX
    go_wp2_with fail
    with_reducible refine Calls.mono (RX.out _ (hx.out.below hL0.bl)) ?_
    rintro e x2 ⟨v6, rfl, h6, hb⟩
    replace hL0 := hL0.call hb
    clear hb RX
    replace h6 := Lib.hid h6
    replace h6 := Lib.hid (h6.out.below (below1 _ (.cells #[.int .u64 ((lo a : Nat) : Int), .string (hs a)] 32)))
    replace hL0 := (hL0.new rfl a 32)
    generalize hweq : (x2.alloc (.cells #[.int .u64 ((lo a : Nat) : Int), .string (hs a)] 32)) = x3 at hL0 h6
    obtain ⟨p9, r9⟩ := hL0.get (x2.heap.size) a (by (repeat (first | with_reducible exact List.mem_cons_self | with_reducible refine List.mem_cons_of_mem _ ?_)))
    go_wp2_with fail
    with_reducible refine Calls.mono (Q.out _) ?_
    rintro e x4 ⟨rfl, hb⟩
    replace hL0 := hL0.call hb
    replace h6 := Lib.hid (h6.out.below hb)
    clear hb Q hweq
    go_wp2_with fail
    with_reducible refine Calls.mono (RQ.out _ _ h6.out) ?_
    rintro e x5 ⟨v21, rfl, h21, hb⟩
    replace hL0 := hL0.call hb
    replace h6 := Lib.hid (h6.out.below hb)
    clear hb RQ
    replace h21 := Lib.hid h21
    go_wp2_with fail
    with_reducible refine Calls.mono (SMr.out _ _ (htab.below hL0.bl) h21.out) ?_
    rintro e x6 ⟨rfl, hb⟩
    replace hL0 := hL0.call hb
    replace h6 := Lib.hid (h6.out.below hb)
    clear hb SMr
    clear h21
    obtain ⟨p10, r10⟩ := hL0.get (x2.heap.size) a (by (repeat (first | with_reducible exact List.mem_cons_self | with_reducible refine List.mem_cons_of_mem _ ?_)))
    go_wp2_with fail
    with_reducible refine Calls.mono (BB.out _) ?_
    rintro e x7 ⟨rfl, hb⟩
    replace hL0 := hL0.call hb
    replace h6 := Lib.hid (h6.out.below hb)
    clear hb BB
    go_wp2_with fail
    with_reducible refine Calls.mono (RB.out _ _ h6.out) ?_
    rintro e x8 ⟨rfl, hb⟩
    replace hL0 := hL0.call hb
    replace h6 := Lib.hid (h6.out.below hb)
    clear hb
    go_wp2_with fail
    with_reducible refine Calls.mono (RB.out _ _ h6.out) ?_
    rintro e x9 ⟨rfl, hb⟩
    replace hL0 := hL0.call hb
    replace h6 := Lib.hid (h6.out.below hb)
    clear hb RB
    obtain ⟨p11, r11⟩ := hL0.get (x2.heap.size) a (by (repeat (first | with_reducible exact List.mem_cons_self | with_reducible refine List.mem_cons_of_mem _ ?_)))
    go_wp2_with fail
    with_reducible refine Calls.mono (P.out _) ?_
    rintro e x10 ⟨rfl, hb⟩
    replace hL0 := hL0.call hb
    replace h6 := Lib.hid (h6.out.below hb)
    clear hb P
    replace h6 := Lib.hid (h6.out.below (below1 _ (.cells #[.int .u64 ((lo 0 : Nat) : Int), .string (hs 0)] 32)))
    replace hL0 := (hL0.new rfl 0 32)
    generalize hweq : (x10.alloc (.cells #[.int .u64 ((lo 0 : Nat) : Int), .string (hs 0)] 32)) = x11 at hL0 h6
    have z1 : (((lo 0 : Nat) : Int) == 0) = true := by rw [lo_zero]; rfl
    have z2 : ((hs 0).toList == []) = true := by rw [hs_zero, ByteArray.toList_eq]; rfl
    obtain ⟨p12, r12⟩ := hL0.get (x10.heap.size) 0 (by (repeat (first | with_reducible exact List.mem_cons_self | with_reducible refine List.mem_cons_of_mem _ ?_)))
    go_wp2_with fail
    with_reducible refine Calls.mono (HW.out _ (htab.below hL0.bl)) ?_
    rintro e x12 ⟨rfl, hb⟩
    replace hL0 := hL0.call hb
    replace h6 := Lib.hid (h6.out.below hb)
    clear hb HW hweq
    go_wp2_with fail
    exact bodyPost_ret (v := .bool true) (by simp [results, Tryz.results13, go_sem]) rfl ⟨rfl, hL0.bl⟩
  · skip
    obtain ⟨z, hz⟩ : ∃ z, z = k * b := ⟨_, rfl⟩
    have hzb : z ≤ 3145728 := by rw [hz]; exact Nat.le_trans (Nat.mul_le_mul c2 nba) (by decide)
    have hzz : (k : Int) * (b : Int) = (z : Int) := by rw [hz]; rfl
    rw [← hz] at c3
    clear hz
    have hzb2 : (z : Int) ≤ 3145728 := by omega
    have dz2 : decide (262144 < z) = false := decide_eq_false (by omega)
    have dz : decide ((262144 : Int) < (z : Int)) = false := decide_eq_false (by omega)
    have bq00 : decide ((0 : Int) < (k : Int)) = true := decide_eq_true (by omega)
    have bq01 : decide (0 < k) = true := decide_eq_true (by omega)
    have bq10 : decide ((k : Int) ≤ (4096 : Int)) = true := decide_eq_true (by omega)
    have bq11 : decide (k ≤ 4096) = true := decide_eq_true (by omega)
    replace c1 := Lib.hid c1
    replace c2 := Lib.hid c2
    replace c3 := Lib.hid c3
    have bz2 : decide ((0 : Int) ≤ (k : Int)) = true := decide_eq_true (by omega)
    rcases c4 with c4 | ⟨c4, c5⟩
    · have d6 : decide ((20 : Int) < (k : Int)) = true := decide_eq_true (by omega)
      have d8 : decide (20 < k) = true := decide_eq_true (by omega)
      replace c4 := Lib.hid c4
      go_enter Tryz.func13, Tryz.ntmps13
      go_wp2_with fail
      with_reducible refine Calls.mono (MX.out _ (hx.out.below hL0.bl)) ?_
      rintro e x1 ⟨rfl, hb⟩
      replace hL0 := hL0.call hb
      clear hb MX
      go_wp2_with fail
      with_reducible refine Calls.mono (RX.out _ (hx.out.below hL0.bl)) ?_
      rintro e x2 ⟨v6, rfl, h6, hb⟩
      replace hL0 := hL0.call hb
      clear hb RX
      replace h6 := Lib.hid h6
      replace h6 := Lib.hid (h6.out.below (below1 _ (.cells #[.int .u64 ((lo a : Nat) : Int), .string (hs a)] 32)))
      replace hL0 := (hL0.new rfl a 32)
      generalize hweq : (x2.alloc (.cells #[.int .u64 ((lo a : Nat) : Int), .string (hs a)] 32)) = x3 at hL0 h6
      obtain ⟨p13, r13⟩ := hL0.get (x2.heap.size) a (by (repeat (first | with_reducible exact List.mem_cons_self | with_reducible refine List.mem_cons_of_mem _ ?_)))
      go_wp2_with fail
      with_reducible refine Calls.mono (Q.out _) ?_
      rintro e x4 ⟨rfl, hb⟩
      replace hL0 := hL0.call hb
      replace h6 := Lib.hid (h6.out.below hb)
      clear hb Q hweq
      go_wp2_with fail
      with_reducible refine Calls.mono (RQ.out _ _ h6.out) ?_
      rintro e x5 ⟨v21, rfl, h21, hb⟩
      replace hL0 := hL0.call hb
      replace h6 := Lib.hid (h6.out.below hb)
      clear hb RQ
      replace h21 := Lib.hid h21
      go_wp2_with fail
      with_reducible refine Calls.mono (SMr.out _ _ (htab.below hL0.bl) h21.out) ?_
      rintro e x6 ⟨rfl, hb⟩
      replace hL0 := hL0.call hb
      replace h6 := Lib.hid (h6.out.below hb)
      clear hb SMr
      clear h21
      obtain ⟨p14, r14⟩ := hL0.get (x2.heap.size) a (by (repeat (first | with_reducible exact List.mem_cons_self | with_reducible refine List.mem_cons_of_mem _ ?_)))
      go_wp2_with fail
      with_reducible refine Calls.mono (BB.out _) ?_
      rintro e x7 ⟨rfl, hb⟩
      replace hL0 := hL0.call hb
      replace h6 := Lib.hid (h6.out.below hb)
      clear hb BB
      go_wp2_with fail
      with_reducible refine Calls.mono (RB.out _ _ h6.out) ?_
      rintro e x8 ⟨rfl, hb⟩
      replace hL0 := hL0.call hb
      replace h6 := Lib.hid (h6.out.below hb)
      clear hb
      go_wp2_with fail
      with_reducible refine Calls.mono (RB.out _ _ h6.out) ?_
      rintro e x9 ⟨rfl, hb⟩
      replace hL0 := hL0.call hb
      replace h6 := Lib.hid (h6.out.below hb)
      clear hb RB
      go_wp2_with fail
      with_reducible refine Calls.mono (HW.out _ (htab.below hL0.bl)) ?_
      rintro e x10 ⟨rfl, hb⟩
      replace hL0 := hL0.call hb
      replace h6 := Lib.hid (h6.out.below hb)
      clear hb HW
      go_wp2_with fail
      exact bodyPost_ret (v := .bool true) (by simp [results, Tryz.results13, go_sem]) rfl ⟨rfl, hL0.bl⟩
    · have d6 : decide ((20 : Int) < (k : Int)) = false := decide_eq_false (by omega)
      have d8 : decide (20 < k) = false := decide_eq_false (by omega)
      have d7 : decide ((4 : Int) < (Nx : Int)) = true := decide_eq_true (by omega)
      have d9 : decide (4 < Nx) = true := decide_eq_true (by omega)
      replace c4 := Lib.hid c4
      replace c5 := Lib.hid c5
      go_enter Tryz.func13, Tryz.ntmps13
      go_wp2_with fail
      with_reducible refine Calls.mono (MX.out _ (hx.out.below hL0.bl)) ?_
      rintro e x1 ⟨rfl, hb⟩
      replace hL0 := hL0.call hb
      clear hb MX
      go_wp2_with fail
      with_reducible refine Calls.mono (RX.out _ (hx.out.below hL0.bl)) ?_
      rintro e x2 ⟨v6, rfl, h6, hb⟩
      replace hL0 := hL0.call hb
      clear hb RX
      replace h6 := Lib.hid h6
      replace h6 := Lib.hid (h6.out.below (below1 _ (.cells #[.int .u64 ((lo a : Nat) : Int), .string (hs a)] 32)))
      replace hL0 := (hL0.new rfl a 32)
      generalize hweq : (x2.alloc (.cells #[.int .u64 ((lo a : Nat) : Int), .string (hs a)] 32)) = x3 at hL0 h6
      obtain ⟨p15, r15⟩ := hL0.get (x2.heap.size) a (by (repeat (first | with_reducible exact List.mem_cons_self | with_reducible refine List.mem_cons_of_mem _ ?_)))
      go_wp2_with fail
      with_reducible refine Calls.mono (Q.out _) ?_
      rintro e x4 ⟨rfl, hb⟩
      replace hL0 := hL0.call hb
      replace h6 := Lib.hid (h6.out.below hb)
      clear hb Q hweq
      go_wp2_with fail
      with_reducible refine Calls.mono (RQ.out _ _ h6.out) ?_
      rintro e x5 ⟨v21, rfl, h21, hb⟩
      replace hL0 := hL0.call hb
      replace h6 := Lib.hid (h6.out.below hb)
      clear hb RQ
      replace h21 := Lib.hid h21
      go_wp2_with fail
      with_reducible refine Calls.mono (SMr.out _ _ (htab.below hL0.bl) h21.out) ?_
      rintro e x6 ⟨rfl, hb⟩
      replace hL0 := hL0.call hb
      replace h6 := Lib.hid (h6.out.below hb)
      clear hb SMr
      clear h21
      obtain ⟨p16, r16⟩ := hL0.get (x2.heap.size) a (by (repeat (first | with_reducible exact List.mem_cons_self | with_reducible refine List.mem_cons_of_mem _ ?_)))
      go_wp2_with fail
      with_reducible refine Calls.mono (BB.out _) ?_
      rintro e x7 ⟨rfl, hb⟩
      replace hL0 := hL0.call hb
      replace h6 := Lib.hid (h6.out.below hb)
      clear hb BB
      go_wp2_with fail
      with_reducible refine Calls.mono (RB.out _ _ h6.out) ?_
      rintro e x8 ⟨rfl, hb⟩
      replace hL0 := hL0.call hb
      replace h6 := Lib.hid (h6.out.below hb)
      clear hb
      go_wp2_with fail
      with_reducible refine Calls.mono (RB.out _ _ h6.out) ?_
      rintro e x9 ⟨rfl, hb⟩
      replace hL0 := hL0.call hb
      replace h6 := Lib.hid (h6.out.below hb)
      clear hb RB
      go_wp2_with fail
      with_reducible refine Calls.mono (HW.out _ (htab.below hL0.bl)) ?_
      rintro e x10 ⟨rfl, hb⟩
      replace hL0 := hL0.call hb
      replace h6 := Lib.hid (h6.out.below hb)
      clear hb HW
      go_wp2_with fail
      exact bodyPost_ret (v := .bool true) (by simp [results, Tryz.results13, go_sem]) rfl ⟨rfl, hL0.bl⟩
  · have P := fun w => POK.out k (by omega) (.inr ((Nat.le_div_iff_mul_le c1).2 (by rw [Nat.mul_comm]; omega))) w
    have RPk := fun v w hv => RP.out v k c2 w hv
    have SMk := fun v w ht hv => SMp.out k c2 c4 v w ht hv
    generalize a ^ k = p at *
    replace P := Lib.hid P
    replace RPk := Lib.hid RPk
    replace SMk := Lib.hid SMk
    clear SMp RP POK PO
    obtain ⟨z, hz⟩ : ∃ z, z = k * b := ⟨_, rfl⟩
    have hzb : z ≤ 3145728 := by rw [hz]; exact Nat.le_trans (Nat.mul_le_mul (show k ≤ 4096 by omega) nba) (by decide)
    have hzz : (k : Int) * (b : Int) = (z : Int) := by rw [hz]; rfl
    rw [← hz] at c3
    clear hz
    have hzb2 : (z : Int) ≤ 3145728 := by omega
    have dz2 : decide (262144 < z) = false := decide_eq_false (by omega)
    have dz : decide ((262144 : Int) < (z : Int)) = false := decide_eq_false (by omega)
    have d7 : decide ((4 : Int) < (Nx : Int)) = false := decide_eq_false (by omega)
    have d9 : decide (4 < Nx) = false := decide_eq_false (by omega)
    have bq00 : decide ((0 : Int) < (k : Int)) = true := decide_eq_true (by omega)
    have bq01 : decide (0 < k) = true := decide_eq_true (by omega)
    have bq10 : decide ((k : Int) ≤ (4096 : Int)) = true := decide_eq_true (by omega)
    have bq11 : decide (k ≤ 4096) = true := decide_eq_true (by omega)
    have bq20 : decide ((20 : Int) < (k : Int)) = false := decide_eq_false (by omega)
    have bq21 : decide (20 < k) = false := decide_eq_false (by omega)
    have bq30 : decide ((4096 : Int) < (k : Int)) = false := decide_eq_false (by omega)
    have bq31 : decide (4096 < k) = false := decide_eq_false (by omega)
    replace c1 := Lib.hid c1
    replace c2 := Lib.hid c2
    replace c3 := Lib.hid c3
    replace c4 := Lib.hid c4
    have bz : decide ((k : Int) < 0) = false := decide_eq_false (by omega)
    have bz2 : decide ((0 : Int) ≤ (k : Int)) = true := decide_eq_true (by omega)
    go_enter Tryz.func13, Tryz.ntmps13
    go_wp2_with fail
    with_reducible refine Calls.mono (MX.out _ (hx.out.below hL0.bl)) ?_
    rintro e x1 ⟨rfl, hb⟩
    replace hL0 := hL0.call hb
    clear hb MX
    go_wp2_with fail
    with_reducible refine Calls.mono (RX.out _ (hx.out.below hL0.bl)) ?_
    rintro e x2 ⟨v6, rfl, h6, hb⟩
    replace hL0 := hL0.call hb
    clear hb RX
    replace h6 := Lib.hid h6
    replace h6 := Lib.hid (h6.out.below (below1 _ (.cells #[.int .u64 ((lo a : Nat) : Int), .string (hs a)] 32)))
    replace hL0 := (hL0.new rfl a 32)
    generalize hweq : (x2.alloc (.cells #[.int .u64 ((lo a : Nat) : Int), .string (hs a)] 32)) = x3 at hL0 h6
    obtain ⟨p17, r17⟩ := hL0.get (x2.heap.size) a (by (repeat (first | with_reducible exact List.mem_cons_self | with_reducible refine List.mem_cons_of_mem _ ?_)))
    go_wp2_with fail
    with_reducible refine Calls.mono (Q.out _) ?_
    rintro e x4 ⟨rfl, hb⟩
    replace hL0 := hL0.call hb
    replace h6 := Lib.hid (h6.out.below hb)
    clear hb Q hweq
    go_wp2_with fail
    with_reducible refine Calls.mono (RQ.out _ _ h6.out) ?_
    rintro e x5 ⟨v21, rfl, h21, hb⟩
    replace hL0 := hL0.call hb
    replace h6 := Lib.hid (h6.out.below hb)
    clear hb RQ
    replace h21 := Lib.hid h21
    go_wp2_with fail
    with_reducible refine Calls.mono (SMr.out _ _ (htab.below hL0.bl) h21.out) ?_
    rintro e x6 ⟨rfl, hb⟩
    replace hL0 := hL0.call hb
    replace h6 := Lib.hid (h6.out.below hb)
    clear hb SMr
    clear h21
    obtain ⟨p18, r18⟩ := hL0.get (x2.heap.size) a (by (repeat (first | with_reducible exact List.mem_cons_self | with_reducible refine List.mem_cons_of_mem _ ?_)))
    go_wp2_with fail
    with_reducible refine Calls.mono (BB.out _) ?_
    rintro e x7 ⟨rfl, hb⟩
    replace hL0 := hL0.call hb
    replace h6 := Lib.hid (h6.out.below hb)
    clear hb BB
    go_wp2_with fail
    with_reducible refine Calls.mono (RB.out _ _ h6.out) ?_
    rintro e x8 ⟨rfl, hb⟩
    replace hL0 := hL0.call hb
    replace h6 := Lib.hid (h6.out.below hb)
    clear hb
    go_wp2_with fail
    with_reducible refine Calls.mono (RB.out _ _ h6.out) ?_
    rintro e x9 ⟨rfl, hb⟩
    replace hL0 := hL0.call hb
    replace h6 := Lib.hid (h6.out.below hb)
    clear hb RB
    obtain ⟨p19, r19⟩ := hL0.get (x2.heap.size) a (by (repeat (first | with_reducible exact List.mem_cons_self | with_reducible refine List.mem_cons_of_mem _ ?_)))
    go_wp2_with fail
    with_reducible refine Calls.mono (P.out _) ?_
    rintro e x10 ⟨rfl, hb⟩
    replace hL0 := hL0.call hb
    replace h6 := Lib.hid (h6.out.below hb)
    clear hb P
    replace h6 := Lib.hid (h6.out.below (below1 _ (.cells #[.int .u64 ((lo p : Nat) : Int), .string (hs p)] 32)))
    replace hL0 := (hL0.new rfl p 32)
    generalize hweq : (x10.alloc (.cells #[.int .u64 ((lo p : Nat) : Int), .string (hs p)] 32)) = x11 at hL0 h6
    go_upto_region 14 with fail
    clear hweq
    have c0 := (hL0.get (x10.heap.size) p (by (repeat (first | with_reducible exact List.mem_cons_self | with_reducible refine List.mem_cons_of_mem _ ?_)))).1
    have e1 := (hL0.get (x10.heap.size) p (by (repeat (first | with_reducible exact List.mem_cons_self | with_reducible refine List.mem_cons_of_mem _ ?_)))).2
    have hkb : x10.heap.size < x11.drew.heap.size := (hL0.all (x10.heap.size, p) (by (repeat (first | with_reducible exact List.mem_cons_self | with_reducible refine List.mem_cons_of_mem _ ?_)))).2.lt
    replace c0 : x11.drew.cell? ⟨x10.heap.size, 0, none⟩ = _ := c0
    replace e1 : x11.drew.cell? ⟨x10.heap.size, 1, none⟩ = _ := e1
    have r6 := Lib.hid h6.out.drew
    have t0 := (htab.below hL0.bl.drew)
    go_region_held3 (fun w' => w'.cell? ⟨x10.heap.size, 0, none⟩ = some (.int .u64 ((lo p : Nat) : Int)) ∧ w'.cell? ⟨x10.heap.size, 1, none⟩ = some (.string (hs p)))
      (first | exact ⟨c0, e1⟩ | exact ⟨c0a, e1a⟩ | exact ⟨c0b, e1b⟩ | exact ⟨c0c, e1c⟩)
      (first
        | (go_at_call 71; ((with_reducible refine Calls.mono (RPk.out _ _ r6.out) ?_); rintro e w1 ⟨v88, rfl, h88, hb1⟩; have c0a := (hb1.cell (p := ⟨x10.heap.size, 0, none⟩) hkb).trans c0; have e1a := (hb1.cell (p := ⟨x10.heap.size, 1, none⟩) hkb).trans e1; replace h88 := Lib.hid h88))
        | (go_at_call 52; ((with_reducible refine Calls.mono (SMk.out _ _ (t0.below hb1) h88.out) ?_); rintro e w2 ⟨rfl, hb2⟩; have c0b := (hb2.cell (p := ⟨x10.heap.size, 0, none⟩) (Nat.lt_of_lt_of_le hkb hb1.size)).trans c0a; have e1b := (hb2.cell (p := ⟨x10.heap.size, 1, none⟩) (Nat.lt_of_lt_of_le hkb hb1.size)).trans e1a))
        | (go_at_call 16; ((with_reducible refine Calls.mono (works_any _ ((t0.below hb1).below hb2)) ?_); rintro e w3 ⟨rfl, hb3⟩; have c0c := (hb3.cell (p := ⟨x10.heap.size, 0, none⟩) (Nat.lt_of_lt_of_le hkb (Nat.le_trans hb1.size hb2.size))).trans c0b; have e1c := (hb3.cell (p := ⟨x10.heap.size, 1, none⟩) (Nat.lt_of_lt_of_le hkb (Nat.le_trans hb1.size hb2.size))).trans e1b)))
    have hB := ((hL0.bl.drew.trans (hb1.mono hL0.bl.size)).trans (hb2.mono (Nat.le_trans hL0.bl.size hb1.size))).trans (hb3.mono (Nat.le_trans hL0.bl.size (Nat.le_trans hb1.size hb2.size)))
    go_wp2_with fail
    exact bodyPost_ret (v := .bool true) (by simp [results, Tryz.results13, go_sem]) rfl ⟨rfl, hB⟩
  · have d7 : decide ((4 : Int) < (Nx : Int)) = true := decide_eq_true (by omega)
    have d9 : decide (4 < Nx) = true := decide_eq_true (by omega)
    replace c4 := Lib.hid c4
    go_enter Tryz.func13, Tryz.ntmps13
    go_wp2_with fail
    with_reducible refine Calls.mono (MX.out _ (hx.out.below hL0.bl)) ?_
    rintro e x1 ⟨rfl, hb⟩
    replace hL0 := hL0.call hb
    clear hb MX
    go_wp2_with fail
    with_reducible refine Calls.mono (RX.out _ (hx.out.below hL0.bl)) ?_
    rintro e x2 ⟨v6, rfl, h6, hb⟩
    replace hL0 := hL0.call hb
    clear hb RX
    replace h6 := Lib.hid h6
    replace h6 := Lib.hid (h6.out.below (below1 _ (.cells #[.int .u64 ((lo a : Nat) : Int), .string (hs a)] 32)))
    replace hL0 := (hL0.new rfl a 32)
    generalize hweq : (x2.alloc (.cells #[.int .u64 ((lo a : Nat) : Int), .string (hs a)] 32)) = x3 at hL0 h6
    obtain ⟨p20, r20⟩ := hL0.get (x2.heap.size) a (by (repeat (first | with_reducible exact List.mem_cons_self | with_reducible refine List.mem_cons_of_mem _ ?_)))
    go_wp2_with fail
    with_reducible refine Calls.mono (Q.out _) ?_
    rintro e x4 ⟨rfl, hb⟩
    replace hL0 := hL0.call hb
    replace h6 := Lib.hid (h6.out.below hb)
    clear hb Q hweq
    go_wp2_with fail
    with_reducible refine Calls.mono (RQ.out _ _ h6.out) ?_
    rintro e x5 ⟨v21, rfl, h21, hb⟩
    replace hL0 := hL0.call hb
    replace h6 := Lib.hid (h6.out.below hb)
    clear hb RQ
    replace h21 := Lib.hid h21
    go_wp2_with fail
    with_reducible refine Calls.mono (SMr.out _ _ (htab.below hL0.bl) h21.out) ?_
    rintro e x6 ⟨rfl, hb⟩
    replace hL0 := hL0.call hb
    replace h6 := Lib.hid (h6.out.below hb)
    clear hb SMr
    clear h21
    obtain ⟨p21, r21⟩ := hL0.get (x2.heap.size) a (by (repeat (first | with_reducible exact List.mem_cons_self | with_reducible refine List.mem_cons_of_mem _ ?_)))
    go_wp2_with fail
    with_reducible refine Calls.mono (BB.out _) ?_
    rintro e x7 ⟨rfl, hb⟩
    replace hL0 := hL0.call hb
    replace h6 := Lib.hid (h6.out.below hb)
    clear hb BB
    go_wp2_with fail
    with_reducible refine Calls.mono (RB.out _ _ h6.out) ?_
    rintro e x8 ⟨rfl, hb⟩
    replace hL0 := hL0.call hb
    replace h6 := Lib.hid (h6.out.below hb)
    clear hb
    go_wp2_with fail
    with_reducible refine Calls.mono (HW.out _ (htab.below hL0.bl)) ?_
    rintro e x9 ⟨rfl, hb⟩
    replace hL0 := hL0.call hb
    replace h6 := Lib.hid (h6.out.below hb)
    clear hb HW
    go_wp2_with fail
    exact bodyPost_ret (v := .bool true) (by simp [results, Tryz.results13, go_sem]) rfl ⟨rfl, hL0.bl⟩
  · have P := fun w => POK.out 0 (by omega) (.inl rfl) w
    have RPk := fun v w hv => RP.out v 0 (by omega) w hv
    have SMk := fun v w ht hv => SMp.out 0 (by omega) c4 v w ht hv
    generalize a ^ 0 = p at *
    replace P := Lib.hid P
    replace RPk := Lib.hid RPk
    replace SMk := Lib.hid SMk
    clear SMp RP POK PO
    have d7 : decide ((4 : Int) < (Nx : Int)) = false := decide_eq_false (by omega)
    have d9 : decide (4 < Nx) = false := decide_eq_false (by omega)
    replace c4 := Lib.hid c4
    go_enter Tryz.func13, Tryz.ntmps13
    go_wp2_with fail
    with_reducible refine Calls.mono (MX.out _ (hx.out.below hL0.bl)) ?_
    rintro e x1 ⟨rfl, hb⟩
    replace hL0 := hL0.call hb
    clear hb MX
    go_wp2_with fail
    with_reducible refine Calls.mono (RX.out _ (hx.out.below hL0.bl)) ?_
    rintro e x2 ⟨v6, rfl, h6, hb⟩
    replace hL0 := hL0.call hb
    clear hb RX
    replace h6 := Lib.hid h6
    replace h6 := Lib.hid (h6.out.below (below1 _ (.cells #[.int .u64 ((lo a : Nat) : Int), .string (hs a)] 32)))
    replace hL0 := (hL0.new rfl a 32)
    generalize hweq : (x2.alloc (.cells #[.int .u64 ((lo a : Nat) : Int), .string (hs a)] 32)) = x3 at hL0 h6
    obtain ⟨p22, r22⟩ := hL0.get (x2.heap.size) a (by (repeat (first | with_reducible exact List.mem_cons_self | with_reducible refine List.mem_cons_of_mem _ ?_)))
    go_wp2_with fail
    with_reducible refine Calls.mono (Q.out _) ?_
    rintro e x4 ⟨rfl, hb⟩
    replace hL0 := hL0.call hb
    replace h6 := Lib.hid (h6.out.below hb)
    clear hb Q hweq
    go_wp2_with fail
    with_reducible refine Calls.mono (RQ.out _ _ h6.out) ?_
    rintro e x5 ⟨v21, rfl, h21, hb⟩
    replace hL0 := hL0.call hb
    replace h6 := Lib.hid (h6.out.below hb)
    clear hb RQ
    replace h21 := Lib.hid h21
    go_wp2_with fail
    with_reducible refine Calls.mono (SMr.out _ _ (htab.below hL0.bl) h21.out) ?_
    rintro e x6 ⟨rfl, hb⟩
    replace hL0 := hL0.call hb
    replace h6 := Lib.hid (h6.out.below hb)
    clear hb SMr
    clear h21
    obtain ⟨p23, r23⟩ := hL0.get (x2.heap.size) a (by (repeat (first | with_reducible exact List.mem_cons_self | with_reducible refine List.mem_cons_of_mem _ ?_)))
    go_wp2_with fail
    with_reducible refine Calls.mono (BB.out _) ?_
    rintro e x7 ⟨rfl, hb⟩
    replace hL0 := hL0.call hb
    replace h6 := Lib.hid (h6.out.below hb)
    clear hb BB
    go_wp2_with fail
    with_reducible refine Calls.mono (RB.out _ _ h6.out) ?_
    rintro e x8 ⟨rfl, hb⟩
    replace hL0 := hL0.call hb
    replace h6 := Lib.hid (h6.out.below hb)
    clear hb
    obtain ⟨p24, r24⟩ := hL0.get (x2.heap.size) a (by (repeat (first | with_reducible exact List.mem_cons_self | with_reducible refine List.mem_cons_of_mem _ ?_)))
    go_wp2_with fail
    with_reducible refine Calls.mono (P.out _) ?_
    rintro e x9 ⟨rfl, hb⟩
    replace hL0 := hL0.call hb
    replace h6 := Lib.hid (h6.out.below hb)
    clear hb P
    replace h6 := Lib.hid (h6.out.below (below1 _ (.cells #[.int .u64 ((lo p : Nat) : Int), .string (hs p)] 32)))
    replace hL0 := (hL0.new rfl p 32)
    generalize hweq : (x9.alloc (.cells #[.int .u64 ((lo p : Nat) : Int), .string (hs p)] 32)) = x10 at hL0 h6
    go_upto_region 14 with fail
    clear hweq
    have c0 := (hL0.get (x9.heap.size) p (by (repeat (first | with_reducible exact List.mem_cons_self | with_reducible refine List.mem_cons_of_mem _ ?_)))).1
    have e1 := (hL0.get (x9.heap.size) p (by (repeat (first | with_reducible exact List.mem_cons_self | with_reducible refine List.mem_cons_of_mem _ ?_)))).2
    have hkb : x9.heap.size < x10.drew.heap.size := (hL0.all (x9.heap.size, p) (by (repeat (first | with_reducible exact List.mem_cons_self | with_reducible refine List.mem_cons_of_mem _ ?_)))).2.lt
    replace c0 : x10.drew.cell? ⟨x9.heap.size, 0, none⟩ = _ := c0
    replace e1 : x10.drew.cell? ⟨x9.heap.size, 1, none⟩ = _ := e1
    have r6 := Lib.hid h6.out.drew
    have t0 := (htab.below hL0.bl.drew)
    go_region_held3 (fun w' => w'.cell? ⟨x9.heap.size, 0, none⟩ = some (.int .u64 ((lo p : Nat) : Int)) ∧ w'.cell? ⟨x9.heap.size, 1, none⟩ = some (.string (hs p)))
      (first | exact ⟨c0, e1⟩ | exact ⟨c0a, e1a⟩ | exact ⟨c0b, e1b⟩ | exact ⟨c0c, e1c⟩)
      (first
        | (go_at_call 71; ((with_reducible refine Calls.mono (RPk.out _ _ r6.out) ?_); rintro e w1 ⟨v88, rfl, h88, hb1⟩; have c0a := (hb1.cell (p := ⟨x9.heap.size, 0, none⟩) hkb).trans c0; have e1a := (hb1.cell (p := ⟨x9.heap.size, 1, none⟩) hkb).trans e1; replace h88 := Lib.hid h88))
        | (go_at_call 52; ((with_reducible refine Calls.mono (SMk.out _ _ (t0.below hb1) h88.out) ?_); rintro e w2 ⟨rfl, hb2⟩; have c0b := (hb2.cell (p := ⟨x9.heap.size, 0, none⟩) (Nat.lt_of_lt_of_le hkb hb1.size)).trans c0a; have e1b := (hb2.cell (p := ⟨x9.heap.size, 1, none⟩) (Nat.lt_of_lt_of_le hkb hb1.size)).trans e1a))
        | (go_at_call 16; ((with_reducible refine Calls.mono (works_any _ ((t0.below hb1).below hb2)) ?_); rintro e w3 ⟨rfl, hb3⟩; have c0c := (hb3.cell (p := ⟨x9.heap.size, 0, none⟩) (Nat.lt_of_lt_of_le hkb (Nat.le_trans hb1.size hb2.size))).trans c0b; have e1c := (hb3.cell (p := ⟨x9.heap.size, 1, none⟩) (Nat.lt_of_lt_of_le hkb (Nat.le_trans hb1.size hb2.size))).trans e1b)))
    have hB := ((hL0.bl.drew.trans (hb1.mono hL0.bl.size)).trans (hb2.mono (Nat.le_trans hL0.bl.size hb1.size))).trans (hb3.mono (Nat.le_trans hL0.bl.size (Nat.le_trans hb1.size hb2.size)))
    go_wp2_with fail
    exact bodyPost_ret (v := .bool true) (by simp [results, Tryz.results13, go_sem]) rfl ⟨rfl, hB⟩

theorem roots_any (vx : Value) (lx : List Nat) (n : Int) (hn63 : n < 9223372036854775808) (w : World) (htab : Tab w) (hx : Ws w vx lx) :
    Calls Tryz.prog 13 #[vx, .int .i64 n] w fun e w' => e = .returned (.bool true) ∧ Below w.heap.size w w' := by
  by_cases h : 12 < lx.length
  · obtain ⟨ax, cx, rfl⟩ := hx.form
    exact roots_big ax cx _ n h w htab
  · exact roots_small vx lx n hn63 w htab hx (by omega)
end Go.Proofs.YthehcjfmokabfaaGreatDoor

/-
  The reference of layer 1, walks L: leading; the step of Div, as mathematics.
-/
namespace Go.Proofs.YthehcjfmokabfaaGreatDoor.Rx
open Go.RowKit
attribute [local irreducible] tv dg cmpI txt decB nb isq

theorem td_drop (n k : Nat) : (td n).drop k = td (n / 10000 ^ k) := by
  induction k generalizing n with
  | zero => simp
  | succ k ih =>
    by_cases h : n = 0
    · rw [h, Nat.zero_div, td_zero]; simp
    · rw [td_pos h, List.drop_succ_cons, ih, Nat.div_div_eq_div_mul, Nat.pow_succ, Nat.mul_comm 10000]

set_option maxHeartbeats 4000000 in
set_option maxRecDepth 100000 in
theorem rleading_any (v : Value) (l : List Nat) (F : Nat) (hd : ∀ d ∈ l, d < 10000) (hF : F ≤ 1000000) (hl : l.length ≤ F + 4) (w : World) (h : Sl w v l) :
    Calls Tryz.prog 108 #[v, .int .i64 (F : Int)] w fun e w' => e = .returned (.int .i64 ((tv (l.drop F) : Nat) : Int)) ∧ w = w' := by
  obtain ⟨ao, c, rfl, hv⟩ := h.view
  obtain ⟨n, hn⟩ : ∃ n, n = l.length := ⟨_, rfl⟩
  rw [← hn] at hl hv ⊢
  have h0 := Lib.hid (show tv (l.drop n) = 0 by rw [List.drop_eq_nil_of_le (by omega), tv_nil])
  replace hn := Lib.hid hn
  replace hv := Lib.hid hv
  replace hd := Lib.hid hd
  clear h
  go_enter Tryz.func108, Tryz.ntmps108
  go_wp2_with fail
  go_loopw [5, 6] (fun s z wr => ∃ j : Nat, j ≤ n ∧ (F ≤ j ∨ j = n) ∧ z = .int .i64 ((j : Int) - 1) ∧ s = .int .i64 ((tv (l.drop j) : Nat) : Int) ∧ w = wr) (fun _ z _ => (intOf z + 1).toNat)
  case atStart => exact ⟨n, Nat.le_refl _, .inr rfl, by first | rfl | go_num, by rw [h0.out]; rfl, rfl⟩
  case round =>
    obtain ⟨j, hj, hFj, rfl, rfl, rfl⟩ := hrel
    rcases Nat.lt_or_ge F j with hlt | hge
    · obtain ⟨i, rfl⟩ : ∃ i, j = i + 1 := ⟨j - 1, by omega⟩
      obtain ⟨a, rfl, -, hs⟩ := hv.out (by omega)
      have hil : i < l.length := by have := hn.out; omega
      have hcell := hs.cell i hil
      have hx := hd.out _ (List.getElem_mem hil)
      have hnext : tv (l.drop i) = l[i] + 10000 * tv (l.drop (i + 1)) := by rw [List.drop_eq_getElem_cons hil, tv_cons]
      have hT : tv (l.drop (i + 1)) < 1000000000000 := by
        have h1 := tv_lt (l := l.drop (i + 1)) fun d hdd => hd.out d (List.mem_of_mem_drop hdd)
        exact Nat.lt_of_lt_of_le h1 (Nat.le_trans (Nat.pow_le_pow_right (by omega) (show _ ≤ 3 by rw [List.length_drop]; have := hn.out; omega)) (by decide))
      have e1 : (((i + 1 : Nat) : Int) - 1) = (i : Int) := by omega
      have k1 : (F : Int) ≤ (i : Int) := by omega
      have k2 : (i : Int) < (n : Int) := by omega
      have hTi : ((tv (l.drop (i + 1)) : Nat) : Int) ≤ 1000000000000 := by omega
      clear hT hs
      generalize l[i] = x at *
      generalize tv (l.drop (i + 1)) = T at *
      replace hnext := Lib.hid hnext
      replace hFj := Lib.hid hFj
      rw [e1]
      go_wp2_with fail
      go_roundw
      case rel => exact ⟨i, by omega, .inl (by omega), by first | rfl | go_num, (by rw [hnext.out]; go_num), by trivial⟩
      case measure => simp [intOf]
    · have hfin : tv (l.drop j) = tv (l.drop F) := by
        rcases hFj with h | h
        · rw [show j = F by omega]
        · rw [List.drop_eq_nil_of_le (by have := hn.out; omega), List.drop_eq_nil_of_le (by have := hn.out; omega)]
      have k1 : ¬ (F : Int) ≤ (j : Int) - 1 := by omega
      replace hfin := Lib.hid hfin
      replace hFj := Lib.hid hFj
      go_wp2_with fail
      go_ret
      exact ⟨by rw [← hfin.out]; rfl, rfl⟩

/-- What Div's rounds keep: the digits from i on are the quotient's, r is what is left. -/
structure DivS (a b : Nat) (A X : List Nat) (i r : Nat) : Prop where
  lt : ∀ d ∈ X, d < 10000
  zero : ∀ (k : Nat) (h : k < X.length), k < i → X[k] = 0
  eq : tv X * b + 10000 ^ i * r + tv (A.take i) = a
  rem : r < b
theorem DivS.step {a b i r : Nat} {A X : List Nat} (h : DivS a b A X (i + 1) r) (hA : ∀ d ∈ A, d < 10000) (hi : i < X.length) {y : Nat} (hy : y = dg A i + 10000 * r) :
    y / b ≤ 9999 ∧ DivS a b A (X.set i (y / b)) i (y - b * (y / b)) := by
  have hb : 0 < b := Nat.lt_of_le_of_lt (Nat.zero_le _) h.rem
  have hx := dg_lt hA i
  have hr := h.rem
  have hq : y / b ≤ 9999 := by
    have h1 : y < 10000 * b := by
      have : 10000 * (r + 1) ≤ 10000 * b := Nat.mul_le_mul_left _ hr
      omega
    have := (Nat.div_lt_iff_lt_mul hb).2 h1
    omega
  have e := tv_set0 hi (h.zero i hi (by omega)) (y / b)
  have hm := Nat.div_add_mod y b
  have hml := Nat.mod_lt y hb
  refine ⟨hq, fun x hx => ?_, fun k hk hki => ?_, ?_, by omega⟩
  · rcases List.mem_or_eq_of_mem_set hx with hx | hx
    · exact h.lt x hx
    · omega
  · rw [List.getElem_set_ne (by omega)]
    exact h.zero k (by rw [List.length_set] at hk; exact hk) (by omega)
  · have e0 := h.eq
    rw [tv_take, Nat.pow_succ] at e0
    rw [e, Nat.add_mul]
    have e1 : 10000 ^ i * (y / b) * b + 10000 ^ i * (y - b * (y / b)) = 10000 ^ i * dg A i + 10000 ^ i * 10000 * r := by
      rw [Nat.mul_assoc, Nat.mul_assoc, ← Nat.mul_add, ← Nat.mul_add, Nat.mul_comm (y / b) b, show b * (y / b) + (y - b * (y / b)) = y by omega, hy]
    generalize tv X * b = p1 at *
    generalize 10000 ^ i * (y / b) * b = p2 at *
    generalize 10000 ^ i * (y - b * (y / b)) = p3 at *
    generalize 10000 ^ i * dg A i = p4 at *
    generalize 10000 ^ i * 10000 * r = p5 at *
    omega
theorem DivS.done {a b r : Nat} {A X : List Nat} (h : DivS a b A X 0 r) : tv X = a / b ∧ r = a % b := by
  have e := h.eq
  rw [Nat.pow_zero, Nat.one_mul, List.take_zero, tv_nil, Nat.add_zero, Nat.mul_comm] at e
  have hb : 0 < b := Nat.lt_of_le_of_lt (Nat.zero_le _) h.rem
  rw [← e]
  exact ⟨by rw [Nat.mul_add_div hb, Nat.div_eq_of_lt h.rem, Nat.add_zero], by rw [Nat.mul_add_mod, Nat.mod_eq_of_lt h.rem]⟩
theorem DivS.start {a b : Nat} (hab : b ≤ a) (hb : 0 < b) : ∃ i, i + (td b).length = (td a).length + 1 ∧ DivS a b (td a) (List.replicate i 0) i (tv ((td a).drop i)) := by
  have hlen := td_mono hab
  have hbl : 0 < (td b).length := by
    rcases Nat.eq_zero_or_pos (td b).length with h | h
    · have := td_nil.1 (List.eq_nil_of_length_eq_zero h); omega
    · exact h
  refine ⟨(td a).length + 1 - (td b).length, by omega, fun d hd => by rw [(List.mem_replicate.1 hd).2]; omega, fun k h _ => by simp, ?_, ?_⟩
  · rw [tv_zeros, Nat.zero_mul, Nat.zero_add]
    have := tv_append ((td a).take ((td a).length + 1 - (td b).length)) ((td a).drop ((td a).length + 1 - (td b).length))
    rw [List.take_append_drop, tv_td, List.length_take, Nat.min_eq_left (by omega)] at this
    omega
  · rw [td_drop, tv_td]
    refine Nat.lt_of_not_le fun h => ?_
    have h1 : (td (a / 10000 ^ ((td a).length + 1 - (td b).length))).length = (td b).length - 1 := by
      rw [← td_drop, List.length_drop]; omega
    have := td_mono h
    omega
/-- The bounds that the leading digits give. -/
theorem lead_low {b y F t : Nat} (ht : t = b / 10000 ^ F) : y / 10000 ^ F / (t + 1) * b ≤ y := by
  have hp : 0 < 10000 ^ F := Nat.pow_pos (by omega)
  have h1 : b < 10000 ^ F * (t + 1) := by
    have := Nat.lt_mul_div_succ b hp
    rwa [← ht] at this
  have h2 : y / 10000 ^ F / (t + 1) * b ≤ y / 10000 ^ F / (t + 1) * (10000 ^ F * (t + 1)) := Nat.mul_le_mul_left _ (Nat.le_of_lt h1)
  have h3 : y / 10000 ^ F / (t + 1) * (t + 1) ≤ y / 10000 ^ F := Nat.div_mul_le_self _ _
  have h4 : y / 10000 ^ F * 10000 ^ F ≤ y := Nat.div_mul_le_self _ _
  have h5 : y / 10000 ^ F / (t + 1) * (10000 ^ F * (t + 1)) = (y / 10000 ^ F / (t + 1) * (t + 1)) * 10000 ^ F := by
    rw [Nat.mul_comm (10000 ^ F), Nat.mul_assoc]
  have h6 : (y / 10000 ^ F / (t + 1) * (t + 1)) * 10000 ^ F ≤ y / 10000 ^ F * 10000 ^ F := Nat.mul_le_mul_right _ h3
  omega
theorem lead_high {b y F t : Nat} (ht : t = b / 10000 ^ F) (ht0 : 0 < t) : y / b ≤ y / 10000 ^ F / t := by
  rw [Nat.div_div_eq_div_mul]
  have h1 : 10000 ^ F * t ≤ b := by rw [ht]; exact Nat.mul_div_le _ _
  exact Nat.div_le_div_left h1 (Nat.mul_pos (Nat.pow_pos (by omega)) ht0)
end Go.Proofs.YthehcjfmokabfaaGreatDoor.Rx
