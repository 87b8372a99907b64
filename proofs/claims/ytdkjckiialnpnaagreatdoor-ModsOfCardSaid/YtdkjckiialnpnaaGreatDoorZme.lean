/-
  The law answers true at every input, and leaves its arguments as they were: a part of the proof. CONDITIONS: the package-level tables start as the program's text lays them (the card ties them).
-/
import Derived.Test.YtdkjckiialnpnaaGreatDoorZmd
set_option linter.unusedVariables false
set_option linter.unusedSimpArgs false
namespace Go.Proofs.YtdkjckiialnpnaaGreatDoor
open Go.RowKit
attribute [local irreducible] rsd subN invV invB prB strong strongT
/-- The table of de Bruijn's numbers lies where the program's start laid it. -/
def T32 (w : World) : Prop := Lib.TabIs Tryz.prog w "math/bits.deBruijn32tab" .u8 (Lib.deBruijn32tab.map (fun n : Nat => (n : Int)))
theorem T32.below {w w' : World} (h : T32 w) (hb : Below w.heap.size w w') : T32 w' := by
 unfold T32 Lib.TabIs World.var? at h ⊢
 cases hg : Tryz.prog.globalNamed "math/bits.deBruijn32tab" with
 | none => rw [hg] at h; simp at h
 | some g =>
  rw [hg] at h
  simp only [Option.bind_some] at h ⊢
  have hlt : g < w.heap.size := by
   rcases Nat.lt_or_ge g w.heap.size with h' | h'
   ·exact h'
   ·rw [Array.getElem?_eq_none h'] at h; cases h
  rw [hb.block g hlt]
  exact h
theorem gBr : Tryz.prog.globalNamed "math/bits.deBruijn32tab" = some 0 := by kernel_rfl
theorem tz32 (x : Nat) (hx : x < 4294967296) (w : World) (hT : T32 w) :
  Calls Tryz.prog 140 #[.int .u32 (x : Int)] w fun e w' => e = .returned (.int .i64 ((Lib.ctz 32 x : Nat) : Int)) ∧ w' = w :=
 Tryz.bits_TrailingZeros32 x hx w (fun _ j hj => by
  have := Lib.TabIs.cell hT gBr j (by rw [List.length_map]; exact hj)
  rw [this]
  simp [List.getD, hj])
theorem ctz_split {x : Nat} (h0 : 0 < x) (hx : x < 4294967296) : ∃ m, x = m * 2 ^ Lib.ctz 32 x ∧ m % 2 = 1 ∧ Lib.ctz 32 x < 32 := by
 obtain ⟨m, h1, h2⟩ := Lib.ctzFrom_spec 32 x h0 hx
 have e : Lib.ctz 32 x = Lib.ctzFrom 32 x := by unfold Lib.ctz; rw [if_neg (by omega)]
 rw [e]
 exact ⟨2 * m + 1, by rw [Nat.mul_comm]; exact h1, by omega, h2⟩
set_option maxHeartbeats 4000000 in
set_option maxRecDepth 100000 in
theorem prime_small (n : Nat) (hs : n < 4 ∨ n % 2 = 0) (hn : n < 4294967296) (r : Bool) (hr : r = decide (n = 2 ∨ n = 3)) (w : World) :
  Calls Tryz.prog 58 #[.int .u32 (n : Int)] w fun e w' => e = .returned (.bool r) ∧ Below w.heap.size w w' := by
 rcases Nat.lt_or_ge n 4 with h4 | h4
 ·obtain rfl | rfl | rfl | rfl : n = 0 ∨ n = 1 ∨ n = 2 ∨ n = 3 := by omega
  all_goals (
   subst hr
   clear hs
   go_enter Tryz.func58, Tryz.ntmps58
   go_wp2_with fail
   go_step3
   go_wp2_with fail
   rw [Exit.noGoto_ret]
   go_ret
   exact ⟨rfl, Below.refl _ _⟩)
 ·have h2 : n % 2 = 0 := by omega
  obtain rfl : r = false := by rw [hr]; simp; omega
  have e1 : ¬ (n : Int) < 4 := by omega
  have e2 : (n : Int) % 2 = 0 := by omega
  have e3 : ((n : Int) == 2) = false := by simp; omega
  have e4 : ((n : Int) == 3) = false := by simp; omega
  clear hr hs
  go_enter Tryz.func58, Tryz.ntmps58
  go_wp2_with fail
  go_step3
  go_wp2_with fail
  rw [Exit.noGoto_ret]
  go_ret
  exact ⟨rfl, Below.refl _ _⟩
theorem ixA (w : World) : (Instr.index 178 (.agg #[.int .u32 2, .int .u32 7, .int .u32 61]) (.int .i64 0)).run Tryz.prog w = .ok (.int .u32 2) w := by simp [Instr.index, go_sem, Tryz.isAgg22, Tryz.sizeOf22]
theorem ixB (w : World) : (Instr.index 178 (.agg #[.int .u32 2, .int .u32 7, .int .u32 61]) (.int .i64 1)).run Tryz.prog w = .ok (.int .u32 7) w := by simp [Instr.index, go_sem, Tryz.isAgg22, Tryz.sizeOf22]
theorem ixC (w : World) : (Instr.index 178 (.agg #[.int .u32 2, .int .u32 7, .int .u32 61]) (.int .i64 2)).run Tryz.prog w = .ok (.int .u32 61) w := by simp [Instr.index, go_sem, Tryz.isAgg22, Tryz.sizeOf22]
set_option maxHeartbeats 4000000 in
set_option maxRecDepth 100000 in
theorem minus_any (P l g : Nat) (b : Bool) (w : World) (hb : ((P : Int) == (l : Int)) = b) (hc : w.cell? ⟨g, 0, none⟩ = some (.int .u32 (l : Int))) :
  Calls Tryz.prog 139 #[.int .u32 (P : Int), .pointer (some ⟨g, 0, none⟩)] w fun e w' => e = .returned (.bool b) ∧ w' = w := by
 go_enter Tryz.func139, Tryz.ntmps139
 go_wp2_with fail
 go_ret
 exact ⟨by first | rfl | (simp [hb]), rfl⟩
/-- The witnesses. -/
def wit (i : Nat) : Nat := if i = 0 then 2 else if i = 1 then 7 else 61
set_option maxHeartbeats 4000000 in
set_option maxRecDepth 100000 in
theorem prime_great (n : Nat) (h4 : 4 ≤ n) (ho : n % 2 = 1) (hn : n < 4294967296) (HP : strongT [2, 7, 61] n = true → isPr n) (w : World) (hT : T32 w) :
  Calls Tryz.prog 58 #[.int .u32 (n : Int)] w fun e w' => e = .returned (.bool (prB n)) ∧ Below w.heap.size w w' := by
 have e1 : ¬ (n : Int) < 4 := by omega
 have e2 : ((n : Int) % 2 == 0) = false := by simp; omega
 obtain ⟨l, hl⟩ : ∃ l, l = n - 1 := ⟨_, rfl⟩
 have e3 : (n : Int) - 1 = (l : Int) := by omega
 have e4 : (l : Int) % 4294967296 = (l : Int) := by omega
 obtain ⟨m, hm, hmo, hh⟩ := ctz_split (x := l) (by omega) (by omega)
 have HZ := Lib.hid (fun w hT => tz32 l (by omega) w hT)
 generalize Lib.ctz 32 l = h at *
 have hsh : l / 2 ^ h = m := by rw [hm, Nat.mul_div_cancel _ (Nat.two_pow_pos h)]
 have hml : m ≤ l := by rw [← hsh]; exact Nat.div_le_self _ _
 have hsi : (l : Int) / 2 ^ h = (m : Int) := by rw [← hsh]; push_cast; rfl
 have hh0 : 0 < h := by
  rcases Nat.eq_zero_or_pos h with g | g
  ·exfalso; subst g; rw [Nat.pow_zero, Nat.mul_one] at hm; omega
  ·exact g
 have hmi : (m : Int) % 18446744073709551616 = (m : Int) := by omega
 have hmn : n - 1 = m * 2 ^ h := by rw [← hl, hm]
 replace hmn := Lib.hid hmn
 clear hsh
 replace hm := Lib.hid hm
 replace hmo := Lib.hid hmo
 replace hT := Lib.hid hT
 replace hl := Lib.hid hl
 replace HP := Lib.hid HP
 go_enter Tryz.func58, Tryz.ntmps58
 go_wp2_with fail
 go_step3
 go_wp2_with fail
 have hT1 := Lib.hid (hT.out.below (w' := w.alloc (.cells #[.int .u32 (l : Int)] 22)) ((Below.refl _ _).alloc (Nat.le_refl _) _))
 have hb1 : Below w.heap.size w (w.alloc (.cells #[.int .u32 (l : Int)] 22)) := (Below.refl _ _).alloc (Nat.le_refl _) _
 have hc1 : (w.alloc (.cells #[.int .u32 (l : Int)] 22)).cell? ⟨w.heap.size, 0, none⟩ = some (.int .u32 (l : Int)) := by rw [World.cell?_alloc_new]; rfl
 generalize w.alloc (.cells #[.int .u32 (l : Int)] 22) = w1 at *
 with_reducible refine Calls.mono (HZ.out _ hT1.out) ?_
 rintro e w2 ⟨rfl, rfl⟩
 go_wp2_with fail
 go_step3
 go_wp2_with fail
 go_loopg [28] 3 (fun g iv wr => ∃ i : Nat, i + g = 3 ∧ iv = .int .i64 (i : Int) ∧ (∀ j, j < i → wit j = n ∨ strong (wit j) n = true) ∧ wr = w2)
 case atStart => exact ⟨0, rfl, rfl, fun j hj => by omega, rfl⟩
 case round =>
  obtain ⟨i, hig, rfl, hpass, rfl⟩ := hrel
  replace hpass := Lib.hid hpass
  cases gk with
  | zero =>
   obtain rfl : i = 3 := by omega
   have hpr : prB n = true := prB_of (by
    rcases hpass.out 0 (by omega) with g | g2
    ·have : (2 : Nat) = n := g
     omega
    rcases hpass.out 1 (by omega) with g | g7
    ·have : (7 : Nat) = n := g
     rw [← this]; exact isPr_of (n := 1) (by decide) (by decide) (by decide +kernel)
    rcases hpass.out 2 (by omega) with g | g61
    ·have : (61 : Nat) = n := g
     rw [← this]; exact isPr_of (n := 6) (by decide) (by decide) (by decide +kernel)
    exact HP.out (strongT_three (by omega) g2 g7 g61))
   go_wp2_with fail
   try rw [Exit.noGoto_ret]
   go_ret
   exact ⟨by rw [hpr]; rfl, hb1⟩
  | succ g0 =>
   obtain rfl | rfl | rfl : i = 0 ∨ i = 1 ∨ i = 2 := by omega
   ·have hix := ixA
    have hprb : isPr 2 := isPr_of (n := 0) (by decide) (by decide) (by decide +kernel)
    have hnb : n ≠ 2 := by omega
    have hnd : ¬ n ∣ 2 := fun g => by rcases hprb.2 n g with q | q <;> omega
    have k0 : ((2 : Int) == (n : Int)) = false := by simp; omega
    have PW := Lib.hid (mpow_any 2 m n (by omega) (by omega) hn)
    have hrl := rsd_lt32 (2 ^ m) hn
    have hre : rsd (2 ^ m) n = 2 ^ m % n := rsd_pos (by omega)
    generalize rsd (2 ^ m) n = P0 at *
    replace hre := Lib.hid hre
    replace hnd := Lib.hid hnd
    clear hprb hnb
    by_cases hone : P0 = 1
    ·subst hone
     have hst := Lib.hid (strong_of (rootOk_one hmn.out hmo.out hre.out.symm) hh0 (by omega))
     go_wp2_with fail
     with_reducible refine Calls.mono (PW.out _) ?_
     rintro e w3 ⟨rfl, rfl⟩
     go_wp2_with fail
     go_roundg g0
     case measure => omega
     case rel => exact ⟨1, by omega, rfl, fun j hj => by
      rcases Nat.lt_or_ge j 0 with q | q
      ·exact hpass.out j q
      ·obtain rfl : j = 0 := by omega
       exact .inr hst.out, by first | rfl | trivial⟩
    have k1 : ((P0 : Int) == 1) = false := by simp; omega
    go_wp2_with fail
    with_reducible refine Calls.mono (PW.out _) ?_
    rintro e w3 ⟨rfl, rfl⟩
    clear hix k0 PW HZ
    go_wp2_with fail
    go_loopg [8, 44] h (fun g pv kv wx => ∃ P k : Nat, k + g = h ∧ kv = .int .i64 (k : Int) ∧ pv = .int .u32 (P : Int) ∧ P < 4294967296 ∧ P = 2 ^ (m * 2 ^ k) % n ∧ (∀ j, j < k → 2 ^ (m * 2 ^ j) % n ≠ n - 1) ∧ wx = w3)
    case atStart => exact ⟨P0, 0, by omega, rfl, rfl, hrl, by rw [hre.out, Nat.pow_zero, Nat.mul_one], fun j hj => by omega, rfl⟩
    case round =>
     obtain ⟨P, k, hkg, rfl, rfl, hPl, hPe, hne, rfl⟩ := hrel
     replace hPe := Lib.hid hPe
     replace hne := Lib.hid hne
     clear hrl k1
     cases gk with
     | zero =>
      obtain rfl : k = h := by omega
      have hpr : prB n = false := prB_no (fun hq => by
       rcases prime_strong hq hnd.out hmn.out with g | ⟨j, hj, g⟩
       ·exact hone (hre.out.trans g)
       ·exact hne.out j hj g)
      go_wp2_with fail
      try rw [Exit.noGoto_ret]
      go_ret
      exact ⟨by rw [hpr]; rfl, hb1⟩
     | succ g1 =>
      have k2 : (k : Int) < (h : Int) := by omega
      have hkb : (k : Int) ≤ 32 := by omega
      have MM := Lib.hid (mmul_any P P n hPl hPl hn)
      have hml2 := rsd_lt32 (P * P) hn
      have hme : rsd (P * P) n = 2 ^ (m * 2 ^ (k + 1)) % n := by
       rw [rsd_pos (by omega), hPe.out, ← Nat.mul_mod, ← Nat.pow_add, Nat.pow_succ, Nat.mul_two, Nat.mul_add]
      generalize rsd (P * P) n = P2 at *
      replace hme := Lib.hid hme
      by_cases hpl : P = l
      ·have C := Lib.hid (fun wq hc => minus_any P l w.heap.size true wq (by simp; omega) hc)
       have hst := Lib.hid (strong_of (rootOk_neg hmn.out (i := k) (by omega) (by rw [← hPe.out, hpl, hl.out])) (by omega) (by omega))
       replace hpl := Lib.hid hpl
       go_wp2_with fail
       with_reducible refine Calls.mono (C.out _ hc1) ?_
       rintro e w4 ⟨rfl, rfl⟩
       go_wp2_with fail
       go_roundg g0
       case measure => omega
       case rel => exact ⟨1, by omega, rfl, fun j hj => by
        rcases Nat.lt_or_ge j 0 with q | q
        ·exact hpass.out j q
        ·obtain rfl : j = 0 := by omega
         exact .inr hst.out, by first | rfl | trivial⟩
      ·have C := Lib.hid (fun wq hc => minus_any P l w.heap.size false wq (by simp; omega) hc)
       have hne2 : ∀ j, j < k + 1 → 2 ^ (m * 2 ^ j) % n ≠ n - 1 := fun j hj => by
        rcases Nat.lt_or_ge j k with q | q
        ·exact hne.out j q
        ·obtain rfl : j = k := by omega
         rw [← hPe.out, ← hl.out]; exact hpl
       replace hne2 := Lib.hid hne2
       go_wp2_with fail
       with_reducible refine Calls.mono (C.out _ hc1) ?_
       rintro e w4 ⟨rfl, rfl⟩
       go_wp2_with fail
       with_reducible refine Calls.mono (MM.out _) ?_
       rintro e w5 ⟨rfl, rfl⟩
       go_wp2_with fail
       go_roundg g1
       case measure => omega
       case rel => exact ⟨P2, k + 1, by omega, by first | rfl | go_num, rfl, hml2, hme.out, hne2.out, by first | rfl | trivial⟩
   ·have hix := ixB
    have hprb : isPr 7 := isPr_of (n := 1) (by decide) (by decide) (by decide +kernel)
    rcases Nat.lt_or_ge 0 (if n = 7 then 1 else 0) with hc | hc
    ·have hnb : n = 7 := by
      rcases Nat.decEq n 7 with g | g
      ·rw [if_neg g] at hc; omega
      ·exact g
     have k0 : ((7 : Int) == (n : Int)) = true := by simp; omega
     go_wp2_with fail
     go_roundg g0
     case measure => omega
     case rel => exact ⟨2, by omega, rfl, fun j hj => by
      rcases Nat.lt_or_ge j 1 with q | q
      ·exact hpass.out j q
      ·obtain rfl : j = 1 := by omega
       exact .inl (show 7 = n by omega), by first | rfl | trivial⟩
    have hnb : n ≠ 7 := fun g => by rw [if_pos g] at hc; omega
    clear hc
    have hnd : ¬ n ∣ 7 := fun g => by rcases hprb.2 n g with q | q <;> omega
    have k0 : ((7 : Int) == (n : Int)) = false := by simp; omega
    have PW := Lib.hid (mpow_any 7 m n (by omega) (by omega) hn)
    have hrl := rsd_lt32 (7 ^ m) hn
    have hre : rsd (7 ^ m) n = 7 ^ m % n := rsd_pos (by omega)
    generalize rsd (7 ^ m) n = P0 at *
    replace hre := Lib.hid hre
    replace hnd := Lib.hid hnd
    clear hprb hnb
    by_cases hone : P0 = 1
    ·subst hone
     have hst := Lib.hid (strong_of (rootOk_one hmn.out hmo.out hre.out.symm) hh0 (by omega))
     go_wp2_with fail
     with_reducible refine Calls.mono (PW.out _) ?_
     rintro e w3 ⟨rfl, rfl⟩
     go_wp2_with fail
     go_roundg g0
     case measure => omega
     case rel => exact ⟨2, by omega, rfl, fun j hj => by
      rcases Nat.lt_or_ge j 1 with q | q
      ·exact hpass.out j q
      ·obtain rfl : j = 1 := by omega
       exact .inr hst.out, by first | rfl | trivial⟩
    have k1 : ((P0 : Int) == 1) = false := by simp; omega
    go_wp2_with fail
    with_reducible refine Calls.mono (PW.out _) ?_
    rintro e w3 ⟨rfl, rfl⟩
    clear hix k0 PW HZ
    go_wp2_with fail
    go_loopg [8, 44] h (fun g pv kv wx => ∃ P k : Nat, k + g = h ∧ kv = .int .i64 (k : Int) ∧ pv = .int .u32 (P : Int) ∧ P < 4294967296 ∧ P = 7 ^ (m * 2 ^ k) % n ∧ (∀ j, j < k → 7 ^ (m * 2 ^ j) % n ≠ n - 1) ∧ wx = w3)
    case atStart => exact ⟨P0, 0, by omega, rfl, rfl, hrl, by rw [hre.out, Nat.pow_zero, Nat.mul_one], fun j hj => by omega, rfl⟩
    case round =>
     obtain ⟨P, k, hkg, rfl, rfl, hPl, hPe, hne, rfl⟩ := hrel
     replace hPe := Lib.hid hPe
     replace hne := Lib.hid hne
     clear hrl k1
     cases gk with
     | zero =>
      obtain rfl : k = h := by omega
      have hpr : prB n = false := prB_no (fun hq => by
       rcases prime_strong hq hnd.out hmn.out with g | ⟨j, hj, g⟩
       ·exact hone (hre.out.trans g)
       ·exact hne.out j hj g)
      go_wp2_with fail
      try rw [Exit.noGoto_ret]
      go_ret
      exact ⟨by rw [hpr]; rfl, hb1⟩
     | succ g1 =>
      have k2 : (k : Int) < (h : Int) := by omega
      have hkb : (k : Int) ≤ 32 := by omega
      have MM := Lib.hid (mmul_any P P n hPl hPl hn)
      have hml2 := rsd_lt32 (P * P) hn
      have hme : rsd (P * P) n = 7 ^ (m * 2 ^ (k + 1)) % n := by
       rw [rsd_pos (by omega), hPe.out, ← Nat.mul_mod, ← Nat.pow_add, Nat.pow_succ, Nat.mul_two, Nat.mul_add]
      generalize rsd (P * P) n = P2 at *
      replace hme := Lib.hid hme
      by_cases hpl : P = l
      ·have C := Lib.hid (fun wq hc => minus_any P l w.heap.size true wq (by simp; omega) hc)
       have hst := Lib.hid (strong_of (rootOk_neg hmn.out (i := k) (by omega) (by rw [← hPe.out, hpl, hl.out])) (by omega) (by omega))
       replace hpl := Lib.hid hpl
       go_wp2_with fail
       with_reducible refine Calls.mono (C.out _ hc1) ?_
       rintro e w4 ⟨rfl, rfl⟩
       go_wp2_with fail
       go_roundg g0
       case measure => omega
       case rel => exact ⟨2, by omega, rfl, fun j hj => by
        rcases Nat.lt_or_ge j 1 with q | q
        ·exact hpass.out j q
        ·obtain rfl : j = 1 := by omega
         exact .inr hst.out, by first | rfl | trivial⟩
      ·have C := Lib.hid (fun wq hc => minus_any P l w.heap.size false wq (by simp; omega) hc)
       have hne2 : ∀ j, j < k + 1 → 7 ^ (m * 2 ^ j) % n ≠ n - 1 := fun j hj => by
        rcases Nat.lt_or_ge j k with q | q
        ·exact hne.out j q
        ·obtain rfl : j = k := by omega
         rw [← hPe.out, ← hl.out]; exact hpl
       replace hne2 := Lib.hid hne2
       go_wp2_with fail
       with_reducible refine Calls.mono (C.out _ hc1) ?_
       rintro e w4 ⟨rfl, rfl⟩
       go_wp2_with fail
       with_reducible refine Calls.mono (MM.out _) ?_
       rintro e w5 ⟨rfl, rfl⟩
       go_wp2_with fail
       go_roundg g1
       case measure => omega
       case rel => exact ⟨P2, k + 1, by omega, by first | rfl | go_num, rfl, hml2, hme.out, hne2.out, by first | rfl | trivial⟩
   ·have hix := ixC
    have hprb : isPr 61 := isPr_of (n := 6) (by decide) (by decide) (by decide +kernel)
    rcases Nat.lt_or_ge 0 (if n = 61 then 1 else 0) with hc | hc
    ·have hnb : n = 61 := by
      rcases Nat.decEq n 61 with g | g
      ·rw [if_neg g] at hc; omega
      ·exact g
     have k0 : ((61 : Int) == (n : Int)) = true := by simp; omega
     go_wp2_with fail
     go_roundg g0
     case measure => omega
     case rel => exact ⟨3, by omega, rfl, fun j hj => by
      rcases Nat.lt_or_ge j 2 with q | q
      ·exact hpass.out j q
      ·obtain rfl : j = 2 := by omega
       exact .inl (show 61 = n by omega), by first | rfl | trivial⟩
    have hnb : n ≠ 61 := fun g => by rw [if_pos g] at hc; omega
    clear hc
    have hnd : ¬ n ∣ 61 := fun g => by rcases hprb.2 n g with q | q <;> omega
    have k0 : ((61 : Int) == (n : Int)) = false := by simp; omega
    have PW := Lib.hid (mpow_any 61 m n (by omega) (by omega) hn)
    have hrl := rsd_lt32 (61 ^ m) hn
    have hre : rsd (61 ^ m) n = 61 ^ m % n := rsd_pos (by omega)
    generalize rsd (61 ^ m) n = P0 at *
    replace hre := Lib.hid hre
    replace hnd := Lib.hid hnd
    clear hprb hnb
    by_cases hone : P0 = 1
    ·subst hone
     have hst := Lib.hid (strong_of (rootOk_one hmn.out hmo.out hre.out.symm) hh0 (by omega))
     go_wp2_with fail
     with_reducible refine Calls.mono (PW.out _) ?_
     rintro e w3 ⟨rfl, rfl⟩
     go_wp2_with fail
     go_roundg g0
     case measure => omega
     case rel => exact ⟨3, by omega, rfl, fun j hj => by
      rcases Nat.lt_or_ge j 2 with q | q
      ·exact hpass.out j q
      ·obtain rfl : j = 2 := by omega
       exact .inr hst.out, by first | rfl | trivial⟩
    have k1 : ((P0 : Int) == 1) = false := by simp; omega
    go_wp2_with fail
    with_reducible refine Calls.mono (PW.out _) ?_
    rintro e w3 ⟨rfl, rfl⟩
    clear hix k0 PW HZ
    go_wp2_with fail
    go_loopg [8, 44] h (fun g pv kv wx => ∃ P k : Nat, k + g = h ∧ kv = .int .i64 (k : Int) ∧ pv = .int .u32 (P : Int) ∧ P < 4294967296 ∧ P = 61 ^ (m * 2 ^ k) % n ∧ (∀ j, j < k → 61 ^ (m * 2 ^ j) % n ≠ n - 1) ∧ wx = w3)
    case atStart => exact ⟨P0, 0, by omega, rfl, rfl, hrl, by rw [hre.out, Nat.pow_zero, Nat.mul_one], fun j hj => by omega, rfl⟩
    case round =>
     obtain ⟨P, k, hkg, rfl, rfl, hPl, hPe, hne, rfl⟩ := hrel
     replace hPe := Lib.hid hPe
     replace hne := Lib.hid hne
     clear hrl k1
     cases gk with
     | zero =>
      obtain rfl : k = h := by omega
      have hpr : prB n = false := prB_no (fun hq => by
       rcases prime_strong hq hnd.out hmn.out with g | ⟨j, hj, g⟩
       ·exact hone (hre.out.trans g)
       ·exact hne.out j hj g)
      go_wp2_with fail
      try rw [Exit.noGoto_ret]
      go_ret
      exact ⟨by rw [hpr]; rfl, hb1⟩
     | succ g1 =>
      have k2 : (k : Int) < (h : Int) := by omega
      have hkb : (k : Int) ≤ 32 := by omega
      have MM := Lib.hid (mmul_any P P n hPl hPl hn)
      have hml2 := rsd_lt32 (P * P) hn
      have hme : rsd (P * P) n = 61 ^ (m * 2 ^ (k + 1)) % n := by
       rw [rsd_pos (by omega), hPe.out, ← Nat.mul_mod, ← Nat.pow_add, Nat.pow_succ, Nat.mul_two, Nat.mul_add]
      generalize rsd (P * P) n = P2 at *
      replace hme := Lib.hid hme
      by_cases hpl : P = l
      ·have C := Lib.hid (fun wq hc => minus_any P l w.heap.size true wq (by simp; omega) hc)
       have hst := Lib.hid (strong_of (rootOk_neg hmn.out (i := k) (by omega) (by rw [← hPe.out, hpl, hl.out])) (by omega) (by omega))
       replace hpl := Lib.hid hpl
       go_wp2_with fail
       with_reducible refine Calls.mono (C.out _ hc1) ?_
       rintro e w4 ⟨rfl, rfl⟩
       go_wp2_with fail
       go_roundg g0
       case measure => omega
       case rel => exact ⟨3, by omega, rfl, fun j hj => by
        rcases Nat.lt_or_ge j 2 with q | q
        ·exact hpass.out j q
        ·obtain rfl : j = 2 := by omega
         exact .inr hst.out, by first | rfl | trivial⟩
      ·have C := Lib.hid (fun wq hc => minus_any P l w.heap.size false wq (by simp; omega) hc)
       have hne2 : ∀ j, j < k + 1 → 61 ^ (m * 2 ^ j) % n ≠ n - 1 := fun j hj => by
        rcases Nat.lt_or_ge j k with q | q
        ·exact hne.out j q
        ·obtain rfl : j = k := by omega
         rw [← hPe.out, ← hl.out]; exact hpl
       replace hne2 := Lib.hid hne2
       go_wp2_with fail
       with_reducible refine Calls.mono (C.out _ hc1) ?_
       rintro e w4 ⟨rfl, rfl⟩
       go_wp2_with fail
       with_reducible refine Calls.mono (MM.out _) ?_
       rintro e w5 ⟨rfl, rfl⟩
       go_wp2_with fail
       go_roundg g1
       case measure => omega
       case rel => exact ⟨P2, k + 1, by omega, by first | rfl | go_num, rfl, hml2, hme.out, hne2.out, by first | rfl | trivial⟩
end Go.Proofs.YtdkjckiialnpnaaGreatDoor
