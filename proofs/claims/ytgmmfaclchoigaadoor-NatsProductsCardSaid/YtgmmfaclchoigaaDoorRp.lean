/-
  The reference of layer 1, walks N: Gcd.
-/
import Derived.Test.YtgmmfaclchoigaaDoorRo
set_option linter.unusedVariables false
set_option linter.unusedSimpArgs false
namespace Go.Proofs.YtgmmfaclchoigaaDoor.Rx
open Go.RowKit
attribute [local irreducible] tv dg cmpI txt decB nb isq

theorem Sl.inj {w : World} {v : Value} {l m : List Nat} (h : Sl w v l) (k : Sl w v m) : l = m := by
  rcases h with ⟨ao, c, e1, rfl, -⟩ | ⟨a, c, e1, -, h3⟩
  · rcases k with ⟨_, _, _, rfl, -⟩ | ⟨a', c', e2, -, -⟩
    · rfl
    · rw [e1] at e2
      injection e2 with _ e3 _
      exact (List.eq_nil_of_length_eq_zero e3.symm).symm
  · rcases k with ⟨_, _, e2, rfl, -⟩ | ⟨a', c', e2, -, k3⟩
    · rw [e1] at e2
      injection e2 with _ e3 _
      exact List.eq_nil_of_length_eq_zero e3
    · rw [e1] at e2
      injection e2 with e4 e3 _
      injection e4 with e4
      subst e4
      refine List.ext_getElem e3 fun i h1 h2 => ?_
      have := (h3.cell i h1).symm.trans (k3.cell i h2)
      injection this with this
      injection this with _ this
      exact Int.ofNat.inj this
theorem Rn.inj {w : World} {v : Value} {x y : Nat} (h : Rn w v x) (k : Rn w v y) : x = y := by
  have := congrArg tv (Sl.inj h k)
  rwa [tv_td, tv_td] at this
open Classical in
noncomputable def dec (w : World) (v : Value) : Nat := if h : ∃ y, Rn w v y then h.choose else 0
theorem dec_eq {w : World} {v : Value} {y : Nat} (h : Rn w v y) : dec w v = y := by
  unfold dec
  rw [dif_pos ⟨y, h⟩]
  exact Rn.inj (Exists.choose_spec (⟨y, h⟩ : ∃ y, Rn w v y)) h

set_option maxHeartbeats 4000000 in
set_option maxRecDepth 100000 in
theorem rgcd_any (va vb : Value) (a b : Nat) (la : (td a).length ≤ 1000) (lb : (td b).length ≤ 1000) (w : World) (ha : Rn w va a) (hb : Rn w vb b) :
    Calls Tryd.prog 25 #[va, vb] w fun e w' => ∃ v, e = .returned v ∧ Rn w' v (Nat.gcd a b) ∧ Below w.heap.size w w' := by
  replace ha := Lib.hid ha
  replace hb := Lib.hid hb
  go_enter Tryd.func25, Tryd.ntmps25
  go_wp2_with fail
  go_loopw [0, 1] (fun av bv wr => ∃ (x y : Nat), Rn wr av x ∧ Rn wr bv y ∧ Nat.gcd x y = Nat.gcd a b ∧ (td x).length ≤ 1000 ∧ (td y).length ≤ 1000 ∧ Below w.heap.size w wr) (fun _ bv wr => dec wr bv)
  case atStart => exact ⟨a, b, ha.out, hb.out, rfl, la, lb, Below.refl _ _⟩
  case round =>
    obtain ⟨x, y, hx, hy, hg, lx, ly, hbl⟩ := hrel
    clear ha hb
    have hm := Lib.hid (dec_eq hy)
    obtain ⟨yo, yc, ey⟩ := hy.form
    obtain ⟨xo, xc, ex⟩ := hx.form
    subst ey ex
    obtain ⟨M, hM⟩ : ∃ M, M = (td y).length := ⟨_, rfl⟩
    rcases Nat.eq_zero_or_pos y with h0 | h0
    · have hM0 : M = 0 := by rw [hM, h0, td_zero]; rfl
      have hgx : x = Nat.gcd a b := by rw [← hg, h0, Nat.gcd_zero_right]
      rw [← hM, hM0]
      rw [hgx] at hx
      rw [hgx]
      replace hx := Lib.hid hx
      clear hy hm hM hM0 hg hgx
      go_wp2_with fail
      go_ret
      exact ⟨_, rfl, hx.out, hbl⟩
    · have D := Lib.hid (rdiv_any _ _ x y h0 lx ly wr hx hy)
      rw [← hM] at hy ly D hm ⊢
      have hMp : (0 : Int) < (M : Int) := by
        have : M ≠ 0 := fun h => by
          have := td_nil.1 (List.eq_nil_of_length_eq_zero (hM.symm.trans h))
          omega
        omega
      replace hy := Lib.hid hy
      replace hM := Lib.hid hM
      clear hx
      generalize (td x).length = N at *
      go_wp2_with fail
      with_reducible refine Calls.mono D.out ?_
      rintro e w1 ⟨v1, v2, rfl, h1, h2, hb1⟩
      replace h2 := Lib.hid h2
      clear h1
      have hyb := Lib.hid (hy.out.below hb1)
      have hD := hbl.trans (hb1.mono hbl.size)
      go_wp2_with fail
      go_roundw
      case rel => exact ⟨y, x % y, hyb.out, h2.out, (by rw [← hg, Nat.gcd_comm x y, Nat.gcd_rec y x, Nat.gcd_comm]), (by rw [← hM.out]; exact ly), Nat.le_trans (td_mono (Nat.le_of_lt (Nat.mod_lt x h0))) (by rw [← hM.out]; exact ly), hD⟩
      case measure => rw [dec_eq h2.out, hm.out]; exact Nat.mod_lt x h0
end Go.Proofs.YtgmmfaclchoigaaDoor.Rx
