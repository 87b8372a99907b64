/-
  The reference of layer 1, walks J: Pow, Bits.
-/
import Derived.Test.YtgmmfaclchoigaaDoorRk
set_option linter.unusedVariables false
set_option linter.unusedSimpArgs false
namespace Go.Proofs.YtgmmfaclchoigaaDoor.Rx
open Go.RowKit
attribute [local irreducible] tv dg cmpI txt decB nb

theorem td_one : (td 1).length = 1 := by rw [td_pos (by omega), show 1 / 10000 = 0 by rfl, td_zero]; rfl
theorem td_pow_le {a K : Nat} (ha : (td a).length ≤ K) : ∀ i, (td (a ^ i)).length ≤ K * i + 1
  | 0 => by rw [Nat.pow_zero, td_one]; omega
  | i + 1 => by
    have := td_mul_le (td_pow_le ha i) ha
    rw [Nat.pow_succ, Nat.mul_succ]; omega

set_option maxHeartbeats 4000000 in
set_option maxRecDepth 100000 in
theorem rpow_any (v : Value) (a n K : Nat) (hK : (td a).length ≤ K) (hb : K * n + 1 ≤ 1000000) (hK2 : K ≤ 1000000) (hn : n ≤ 1000000) (w : World) (ha : Rn w v a) :
    Calls Tryd.prog 32 #[v, .int .i64 (n : Int)] w fun e w' => ∃ v', e = .returned v' ∧ Rn w' v' (a ^ n) ∧ Below w.heap.size w w' := by
  have O1 := Lib.hid (fun w => rof_val 1 1 rfl (by omega) w)
  have ht := fun i => td_pow_le hK i
  have hbi : ∀ i, i ≤ n → K * i + 1 ≤ 1000000 := fun i hi => Nat.le_trans (Nat.succ_le_succ (Nat.mul_le_mul_left K hi)) hb
  have M := Lib.hid (fun i (hi : i ≤ n) vx w' (hx : Rn w' vx (a ^ i)) (hv : Rn w' v a) => rmul_any vx v (a ^ i) a (Nat.le_trans (ht i) (hbi i hi)) (by omega) w' hx hv)
  replace ha := Lib.hid ha
  clear ht hbi
  go_enter Tryd.func32, Tryd.ntmps32
  go_wp2_with fail
  with_reducible refine Calls.mono (O1.out _) ?_
  rintro e w1 ⟨v1, rfl, hv1, hb1⟩
  have hv1' := Lib.hid hv1
  clear hv1
  go_wp2_with fail
  go_loopw [5, 6] (fun u j wr => ∃ i : Nat, i ≤ n ∧ j = .int .i64 (i : Int) ∧ Rn wr u (a ^ i) ∧ Below w.heap.size w wr) (fun _ j _ => n - (intOf j).toNat)
  case atStart => exact ⟨0, Nat.zero_le _, rfl, by rw [Nat.pow_zero]; exact hv1'.out, hb1⟩
  case round =>
    obtain ⟨i, hi, rfl, hu, hbl⟩ := hrel
    rcases Nat.lt_or_ge i n with hlt | hge
    · have k1 : (i : Int) < (n : Int) := by omega
      have hib : (i : Int) ≤ 1000000 := by omega
      replace hu := Lib.hid hu
      go_wp2_with fail
      with_reducible refine Calls.mono (M.out i hi _ _ hu.out (ha.out.below hbl)) ?_
      rintro e w2 ⟨v2, rfl, hv2, hb2⟩
      replace hv2 := Lib.hid hv2
      go_wp2_with fail
      go_roundw
      case rel => exact ⟨i + 1, hlt, by first | rfl | go_num, by rw [Nat.pow_succ]; exact hv2.out, hbl.trans (hb2.mono hbl.size)⟩
      case measure => simp [intOf]; omega
    · have k1 : ¬ (i : Int) < (n : Int) := by omega
      obtain rfl : i = n := by omega
      replace hu := Lib.hid hu
      go_wp2_with fail
      go_ret
      exact ⟨_, rfl, hu.out, hbl⟩

set_option maxHeartbeats 4000000 in
set_option maxRecDepth 100000 in
theorem rbits_any (v : Value) (a : Nat) (hl : (td a).length ≤ 1000) (hnb : nb a ≤ 1000000) (w : World) (ha : Rn w v a) :
    Calls Tryd.prog 30 #[v] w fun e w' => e = .returned (.int .i64 ((nb a : Nat) : Int)) ∧ Below w.heap.size w w' := by
  have O1 := Lib.hid (fun w => rof_val 1 1 rfl (by omega) w)
  have ht : ∀ i, i ≤ nb a → (td (2 ^ i)).length ≤ 1001 := fun i hi => by
    rcases Nat.eq_zero_or_pos i with h0 | h0
    · rw [h0, Nat.pow_zero, td_one]; omega
    · have hne : a ≠ 0 := fun e => by rw [e, nb_zero] at hi; omega
      obtain ⟨k, h1, h2, -⟩ := nb_spec hne
      have h3 : 2 ^ i ≤ a + a := by
        have : 2 ^ i ≤ 2 ^ (k + 1) := Nat.pow_le_pow_right (by omega) (by omega)
        rw [Nat.pow_succ] at this; omega
      exact Nat.le_trans (td_mono h3) (td_add_le hl hl)
  have A := Lib.hid (fun i (hi : i ≤ nb a) vx w' (hx : Rn w' vx (2 ^ i)) => radd_any vx vx (2 ^ i) (2 ^ i) (Nat.le_trans (ht i hi) (by omega)) (Nat.le_trans (ht i hi) (by omega)) w' hx hx)
  have C := Lib.hid (fun i (hi : i ≤ nb a) vx w' (hx : Rn w' vx (2 ^ i)) (hv : Rn w' v a) => rcmp_any vx v (2 ^ i) a (Nat.le_trans (ht i hi) (by omega)) (by omega) w' hx hv)
  have hlow : ∀ i, i < nb a → 2 ^ i ≤ a := fun i hi => by
    have hne : a ≠ 0 := fun e => by rw [e, nb_zero] at hi; omega
    obtain ⟨k, h1, h2, -⟩ := nb_spec hne
    exact Nat.le_trans (Nat.pow_le_pow_right (by omega) (show i ≤ k by omega)) h2
  have hhigh := nb_lt a
  replace hlow := Lib.hid hlow
  replace hhigh := Lib.hid hhigh
  replace ha := Lib.hid ha
  clear ht
  obtain ⟨n, hn⟩ : ∃ n, n = nb a := ⟨_, rfl⟩
  rw [← hn] at A C hlow hhigh hnb ⊢
  clear hn
  go_enter Tryd.func30, Tryd.ntmps30
  go_wp2_with fail
  with_reducible refine Calls.mono (O1.out _) ?_
  rintro e w1 ⟨v1, rfl, hv1, hb1⟩
  have hv1' := Lib.hid hv1
  clear hv1
  go_wp2_with fail
  go_loopw [3, 4] (fun j u wr => ∃ i : Nat, i ≤ n ∧ j = .int .i64 (i : Int) ∧ Rn wr u (2 ^ i) ∧ Below w.heap.size w wr) (fun j _ _ => n - (intOf j).toNat)
  case atStart => exact ⟨0, Nat.zero_le _, rfl, by rw [Nat.pow_zero]; exact hv1'.out, hb1⟩
  case round =>
    obtain ⟨i, hi, rfl, hu, hbl⟩ := hrel
    replace hu := Lib.hid hu
    have hib : (i : Int) ≤ 1000000 := by omega
    rcases Nat.lt_or_ge i n with hlt | hge
    · have k1 : decide (cmpI (2 ^ i) a ≤ 0) = true := decide_eq_true (by have := hlow.out i hlt; unfold cmpI; split <;> (try split) <;> omega)
      have C1 := Lib.hid (fun vx w' hx hv => C.out i hi vx w' hx hv)
      generalize cmpI (2 ^ i) a = z at *
      go_wp2_with fail
      with_reducible refine Calls.mono (C1.out _ _ hu.out (ha.out.below hbl)) ?_
      rintro e w2 ⟨rfl, hb2⟩
      have hu2 := Lib.hid (hu.out.below hb2)
      have hbl2 := hbl.trans (hb2.mono hbl.size)
      clear hb2
      go_wp2_with fail
      with_reducible refine Calls.mono (A.out i hi _ _ hu2.out) ?_
      rintro e w3 ⟨v3, rfl, hv3, hb3⟩
      replace hv3 := Lib.hid hv3
      go_wp2_with fail
      go_roundw
      case rel => exact ⟨i + 1, hlt, by first | rfl | go_num, by rw [Nat.pow_succ, Nat.mul_two]; exact hv3.out, hbl2.trans (hb3.mono hbl2.size)⟩
      case measure => simp [intOf]; omega
    · obtain rfl : i = n := by omega
      have k1 : decide (cmpI (2 ^ i) a ≤ 0) = false := decide_eq_false (by rw [cmpI_gt hhigh.out]; omega)
      have C1 := Lib.hid (fun vx w' hx hv => C.out i hi vx w' hx hv)
      generalize cmpI (2 ^ i) a = z at *
      go_wp2_with fail
      with_reducible refine Calls.mono (C1.out _ _ hu.out (ha.out.below hbl)) ?_
      rintro e w2 ⟨rfl, hb2⟩
      have hbl2 := hbl.trans (hb2.mono hbl.size)
      clear hb2
      go_wp2_with fail
      go_ret
      exact ⟨rfl, hbl2⟩
end Go.Proofs.YtgmmfaclchoigaaDoor.Rx

/-
  The reference of layer 1, walks K: Sqrt.
-/
namespace Go.Proofs.YtgmmfaclchoigaaDoor.Rx
open Go.RowKit
attribute [local irreducible] tv dg cmpI txt decB nb isq

/-- What the root's digits so far are good for. -/
structure SqS (a j : Nat) (X : List Nat) : Prop where
  lt : ∀ d ∈ X, d < 10000
  zero : ∀ (k : Nat) (h : k < X.length), k < j → X[k] = 0
  low : tv X * tv X ≤ a
  high : a < (tv X + 10000 ^ j) * (tv X + 10000 ^ j)
theorem SqS.start (a m : Nat) (h : (td a).length ≤ 2 * m) : SqS a m (List.replicate m 0) := by
  refine ⟨fun d hd => by rw [(List.mem_replicate.1 hd).2]; omega, fun k h _ => by simp, by rw [tv_zeros]; omega, ?_⟩
  have := td_length.1 h
  rwa [tv_zeros, Nat.zero_add, ← Nat.pow_add, ← Nat.two_mul]
theorem tv_set0 {X : List Nat} {i : Nat} (h : i < X.length) (h0 : X[i] = 0) (d : Nat) : tv (X.set i d) = tv X + 10000 ^ i * d := by
  have := tv_set h d
  rw [h0, Nat.mul_zero, Nat.add_zero] at this
  exact this
theorem SqS.set {a i : Nat} {X : List Nat} (h : SqS a (i + 1) X) (hi : i < X.length) {d : Nat} (hd : d < 10000) (h1 : (tv X + 10000 ^ i * d) * (tv X + 10000 ^ i * d) ≤ a) (h2 : a < (tv X + 10000 ^ i * (d + 1)) * (tv X + 10000 ^ i * (d + 1))) :
    SqS a i (X.set i d) := by
  have e := tv_set0 hi (h.zero i hi (by omega)) d
  refine ⟨fun x hx => ?_, fun k hk hki => ?_, by rw [e]; exact h1, ?_⟩
  · rcases List.mem_or_eq_of_mem_set hx with hx | hx
    · exact h.lt x hx
    · rw [hx]; exact hd
  · rw [List.getElem_set_ne (by omega)]
    exact h.zero k (by rw [List.length_set] at hk; exact hk) (by omega)
  · rw [e, Nat.add_assoc, ← Nat.mul_succ]
    exact h2
theorem SqS.done {a : Nat} {X : List Nat} (h : SqS a 0 X) : tv X = isq a := isq_uniq h.low (by have := h.high; rwa [Nat.pow_zero] at this)

set_option maxHeartbeats 8000000 in
set_option maxRecDepth 100000 in
theorem rsqrt_any (v : Value) (a : Nat) (hl : (td a).length ≤ 1000) (w : World) (ha : Rn w v a) :
    Calls Tryd.prog 28 #[v] w fun e w' => ∃ v', e = .returned v' ∧ Rn w' v' (isq a) ∧ Below w.heap.size w w' := by
  obtain ⟨i0, hi, hz0, hz1, hz2⟩ := info_parts Tryd.infoI
  obtain ⟨ao, ca, ea⟩ := ha.form
  subst ea
  obtain ⟨L, hL⟩ : ∃ L, L = (td a).length := ⟨_, rfl⟩
  obtain ⟨m, hm⟩ : ∃ m, m = (L + 1) / 2 := ⟨_, rfl⟩
  have hst := SqS.start a m (by omega)
  rw [← hL] at hl ha ⊢
  have hmk : ∀ w, (Instr.makeSlice 29 (.int .i64 (((L : Int) + 1) / 2)) (.int .i64 (((L : Int) + 1) / 2))).run Tryd.prog w = .ok (.slice (some ⟨w.heap.size, 0, none⟩) m m) (w.alloc (zobjI m)) :=
    fun w => makeN w _ m (by omega) (by omega)
  have hz := Lib.hid (IB.zeros w m)
  have hmL : m ≤ 501 := by omega
  have hta : (td a).length ≤ 1000 := by rw [← hL]; exact hl
  replace hst := Lib.hid hst
  replace ha := Lib.hid ha
  replace hL := Lib.hid hL
  replace hm := Lib.hid hm
  replace hta := Lib.hid hta
  go_enter Tryd.func28, Tryd.ntmps28
  go_wp2_with fail
  go_loopw [4] (fun z wr => ∃ (j : Nat) (X : List Nat), z = .int .i64 ((j : Int) - 1) ∧ j ≤ m ∧ X.length = m ∧ SqS a j X ∧ IB wr w.heap.size X ∧ Below w.heap.size w wr) (fun z _ => (intOf z + 1).toNat)
  case atStart => exact ⟨m, _, by first | rfl | go_num, Nat.le_refl _, List.length_replicate, hst.out, hz.out, (Below.refl _ _).alloc (Nat.le_refl _) _⟩
  case round =>
    obtain ⟨j, X, rfl, hj, hXl, hS, hX, hbl⟩ := hrel
    clear hmk hz hst
    cases j with
    | zero =>
      have HT := trim_any _ X hS.lt (by rw [hXl]; omega) wr (hX.sl m (by omega))
      rw [hS.done, hXl] at HT
      replace HT := Lib.hid HT
      clear hS hX hXl
      go_wp2_with fail
      with_reducible refine Calls.mono HT.out ?_
      rintro e w1 ⟨v', rfl, hv, rfl⟩
      replace hv := Lib.hid hv
      go_wp2_with fail
      go_ret
      exact ⟨_, rfl, hv.out, hbl⟩
    | succ i =>
      have him : i < m := by omega
      have e1 : (((i + 1 : Nat) : Int) - 1) = (i : Int) := by omega
      have k1 : (i : Int) < (m : Int) := by omega
      have hib : (i : Int) ≤ 501 := by omega
      rw [e1]
      replace hXl := Lib.hid hXl
      have hlo : (tv X + 10000 ^ i * 0) * (tv X + 10000 ^ i * 0) ≤ a := by rw [Nat.mul_zero, Nat.add_zero]; exact hS.low
      have hhi : a < (tv X + 10000 ^ i * (9999 + 1)) * (tv X + 10000 ^ i * (9999 + 1)) := by have := hS.high; rwa [Nat.pow_succ] at this
      replace hS := Lib.hid hS
      replace hX := Lib.hid hX
      replace hlo := Lib.hid hlo
      replace hhi := Lib.hid hhi
      go_wp2_with fail
      go_loopw [5, 6] (fun lv hv wx => ∃ (l h : Nat), lv = .int .i64 (l : Int) ∧ hv = .int .i64 (h : Int) ∧ l ≤ h ∧ h ≤ 9999 ∧ (tv X + 10000 ^ i * l) * (tv X + 10000 ^ i * l) ≤ a ∧ a < (tv X + 10000 ^ i * (h + 1)) * (tv X + 10000 ^ i * (h + 1)) ∧ IB wx w.heap.size X ∧ Below w.heap.size w wx) (fun lv hv _ => (intOf hv - intOf lv).toNat)
      case atStart => exact ⟨0, 9999, rfl, rfl, by omega, Nat.le_refl _, hlo.out, hhi.out, hX.out, hbl⟩
      case round =>
        obtain ⟨l, h, rfl, rfl, hlh, hh9, hq1, hq2, hXb, hbl2⟩ := hrel
        replace hq1 := Lib.hid hq1
        replace hq2 := Lib.hid hq2
        have hcf := hXb.frozen i
        have hcc := hXb.cell i (by rw [hXl.out]; exact him)
        rcases Nat.lt_or_ge l h with hlt | hge
        · have k2 : (l : Int) < (h : Int) := by omega
          obtain ⟨mid, hmid⟩ : ∃ mid, mid = (l + h + 1) / 2 := ⟨_, rfl⟩
          have hmv : ((l : Int) + (h : Int) + 1) / 2 = (mid : Int) := by omega
          have hm1 : l < mid := by omega
          have hm2 : mid ≤ h := by omega
          replace hmid := Lib.hid hmid
          have hnews : ∀ (j : Nat) (u : Value), (X.map iv)[j]? = some u → (wr.alloc (.cells #[] 3)).cell? ((⟨w.heap.size, 0, none⟩ : Addr).add j) = some u := by
            intro j u hju
            rw [List.getElem?_map] at hju
            obtain ⟨x, hx, rfl⟩ := Option.map_eq_some_iff.1 hju
            obtain ⟨hjl, rfl⟩ := List.getElem?_eq_some_iff.1 hx
            rw [add0, World.cell?_alloc_lt _ _ _ hXb.lt]
            exact hXb.cell j hjl
          have hone : ∀ u ∈ X.map iv, u.oneCell' = true := fun u hu => by
            obtain ⟨x, -, rfl⟩ := List.mem_map.1 hu
            rfl
          have hlen : (X.map iv).length = m * 1 := by rw [List.length_map, hXl.out, Nat.mul_one]
          have hXi0 : X[i]'(by rw [hXl.out]; exact him) = 0 := hS.out.zero i (by rw [hXl.out]; exact him) (by omega)
          have hyv : tv (X.set i mid) = tv X + 10000 ^ i * mid := tv_set0 (by rw [hXl.out]; exact him) hXi0 mid
          have hXm : ∀ d ∈ X.set i mid, d < 10000 := fun x hx => by
            rcases List.mem_or_eq_of_mem_set hx with hx | hx
            · exact hS.out.lt x hx
            · omega
          have hsl : (X.set i mid).length = m := by rw [List.length_set]; exact hXl.out
          have htdy : (td (tv (X.set i mid))).length ≤ m := td_length.2 (by have := tv_lt hXm; rwa [hsl] at this)
          have hmap : (X.map iv).set i (.int .i64 (mid : Int)) = (X.set i mid).map iv := by rw [List.map_set]
          have hci : (X.map iv)[i]? = some (.int .i64 0) := by rw [List.getElem?_map, List.getElem?_eq_getElem (by rw [hXl.out]; exact him), Option.map_some, hXi0]; rfl
          obtain ⟨y, hy⟩ : ∃ y, y = tv X + 10000 ^ i * mid := ⟨_, rfl⟩
          rw [hyv, ← hy] at htdy
          rw [← hy] at hyv
          have T := Lib.hid (fun (g' cap : Nat) (wx : World) (h : Sl wx (.slice (some ⟨g', 0, none⟩) (X.set i mid).length cap) (X.set i mid)) => trim_any (.slice (some ⟨g', 0, none⟩) (X.set i mid).length cap) (X.set i mid) hXm (by rw [hsl]; omega) wx h)
          rw [hyv, hsl] at T
          have M := Lib.hid (fun vx wx (h : Rn wx vx y) => rmul_any vx vx y y (by omega) (by omega) wx h h)
          have C := Lib.hid (fun vx wx (h : Rn wx vx (y * y)) (h2 : Rn wx (.slice ao L ca) a) => rcmp_any vx (.slice ao L ca) (y * y) a (Nat.le_trans (td_mul_le htdy htdy) (by omega)) (Nat.le_trans hta.out (by omega)) wx h h2)
          have hmidy : mid = (mid - 1) + 1 := by omega
          replace hnews := Lib.hid hnews
          replace hone := Lib.hid hone
          replace hlen := Lib.hid hlen
          replace hmap := Lib.hid hmap
          replace hy := Lib.hid hy
          replace hmidy := Lib.hid hmidy
          have hsl' := Lib.hid hsl
          have hlt8 := hXb.lt
          replace hXb := Lib.hid hXb
          clear hXi0 hyv hXm hsl htdy hcf hcc
          replace hci := Lib.hid hci
          replace hmv := Lib.hid hmv
          go_wp2_with (at_builtin; refine wpList_append_own _ rfl _ _ 29 rfl wr.heap.size 3 i0 (.int .i64 0) 1 8 Tryd.underlying29 hi hz0 hz1 hz2 rfl (by decide) _ _ _ rfl (World.ownsRow_made wr #[] 0 (Nat.le_refl _) (Nat.zero_le _) rfl) ⟨w.heap.size, 0, none⟩ m m (X.map iv) rfl hlen.out hnews.out hone.out (by unfold maxLen; omega) (by omega) (by simp) ?_)
          rw [hmv.out]
          intro v' w1 hown' hgrow _
          try simp only [Nat.zero_add, List.nil_append] at hown'
          have hw1 : Below wr.heap.size wr w1 := ((Below.refl _ _).alloc (Nat.le_refl _) _).grown hgrow (by simp) (fun j hj => by simp [Value.ownBlock] at hj; omega)
          rcases hown'.2 with ⟨-, h0⟩ | ⟨g', cap', cur, rfl, hg', -⟩
          · omega
          have hc1 := (hown'.cellAt i (by omega)).trans hci.out
          have hf1 := hown'.frozenAt i
          have hst := (hown'.stored i (.int .i64 (mid : Int))).1
          rw [hmap.out] at hst
          have hsx := Lib.hid (Sl.owned hst hsl'.out.symm)
          have hb1 := hw1.setCell (p := ⟨g', i, none⟩) hg' (.int .i64 (mid : Int))
          generalize hW : w1.setCell ⟨g', i, none⟩ (.int .i64 (mid : Int)) = W at hsx hb1
          clear hst hown' hgrow hw1
          go_wp2_with fail
          with_reducible refine Calls.mono (T.out g' cap' W hsx.out) ?_
          rintro e w2 ⟨v2, rfl, hv2, rfl⟩
          replace hv2 := Lib.hid hv2
          clear hW hc1 hf1
          go_wp2_with fail
          with_reducible refine Calls.mono (M.out _ _ hv2.out) ?_
          rintro e w3 ⟨v3, rfl, hv3, hb3⟩
          replace hv3 := Lib.hid hv3
          have hB3 := hb1.trans (hb3.mono hb1.size)
          have hD3 := hbl2.trans (hB3.mono hbl2.size)
          by_cases hle : y * y ≤ a
          · have k3 : decide (cmpI (y * y) a ≤ 0) = true := decide_eq_true (by unfold cmpI; split <;> (try split) <;> omega)
            have C1 := Lib.hid (fun vx wx h h2 => C.out vx wx h h2)
            replace hle := Lib.hid hle
            generalize cmpI (y * y) a = z at *
            go_wp2_with fail
            with_reducible refine Calls.mono (C1.out _ _ hv3.out (ha.out.below hD3)) ?_
            rintro e w4 ⟨rfl, hb4⟩
            have hB4 := hB3.trans (hb4.mono hB3.size)
            have hD4 := hD3.trans (hb4.mono hD3.size)
            clear hb4 hb3 hB3 hD3 hb1
            go_wp2_with fail
            go_roundw
            case rel => exact ⟨mid, h, rfl, rfl, hm2, hh9, (by rw [← hy.out]; exact hle.out), hq2.out, hXb.out.below hB4 hlt8, hD4⟩
            case measure => simp [intOf]; omega
          · have k3 : decide (cmpI (y * y) a ≤ 0) = false := decide_eq_false (by rw [cmpI_gt (by omega)]; omega)
            have C1 := Lib.hid (fun vx wx h h2 => C.out vx wx h h2)
            replace hle := Lib.hid hle
            generalize cmpI (y * y) a = z at *
            go_wp2_with fail
            with_reducible refine Calls.mono (C1.out _ _ hv3.out (ha.out.below hD3)) ?_
            rintro e w4 ⟨rfl, hb4⟩
            have hB4 := hB3.trans (hb4.mono hB3.size)
            have hD4 := hD3.trans (hb4.mono hD3.size)
            clear hb4 hb3 hB3 hD3 hb1
            go_wp2_with fail
            go_roundw
            case rel => exact ⟨l, mid - 1, rfl, by first | rfl | go_num, by omega, by omega, hq1.out, (by rw [← hmidy.out, ← hy.out]; have := hle.out; omega), hXb.out.below hB4 hlt8, hD4⟩
            case measure => simp [intOf]; omega
        · obtain rfl : l = h := by omega
          have k2 : ¬ (l : Int) < (l : Int) := by omega
          have hnx := Lib.hid (hS.out.set (by rw [hXl.out]; exact him) (by omega) hq1.out hq2.out)
          have hXs := Lib.hid (hXb.set i l)
          clear hXb hq1 hq2
          go_wp2_with fail
          go_roundw
          case rel => exact ⟨i, X.set i l, by first | rfl | go_num, by omega, by rw [List.length_set]; exact hXl.out, hnx.out, hXs.out, hbl2.setCell (Nat.le_refl _) _⟩
          case measure => simp [intOf]
end Go.Proofs.YtgmmfaclchoigaaDoor.Rx
