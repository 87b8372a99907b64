/-
  The law answers true at every input, and leaves its arguments as they were: a part of the proof. CONDITIONS: the package-level tables start as the program's text lays them (the card ties them).
-/
import Derived.Test.YtdmoadfnogdfnaaGreatDoorZdb
set_option linter.unusedVariables false
set_option linter.unusedSimpArgs false
namespace Go.Proofs.YtdmoadfnogdfnaaGreatDoor
open Go.Lib (decDigits nDigits)
theorem pad_length : ∀ k r, (pad k r).length = k
 | 0, _ => rfl
 | k + 1, r => by rw [pad, List.length_append, pad_length k]; rfl
end Go.Proofs.YtdmoadfnogdfnaaGreatDoor
namespace Go.Proofs.YtdmoadfnogdfnaaGreatDoor
open Go.RowKit
attribute [local irreducible] lo hs sm s64 c64 d64 b64 mh ml pd pc qd qc val hiB str cmpI srD lz nb isq decB
set_option maxHeartbeats 2000000 in
set_option maxRecDepth 100000 in
theorem parse_long (l : List UInt8) (h : 4096 < l.length) (hl : l.length ≤ 1000000) (w : World) :
  Calls Tryz.prog 112 #[.string (st l)] w fun e w' => e = .returned (.tuple #[natV 0, .int .i64 3]) ∧ Below w.heap.size w w' := by
 obtain ⟨w0, hw0, hA, hb0, hsz0⟩ := boxes1 w (.int .u64 0) (.string ⟨#[]⟩) 32
 obtain ⟨a0, a1, af⟩ := id hA
 have h1 : decide ((4096 : Int) < ((st l).size : Int)) = true := decide_eq_true (by rw [st_size]; omega)
 have h2 : decide (4096 < (st l).size) = true := decide_eq_true (by rw [st_size]; omega)
 go_enter Tryz.func112, Tryz.ntmps112
 go_wp2_with fail
 exact bodyPost_ret (v := .tuple #[natV 0, .int .i64 3]) (by rw [natV_zero]; simp [results, Tryz.results112, go_sem, a0, a1]) rfl ⟨rfl, (hb0.setCell (by simp <;> omega) _).setCell (by simp <;> omega) _⟩
end Go.Proofs.YtdmoadfnogdfnaaGreatDoor
namespace Go.Proofs.YtdmoadfnogdfnaaGreatDoor.Rx
open Go.RowKit
open Go.Lib (decDigits)
attribute [local irreducible] tv dg cmpI
theorem pad_cons : ∀ (k r : Nat), pad (k + 1) r = dch (r / 10 ^ k % 10) :: pad k r
 | 0, r => by rw [pad, pad, Nat.pow_zero, Nat.div_one]; rfl
 | k + 1, r => by
  rw [pad, pad_cons k (r / 10), pad, List.cons_append, Nat.div_div_eq_div_mul, Nat.pow_succ, Nat.mul_comm 10]
theorem enc_dig (q : Nat) : Utf8.encode (48 + (q : Int) % 10) = ⟨#[dch (q % 10)]⟩ := by
 have h1 : Utf8.valid (48 + (q : Int) % 10) = true := by unfold Utf8.valid; simp; omega
 have h2 : (48 + (q : Int) % 10).toNat = 48 + q % 10 := by omega
 unfold Utf8.encode dch
 simp only [h1, if_true, h2]
 rw [if_pos (by omega)]
theorem ba_cons (c : UInt8) (S : List UInt8) : (⟨#[c]⟩ : ByteArray) ++ ⟨S.toArray⟩ = ⟨(c :: S).toArray⟩ := by
 apply ByteArray.ext
 simp [ByteArray.data_append]
theorem pad_dec {k r : Nat} (h1 : r < 10 ^ k) (h2 : k = 0 ∨ 0 < r / 10 ^ (k - 1)) (hr : 0 < r) : pad k r = decDigits r := by
  have hk : 0 < k := by rcases Nat.eq_zero_or_pos k with h | h; · rw [h, Nat.pow_zero] at h1; omega
                        · exact h
  obtain ⟨e1, e2⟩ := pad_eq k r hk h1
  have h3 : 0 < r / 10 ^ (k - 1) := by rcases h2 with h | h; · omega
                                       · exact h
  have h4 : (decDigits r).length = k := by
    refine Nat.le_antisymm e2 (Nat.le_of_not_lt fun hlt => ?_)
    have h5 : 10 ^ (k - 1) ≤ r := by
      rcases Nat.lt_or_ge r (10 ^ (k - 1)) with h | h
      · rw [Nat.div_eq_of_lt h] at h3; omega
      · exact h
    rcases Nat.eq_zero_or_pos (k - 1) with h0 | h0
    · have := dec_length_pos r; omega
    · have := (dec_length_lt h0).1 (show (decDigits r).length ≤ k - 1 by omega); omega
  rw [e1, h4, Nat.sub_self, List.replicate_zero, List.nil_append]
theorem dec_td {n K : Nat} (hl : (td n).length ≤ K) (hK : 0 < K) : (decDigits n).length ≤ 4 * K := by
 refine (dec_length_lt (by omega)).2 ?_
 have := td_length.1 hl
 rwa [show (10000 : Nat) = 10 ^ 4 by rfl, ← Nat.pow_mul] at this
set_option maxHeartbeats 4000000 in
set_option maxRecDepth 100000 in
theorem rtext_any (v : Value) (n : Nat) (hl : (td n).length ≤ 1000000) (w : World) (hv : Rn w v n) :
    Calls Tryz.prog 41 #[v] w fun e w' => e = .returned (.string (txt n)) ∧ Below w.heap.size w w' := by
  obtain ⟨aa, ca, ea, hva⟩ := hv.view
  subst ea
  have hdl := dec_td hl (by omega)
  obtain ⟨L, hL⟩ : ∃ L, L = (td n).length := ⟨_, rfl⟩
  rw [← hL] at hl hva ⊢
  replace hva := Lib.hid hva
  replace hdl := Lib.hid hdl
  clear hv
  rcases Nat.eq_zero_or_pos L with h0 | h0
  · have hz : n = 0 := td_nil.1 (List.eq_nil_of_length_eq_zero (by rw [← hL]; exact h0))
    have ht : txt n = ⟨#[48]⟩ := by
      unfold txt
      rw [hz, dec_small (by omega)]; rfl
    replace ht := Lib.hid ht
    subst h0
    clear hL hz
    go_enter Tryz.func41, Tryz.ntmps41
    go_wp2_with fail
    go_ret
    exact ⟨by rw [ht.out]; rfl, Below.refl _ _⟩
  · obtain ⟨aA, rfl, -, sA⟩ := hva.out h0
    have hTS := Lib.hid (TS.start (n := n) (by rw [← hL]; exact h0))
    have k1 : ((L : Int) == 0) = false := beq_eq_false_iff_ne.2 (by omega)
    have k1' : (L == 0) = false := beq_eq_false_iff_ne.2 (by omega)
    replace hL := Lib.hid hL
    replace sA := Lib.hid sA
    go_enter Tryz.func41, Tryz.ntmps41
    go_wp2_with fail
    go_loopw [3, 4] (fun s j wr => ∃ (i : Nat) (T : List UInt8), s = .string ⟨T.toArray⟩ ∧ j = .int .i64 (i : Int) ∧ i ≤ L ∧ TS n i T ∧ wr = w) (fun _ j _ => L - (intOf j).toNat)
    case atStart => exact ⟨0, [], rfl, rfl, Nat.zero_le _, hTS.out, rfl⟩
    case round =>
      obtain ⟨i, T, rfl, rfl, hi, hT, rfl⟩ := hrel
      rcases Nat.lt_or_ge i L with hin | hin
      · have k2 : (i : Int) < (L : Int) := by omega
        have hib : (i : Int) ≤ 1000000 := by omega
        have iA : i < (td n).length := by have := hL.out; omega
        have hcell := sA.out.cell i iA
        have hTl := hT.len
        have hdl' := hdl.out
        have hst := hT.step iA
        have hla := hT.last iA
        have hD := td_lt n _ (List.getElem_mem iA)
        clear hT
        obtain ⟨D, hDe⟩ : ∃ D, D = (td n)[i] := ⟨_, rfl⟩
        rw [← hDe] at hcell hD hst hla
        replace hst := Lib.hid hst
        replace hla := Lib.hid hla
        replace hDe := Lib.hid hDe
        go_wp2_with fail
        go_loopw [3, 5, 6] (fun s d j wx => ∃ (k : Nat), s = .string ⟨(pad k D ++ T).toArray⟩ ∧ d = .int .i64 ((D / 10 ^ k : Nat) : Int) ∧ j = .int .i64 (k : Int) ∧ k ≤ 4 ∧ (i + 1 = L → k = 0 ∨ 0 < D / 10 ^ (k - 1)) ∧ wx = wr) (fun _ _ j _ => 4 - (intOf j).toNat)
        case atStart => exact ⟨0, by rw [pad]; rfl, by rw [Nat.pow_zero, Nat.div_one], rfl, Nat.zero_le _, fun _ => .inl rfl, rfl⟩
        case round =>
          obtain ⟨k, rfl, rfl, rfl, hk, hlast, rfl⟩ := hrel
          have hTk : (pad k D ++ T).length ≤ 4000004 := by rw [List.length_append, pad_length]; omega
          have hnext : (pad (k + 1) D ++ T) = dch (D / 10 ^ k % 10) :: (pad k D ++ T) := by rw [pad_cons, List.cons_append]
          have hq : D / 10 ^ (k + 1) = D / 10 ^ k / 10 := by rw [Nat.pow_succ, ← Nat.div_div_eq_div_mul]
          obtain ⟨q, hqe⟩ : ∃ q, q = D / 10 ^ k := ⟨_, rfl⟩
          have hqD : q ≤ D := by rw [hqe]; exact Nat.div_le_self _ _
          rw [← hqe] at hnext hq ⊢
          generalize hSe : pad k D ++ T = S at *
          replace hSe := Lib.hid hSe
          replace hnext := Lib.hid hnext
          replace hq := Lib.hid hq
          replace hqe := Lib.hid hqe
          replace hlast := Lib.hid hlast
          have hcase : (k < 4 ∧ i + 1 < L) ∨ (k < 4 ∧ ¬ (i + 1 < L) ∧ 0 < q) ∨ (k < 4 ∧ ¬ (i + 1 < L) ∧ q = 0) ∨ k = 4 := by omega
          have henc := enc_dig q
          obtain ⟨ch, hch⟩ : ∃ ch, ch = dch (q % 10) := ⟨_, rfl⟩
          rw [← hch] at henc hnext
          replace hch := Lib.hid hch
          have hqB : (q : Int) ≤ 10000 := by omega
          have hsz : (⟨S.toArray⟩ : ByteArray).size = S.length := rfl
          rcases hcase with ⟨c1, c2⟩ | ⟨c1, c2, c3⟩ | ⟨c1, c2, c3⟩ | c1
          · have d1 : (k : Int) < 4 := by omega
            have d2 : (i : Int) + 1 < (L : Int) := by omega
            go_wp2_with fail
            go_roundw
            case rel => exact ⟨k + 1, (by rw [ba_cons, hnext.out]), (by rw [hq.out]; first | rfl | go_num), by first | rfl | go_num, by omega, (fun h => by omega), trivial⟩
            case measure => simp [intOf]; omega
          · have d1 : (k : Int) < 4 := by omega
            have d2 : ¬ (i : Int) + 1 < (L : Int) := by omega
            have d3 : (0 : Int) < (q : Int) := by omega
            go_wp2_with fail
            go_roundw
            case rel => exact ⟨k + 1, (by rw [ba_cons, hnext.out]), (by rw [hq.out]; first | rfl | go_num), by first | rfl | go_num, by omega, (fun h => .inr (by rw [Nat.add_sub_cancel, ← hqe.out]; omega)), trivial⟩
            case measure => simp [intOf]; omega
          · have hdone : TS n (i + 1) S := by
              have hl1 := hla.out (by have := hL.out; omega)
              have hp : pad k D = decDigits D := pad_dec (by have h1 := hqe.out; rw [c3] at h1; rcases Nat.lt_or_ge D (10 ^ k) with h | h; · exact h
                                                             · have := (Nat.le_div_iff_mul_le (Nat.pow_pos (n := k) (show 0 < 10 by omega))).2 (show 1 * 10 ^ k ≤ D by omega); omega) (hlast.out (by omega)) hl1.1
              rw [← hSe.out, hp]
              exact hl1.2
            replace hdone := Lib.hid hdone
            subst c3
            have d1 : (k : Int) < 4 := by omega
            have d2 : ¬ (i : Int) + 1 < (L : Int) := by omega
            go_wp2_with fail
            go_roundw
            case rel => exact ⟨i + 1, S, rfl, by first | rfl | go_num, by omega, hdone.out, by trivial⟩
            case measure => simp [intOf]; omega
          · have hdone : TS n (i + 1) S := by
              subst c1
              by_cases h : i + 1 < L
              · rw [← hSe.out]; exact hst.out (by have := hL.out; omega)
              · have hl1 := hla.out (by have := hL.out; omega)
                have hp : pad 4 D = decDigits D := pad_dec hD (hlast.out (by omega)) hl1.1
                rw [← hSe.out, hp]
                exact hl1.2
            replace hdone := Lib.hid hdone
            subst c1
            go_wp2_with fail
            go_roundw
            case rel => exact ⟨i + 1, S, rfl, by first | rfl | go_num, by omega, hdone.out, by trivial⟩
            case measure => simp [intOf]; omega
      · have k2 : ¬ (i : Int) < (L : Int) := by omega
        have hTe : T = decDigits n := by
          rcases hT with ⟨h1, h2⟩ | ⟨h1, h2⟩
          · have := hL.out; omega
          · exact h2
        have ht : txt n = ⟨T.toArray⟩ := by rw [hTe]; rfl
        replace ht := Lib.hid ht
        clear hT hTe
        go_wp2_with fail
        go_ret
        exact ⟨by rw [ht.out]; rfl, Below.refl _ _⟩
end Go.Proofs.YtdmoadfnogdfnaaGreatDoor.Rx
namespace Go.Proofs.YtdmoadfnogdfnaaGreatDoor.Rx
open Go.RowKit
attribute [local irreducible] lo hs tv dg cmpI txt decB
end Go.Proofs.YtdmoadfnogdfnaaGreatDoor.Rx
namespace Go.Proofs.YtdmoadfnogdfnaaGreatDoor.Rx
open Go.RowKit
attribute [local irreducible] tv dg cmpI txt decB
theorem rparse_long (l : List UInt8) (h : 4096 < l.length) (hl : l.length ≤ 1000000) (w : World) :
  Calls Tryz.prog 119 #[.string (st l)] w fun e w' => e = .returned (.tuple #[.slice none 0 0, .int .i64 3]) ∧ Below w.heap.size w w' := by
 have h1 : decide ((4096 : Int) < ((st l).size : Int)) = true := decide_eq_true (by rw [st_size]; omega)
 have h2 : decide (4096 < (st l).size) = true := decide_eq_true (by rw [st_size]; omega)
 go_enter Tryz.func119, Tryz.ntmps119
 go_wp2_with fail
 exact bodyPost_ret (v := .tuple #[.slice none 0 0, .int .i64 3]) (by simp [results, Tryz.results119, go_sem]) rfl ⟨rfl, Below.refl _ _⟩
theorem app_c1 (w : World) (v : Value) (t : TypeId) : ∀ (j : Nat) (u : Value), [v][j]? = some u → (w.alloc (.cells #[v] t)).cell? ((⟨w.heap.size, 0, none⟩ : Addr).add j) = some u := by
 intro j u hj
 match j, hj with
 | 0, hj => simp at hj; subst hj; simp [Addr.add]
theorem app_c2 (k : IntKind) (x : Int) : ∀ u ∈ [Value.int k x], u.oneCell' = true := by
 intro u hu; simp at hu; subst hu; rfl
set_option maxHeartbeats 4000000 in
set_option maxRecDepth 100000 in
theorem rparse_any (l : List UInt8) (h : l.length ≤ 4096) (w : World) :
    Calls Tryz.prog 119 #[.string (st l)] w fun e w' =>
      ((isDec l ∧ ∃ v, e = .returned (.tuple #[v, .int .i64 0]) ∧ Rn w' v (dval l)) ∨ (¬ isDec l ∧ e = .returned (.tuple #[.slice none 0 0, .int .i64 4]))) ∧ Below w.heap.size w w' := by
  obtain ⟨i0, hi, hz0, hz1, hz2⟩ := info_parts Tryz.infoI
  have h1 : decide ((4096 : Int) < ((st l).size : Int)) = false := decide_eq_false (by rw [st_size]; omega)
  have h2 : decide (4096 < (st l).size) = false := decide_eq_false (by rw [st_size]; omega)
  have bad : ¬ isDec l → ∀ e, e = Ending.returned (.tuple #[.slice none 0 0, .int .i64 4]) → ∀ w', Below w.heap.size w w' →
      ((isDec l ∧ ∃ v, e = .returned (.tuple #[v, .int .i64 0]) ∧ Rn w' v (dval l)) ∨ (¬ isDec l ∧ e = .returned (.tuple #[.slice none 0 0, .int .i64 4]))) ∧ Below w.heap.size w w' := fun hb e he w' hw => ⟨.inr ⟨hb, he⟩, hw⟩
  have good : isDec l → ∀ e v, e = Ending.returned (.tuple #[v, .int .i64 0]) → ∀ w', Rn w' v (dval l) → Below w.heap.size w w' →
      ((isDec l ∧ ∃ v, e = .returned (.tuple #[v, .int .i64 0]) ∧ Rn w' v (dval l)) ∨ (¬ isDec l ∧ e = .returned (.tuple #[.slice none 0 0, .int .i64 4]))) ∧ Below w.heap.size w w' := fun hb e v he w' hv hw => ⟨.inl ⟨hb, v, he, hv⟩, hw⟩
  replace bad := Lib.hid bad
  replace good := Lib.hid good
  have hcase : l = [] ∨ (∃ m c, l = 48 :: c :: m) ∨ (l ≠ [] ∧ (l = [48] ∨ l.head? ≠ some 48)) := by
    match l with
    | [] => exact .inl rfl
    | [c] =>
      refine .inr (.inr ⟨by simp, ?_⟩)
      by_cases hc : c = 48
      · exact .inl (by rw [hc])
      · exact .inr (by simpa using hc)
    | c :: d :: m =>
      by_cases hc : c = 48
      · exact .inr (.inl ⟨m, d, by rw [hc]⟩)
      · exact .inr (.inr ⟨by simp, .inr (by simpa using hc)⟩)
  rcases hcase with rfl | ⟨m, c, rfl⟩ | ⟨hne, hhd⟩
  · have hb := Lib.hid (bad.out (fun h => by rcases h.2 with h | h; · cases h
                                             · exact h.1 rfl))
    have h3 : (((st []).size : Int) == 0) = true := rfl
    have h4 : ((st []).size == 0) = true := rfl
    go_enter Tryz.func119, Tryz.ntmps119
    go_wp2_with fail
    exact bodyPost_ret (v := .tuple #[.slice none 0 0, .int .i64 4]) (by simp [results, Tryz.results119, go_sem]) rfl (hb.out _ rfl _ (Below.refl _ _))
  · have hb := Lib.hid (bad.out (fun h => by rcases h.2 with h | ⟨-, h⟩; · simp at h
                                             · exact h rfl))
    have hlt : 0 < (st (48 :: c :: m)).size := by rw [st_size]; simp
    have hget : (st (48 :: c :: m))[0]'hlt = 48 := rfl
    have h3 : (((st (48 :: c :: m)).size : Int) == 0) = false := beq_eq_false_iff_ne.2 (by omega)
    have h4 : ((st (48 :: c :: m)).size == 0) = false := beq_eq_false_iff_ne.2 (by omega)
    have h5 : decide ((1 : Int) < ((st (48 :: c :: m)).size : Int)) = true := decide_eq_true (by rw [st_size]; simp; omega)
    have h6 : decide (1 < (st (48 :: c :: m)).size) = true := decide_eq_true (by rw [st_size]; simp)
    generalize st (48 :: c :: m) = s at *
    go_enter Tryz.func119, Tryz.ntmps119
    go_wp2_with fail
    exact bodyPost_ret (v := .tuple #[.slice none 0 0, .int .i64 4]) (by simp [results, Tryz.results119, go_sem]) rfl (hb.out _ rfl _ (Below.refl _ _))
  · have hpos : 0 < l.length := List.length_pos_iff.2 hne
    obtain ⟨n, hn⟩ : ∃ n, n = l.length := ⟨_, rfl⟩
    have hsz : (st l).size = n := by rw [st_size, hn]
    have hlt0 : 0 < (st l).size := by rw [hsz, hn]; exact hpos
    have hfirst : (((((st l)[0]'hlt0).toNat : Int) == 48) = false) ∨ (((((st l)[0]'hlt0).toNat : Int) == 48) = true ∧ decide ((1 : Int) < (n : Int)) = false ∧ decide (1 < n) = false) := by
      rcases hhd with rfl | hh
      · exact .inr ⟨rfl, by rw [hn]; rfl, by rw [hn]; rfl⟩
      · refine .inl (beq_eq_false_iff_ne.2 fun e => hh ?_)
        have h48 : (st l)[0]'hlt0 = 48 := UInt8.toNat_inj.1 (by show _ = 48; omega)
        have h49 : l[0]'hpos = 48 := h48
        rw [List.head?_eq_getElem?, List.getElem?_eq_getElem hpos, h49]
    have h3 : ((n : Int) == 0) = false := beq_eq_false_iff_ne.2 (by omega)
    have h4 : (n == 0) = false := beq_eq_false_iff_ne.2 (by omega)
    have hD : (∀ c ∈ l, isDig c) → isDec l := fun hd => ⟨hd, by rcases hhd with h | h; · exact .inl h
                                                                · exact .inr ⟨hne, h⟩⟩
    have hnd : ∀ c ∈ l, ¬ isDig c → ¬ isDec l := fun c hc hx hh => hx (hh.1 c hc)
    have hcell : ∀ (i : Nat) (hi : i < n), ∃ c, c ∈ l ∧ l.take (i + 1) = l.take i ++ [c] ∧ (st l)[i]'(by rw [hsz]; exact hi) = c ∧ (∀ m, m ≤ i → (l.drop m).take (i + 1 - m) = (l.drop m).take (i - m) ++ [c]) := fun i hi => by
      have hil : i < l.length := by omega
      refine ⟨l[i], List.getElem_mem hil, by rw [List.take_add_one, List.getElem?_eq_getElem hil]; rfl, rfl, fun m hm => ?_⟩
      rw [show i + 1 - m = (i - m) + 1 by omega, List.take_add_one, List.getElem?_drop, show m + (i - m) = i by omega, List.getElem?_eq_getElem hil]; rfl
    have hn4 : n ≤ 4096 := by omega
    have hst := PS.start l
    rw [← hn] at hst
    have hstep := fun S t e (h : PS l S t e) hd he => h.step hd he
    have hend := fun S t (h : PS l S t 0) => h.eq
    rw [hsz] at h1 h2
    generalize st l = s at *
    have HN := Lib.hid hn
    clear hhd hne hn h
    replace hD := Lib.hid hD
    replace hnd := Lib.hid hnd
    replace hcell := Lib.hid hcell
    replace hst := Lib.hid hst
    replace hstep := Lib.hid hstep
    replace hend := Lib.hid hend
    go_enter Tryz.func119, Tryz.ntmps119
    rcases hfirst with hf | ⟨hf, hf2, hf3⟩
    all_goals (
      go_wp2_with fail
      clear hf
      go_loopw [5] (fun z wx => ∃ i : Nat, i ≤ n ∧ z = .int .i64 (i : Int) ∧ (∀ c ∈ l.take i, isDig c) ∧ w = wx) (fun z _ => n - (intOf z).toNat)
      case atStart => exact ⟨0, Nat.zero_le _, rfl, by simp, rfl⟩
      case round =>
        obtain ⟨i, hin, rfl, hd, rfl⟩ := hrel
        rcases Nat.lt_or_eq_of_le hin with hlt | hie
        · obtain ⟨c, hmem, htk, hget, -⟩ := hcell.out i hlt
          have hls : i < s.size := by rw [hsz]; exact hlt
          have k1 : (i : Int) < (n : Int) := by omega
          have hib : (i : Int) ≤ 4096 := by omega
          replace htk := Lib.hid htk
          by_cases hdg : isDig c
          · have g1 : decide ((c.toNat : Int) < 48) = false := decide_eq_false (by unfold isDig at hdg; omega)
            have g2 : decide (57 < (c.toNat : Int)) = false := decide_eq_false (by unfold isDig at hdg; omega)
            have g3 : (48 : Int) ≤ (c.toNat : Int) := by unfold isDig at hdg; omega
            have g4 : (c.toNat : Int) ≤ 57 := by unfold isDig at hdg; omega
            have HC := Lib.hid (⟨hd, hdg⟩ : (∀ c ∈ l.take i, isDig c) ∧ isDig c)
            clear hd hdg hmem
            go_wp2_with fail
            go_roundw
            case rel =>
              refine ⟨i + 1, hlt, rfl, fun x hx => ?_, trivial⟩
              rw [htk.out] at hx
              rcases List.mem_append.1 hx with hx | hx
              · exact HC.out.1 x hx
              · rw [List.mem_singleton.1 hx]; exact HC.out.2
            case measure => simp [intOf]; omega
          · have hb := Lib.hid (bad.out (hnd.out c hmem hdg))
            have g5 : (c.toNat : Int) < 48 ∨ 57 < (c.toNat : Int) := by unfold isDig at hdg; omega
            clear hd hdg hmem
            rcases g5 with g5 | g5
            · have g1 : decide ((c.toNat : Int) < 48) = true := decide_eq_true g5
              go_wp2_with fail
              exact bodyPost_ret (v := .tuple #[.slice none 0 0, .int .i64 4]) (by simp [results, Tryz.results119, go_sem]) rfl (hb.out _ rfl _ (Below.refl _ _))
            · have g1 : decide ((c.toNat : Int) < 48) = false := decide_eq_false (by omega)
              have g2 : decide (57 < (c.toNat : Int)) = true := decide_eq_true g5
              go_wp2_with fail
              exact bodyPost_ret (v := .tuple #[.slice none 0 0, .int .i64 4]) (by simp [results, Tryz.results119, go_sem]) rfl (hb.out _ rfl _ (Below.refl _ _))
        · have k1 : ¬ (i : Int) < (n : Int) := by omega
          have hda : ∀ c ∈ l, isDig c := fun c hc => hd c (by rw [List.take_of_length_le (by have := HN.out; omega)]; exact hc)
          have hok := Lib.hid (good.out (hD.out hda))
          replace hda := Lib.hid hda
          clear hd bad hnd hD hie
          go_wp2_with fail
          go_loopw [4, 6] (fun v z wx => ∃ (t e : Nat) (S : List Nat) (zi : Int), z = .int .i64 zi ∧ (zi = (e : Int) ∨ (zi ≤ 0 ∧ e = 0)) ∧ -4 ≤ zi ∧ e ≤ n ∧ t ≤ n ∧ PS l S t e ∧ wx.ownsRow w.heap.size 3 1 v t (S.map iv) ∧ Below w.heap.size w wx) (fun _ z _ => (intOf z + 4).toNat)
          case atStart => exact ⟨0, n, [], n, rfl, .inl rfl, by omega, Nat.le_refl _, Nat.zero_le _, hst.out, World.ownsRow_nil _ _ _ _, Below.refl _ _⟩
          case round =>
            obtain ⟨t, e, S, zi, rfl, hze, hz4, hen, htn, hS, hown, hbl⟩ := hrel
            rcases Nat.eq_zero_or_pos e with he | he
            · subst he
              have k2 : ¬ (0 : Int) < zi := by omega
              have hT : tv S = dval l := by
                have := hend.out S t hS
                rw [List.take_zero, dval_nil, Nat.mul_zero, Nat.add_zero] at this
                exact this
              have HT := trim_any u4 S hS.lt (by rw [hS.len]; omega) wr (Sl.owned hown hS.len.symm)
              rw [hT] at HT
              replace HT := Lib.hid HT
              clear hT hS hown hze
              go_wp2_with fail
              with_reducible refine Calls.mono HT.out ?_
              rintro e w1 ⟨v', rfl, hv, rfl⟩
              replace hv := Lib.hid hv
              go_wp2_with fail
              exact bodyPost_ret (v := .tuple #[v', .int .i64 0]) (by simp [results, Tryz.results119, go_sem]) rfl (hok.out _ _ rfl _ hv.out hbl)
            · obtain rfl : zi = (e : Int) := by omega
              obtain ⟨hdl, hnx⟩ := hstep.out S t e hS hda.out he
              have k2 : (0 : Int) < (e : Int) := by omega
              have heb : (e : Int) ≤ 4096 := by omega
              have htb : (t : Int) ≤ 4096 := by omega
              replace hnx := Lib.hid hnx
              have htl : t + 1 ≤ n := by have := hS.pos; have := HN.out; omega
              clear hze hS
              obtain ⟨m, hm⟩ : ∃ m, m = e - 4 := ⟨_, rfl⟩
              rw [← hm] at hdl hnx
              have hmx : ((e : Int) - 4 ≤ 0 ∧ m = 0) ∨ (0 < (e : Int) - 4 ∧ (e : Int) - 4 = (m : Int)) := by omega
              replace hm := Lib.hid hm
              have hmax : max (0 : Int) ((e : Int) - 4) = (m : Int) := by omega
              clear hmx
              go_wp2_with fail
              go_loopw [7, 8] (fun dv jv wx => ∃ i : Nat, m ≤ i ∧ i ≤ e ∧ jv = .int .i64 (i : Int) ∧ dv = .int .i64 ((dval ((l.drop m).take (i - m)) : Nat) : Int) ∧ wx.ownsRow w.heap.size 3 1 u4 t (S.map iv) ∧ Below w.heap.size w wx) (fun _ jv _ => e - (intOf jv).toNat)
              case atStart => exact ⟨m, Nat.le_refl _, by have := hm.out; omega, by first | rfl | go_num, by rw [Nat.sub_self, List.take_zero]; rfl, hown, hbl⟩
              case round =>
                obtain ⟨j, hmj, hje, rfl, rfl, hown2, hbl2⟩ := hrel
                rcases Nat.lt_or_ge j e with hlt | hge
                · obtain ⟨c, hmem, -, hget, hpre⟩ := hcell.out j (by omega)
                  have hls : j < s.size := by rw [hsz]; omega
                  have hnext := hpre m hmj
                  have hdg := hda.out c hmem
                  have hnv : dval ((l.drop m).take (j + 1 - m)) = dval ((l.drop m).take (j - m)) * 10 + (c.toNat - 48) := by rw [hnext, dval_snoc]
                  have hDb : dval ((l.drop m).take (j - m)) < 10000 := by
                    have h1 := dval_lt (l := (l.drop m).take (j - m)) fun c hc => hda.out c (List.mem_of_mem_drop (List.mem_of_mem_take hc))
                    exact Nat.lt_of_lt_of_le h1 (Nat.le_trans (Nat.pow_le_pow_right (by omega) (show _ ≤ 4 by rw [List.length_take]; have := hm.out; omega)) (by decide))
                  have g3 : (48 : Int) ≤ (c.toNat : Int) := by unfold isDig at hdg; omega
                  have g4 : (c.toNat : Int) ≤ 57 := by unfold isDig at hdg; omega
                  generalize dval ((l.drop m).take (j - m)) = D at *
                  replace hnv := Lib.hid hnv
                  clear hpre hnext hdg hmem hdl
                  have k3 : (j : Int) < (e : Int) := by omega
                  have hjb : (j : Int) ≤ 4096 := by omega
                  go_wp2_with fail
                  go_roundw
                  case rel => exact ⟨j + 1, by omega, by omega, by first | rfl | go_num, (by rw [hnv.out]; go_num), hown2, hbl2⟩
                  case measure => simp [intOf]; omega
                · obtain rfl : j = e := by omega
                  have k3 : ¬ (j : Int) < (j : Int) := by omega
                  generalize dval ((l.drop m).take (j - m)) = D at *
                  go_wp2_with (at_builtin; refine wpList_append_own _ rfl _ _ 42 rfl w.heap.size 3 i0 (.int .i64 0) 1 8 Tryz.underlying42 hi hz0 hz1 hz2 rfl (by decide) _ _ _ rfl (hown2.alloc _) ⟨wr.heap.size, 0, none⟩ 1 1 [.int .i64 (D : Int)] rfl rfl (app_c1 _ _ _) (app_c2 _ _) (by unfold maxLen; omega) (by omega) (by have := hbl2.size; simp; omega) ?_)
                  intro v' w1 hown' hgrow _
                  have hn' := Lib.hid (own_snoc (d := D) rfl hown')
                  have hb' := Lib.hid (below_app hbl2 hbl2.size hown2 hgrow)
                  clear hown' hgrow hown2 hbl2 hown hbl
                  go_wp2_with fail
                  go_roundw
                  case rel => exact ⟨t + 1, m, _, (j : Int) - 4, by first | rfl | go_num, (by have := hm.out; omega), by omega, (by have := hm.out; omega), htl, hnx.out, hn'.out, hb'.out⟩
                  case measure => simp [intOf]; omega)
end Go.Proofs.YtdmoadfnogdfnaaGreatDoor.Rx
namespace Go.Proofs.YtdmoadfnogdfnaaGreatDoor
open Go.RowKit Go.Proofs.YtdmoadfnogdfnaaGreatDoor.Rx
attribute [local irreducible] lo hs sm s64 c64 d64 b64 mh ml pd pc qd qc val hiB str cmpI srD lz nb isq decB dval
set_option maxHeartbeats 4000000 in
set_option maxRecDepth 100000 in
theorem rztext_false (v : Value) (n : Nat) (hl : (td n).length ≤ 1000000) (w : World) (hv : Rn w v n) :
  Calls Tryz.prog 76 #[.agg #[.bool false, v]] w fun e w' => e = .returned (.string (txt n)) ∧ Below w.heap.size w w' := by
 have hL0 : GL w w [] := GL.start w
 have HT := Lib.hid (fun w h => rtext_any v n hl w h)
 obtain ⟨ao, c, rfl⟩ := hv.form
 generalize hlen : (td n).length = k at *
 replace hlen := Lib.hid hlen
 clear hl
 generalize txt n = t at *
 replace hL0 := (hL0.new rfl [.bool false, .slice ao k c] 44)
 generalize hweq : (w.alloc (.cells #[.bool false, .slice ao k c] 44)) = x1 at hL0
 replace hv := Lib.hid (hv.below hL0.bl)
 go_enter Tryz.func76, Tryz.ntmps76
 have hA := hL0.fc
 simp only [fcG, cellsF, neK, and_true, ne_eq, Nat.zero_add, Nat.reduceAdd] at hA
 go_wp2_with fail
 clear hA
 with_reducible refine Calls.mono (HT.out _ hv.out) ?_
 rintro e x2 ⟨rfl, hb⟩
 replace hL0 := hL0.call hb
 clear hb hweq
 have hA := hL0.fc
 simp only [fcG, cellsF, neK, and_true, ne_eq, Nat.zero_add, Nat.reduceAdd] at hA
 go_wp2_with fail
 exact bodyPost_ret (v := .string t) (by simp [results, Tryz.results76, go_sem, hA]) rfl ⟨rfl, hL0.bl⟩
set_option maxHeartbeats 4000000 in
set_option maxRecDepth 100000 in
theorem rztext_true (v : Value) (n : Nat) (hl : (td n).length ≤ 1000000) (w : World) (hv : Rn w v n) :
  Calls Tryz.prog 76 #[.agg #[.bool true, v]] w fun e w' => e = .returned (.string (ByteArray.mk #[45] ++ txt n)) ∧ Below w.heap.size w w' := by
 have hL0 : GL w w [] := GL.start w
 have HT := Lib.hid (fun w h => rtext_any v n hl w h)
 obtain ⟨ao, c, rfl⟩ := hv.form
 have hts : ((txt n).size : Int) ≤ 4000000 := by have := (dec_td hl (by omega)); show ((Lib.decDigits n).length : Int) ≤ _; omega
 generalize hlen : (td n).length = k at *
 replace hlen := Lib.hid hlen
 clear hl
 generalize txt n = t at *
 replace hL0 := (hL0.new rfl [.bool true, .slice ao k c] 44)
 generalize hweq : (w.alloc (.cells #[.bool true, .slice ao k c] 44)) = x1 at hL0
 replace hv := Lib.hid (hv.below hL0.bl)
 go_enter Tryz.func76, Tryz.ntmps76
 have hA := hL0.fc
 simp only [fcG, cellsF, neK, and_true, ne_eq, Nat.zero_add, Nat.reduceAdd] at hA
 go_wp2_with fail
 clear hA
 with_reducible refine Calls.mono (HT.out _ hv.out) ?_
 rintro e x2 ⟨rfl, hb⟩
 replace hL0 := hL0.call hb
 clear hb hweq
 have hA := hL0.fc
 simp only [fcG, cellsF, neK, and_true, ne_eq, Nat.zero_add, Nat.reduceAdd] at hA
 go_wp2_with fail
 exact bodyPost_ret (v := .string (ByteArray.mk #[45] ++ t)) (by simp [results, Tryz.results76, go_sem, hA]) rfl ⟨rfl, hL0.bl⟩
theorem rparse_dec (l : List UInt8) (h : l.length ≤ 4096) (hd : isDec l) (w : World) :
  Calls Tryz.prog 119 #[.string (st l)] w fun e w' => (∃ v, e = .returned (.tuple #[v, .int .i64 0]) ∧ Rn w' v (dval l)) ∧ Below w.heap.size w w' :=
 (rparse_any l h w).mono fun e w' ⟨h1, h2⟩ => ⟨h1.elim (fun h => h.2) (fun h => absurd hd h.1), h2⟩
theorem rparse_form (l : List UInt8) (h : l.length ≤ 4096) (hd : ¬ isDec l) (w : World) :
  Calls Tryz.prog 119 #[.string (st l)] w fun e w' => e = .returned (.tuple #[.slice none 0 0, .int .i64 4]) ∧ Below w.heap.size w w' :=
 (rparse_any l h w).mono fun e w' ⟨h1, h2⟩ => ⟨h1.elim (fun h => absurd h.1 hd) (fun h => h.2), h2⟩
theorem st_drop1 (r : List UInt8) : (st (45 :: r)).extract 1 (st (45 :: r)).size = st r := by rw [st_drop]; rfl
set_option maxHeartbeats 4000000 in
set_option maxRecDepth 100000 in
theorem rzn_long (r : List UInt8) (h : 4096 < r.length) (hl : r.length ≤ 1000000) (w : World) :
  Calls Tryz.prog 136 #[.string (st (45 :: r))] w fun e w' => e = .returned (.tuple #[.agg #[.bool false, .slice none 0 0], .int .i64 3]) ∧ Below w.heap.size w w' := by
 have hL0 : GL w w [] := GL.start w
 have HP := Lib.hid (fun w => rparse_long r h hl w)
 have g1 : ((st (45 :: r)).size : Int) = (r.length : Int) + 1 := by rw [st_size]; simp
 have g3 : decide ((0 : Int) < ((st (45 :: r)).size : Int)) = true := decide_eq_true (by omega)
 have g4 : decide (0 < (st (45 :: r)).size) = true := decide_eq_true (by omega)
 have g7 : (0 : Int) < ((st (45 :: r)).size : Int) := by omega
 have g8 : 0 < (st (45 :: r)).size := by omega
 have g5 := st_drop1 r
 have g9 : (1 : Int) ≤ ((st (45 :: r)).size : Int) := by omega
 clear h hl
 obtain ⟨s0, hs0⟩ : ∃ s0, s0 = st (45 :: r) := ⟨_, rfl⟩
 rw [← hs0]
 simp only [← hs0] at g1 g3 g4 g7 g8 g5 g9
 have g0 : s0[0]'g8 = 45 := by subst hs0; rfl
 clear hs0
 generalize st r = s at *
 clear g1
 replace hL0 := (hL0.new rfl [.bool false, .slice none 0 0] 44)
 generalize hweq : (w.alloc (.cells #[.bool false, .slice none 0 0] 44)) = x1 at hL0
 go_enter Tryz.func136, Tryz.ntmps136
 have hA := hL0.fc
 simp only [fcG, cellsF, neK, and_true, ne_eq, Nat.zero_add, Nat.reduceAdd] at hA
 go_wp2_with fail
 clear hA
 with_reducible refine Calls.mono (HP.out _) ?_
 rintro e x2 ⟨rfl, hb⟩
 replace hL0 := hL0.call hb
 clear hb hweq
 have hA := hL0.fc
 simp only [fcG, cellsF, neK, and_true, ne_eq, Nat.zero_add, Nat.reduceAdd] at hA
 have hP := hL0.put 0 (w.heap.size) _ rfl [.bool false, .slice none 0 0] rfl
 simp only [setAll, List.set_cons_zero, List.set_cons_succ] at hP
 generalize hput1 : ((x2.setCell ⟨w.heap.size, 0, none⟩ (.bool false)).setCell ⟨w.heap.size, 1, none⟩ (.slice none 0 0)) = x3 at hP
 have hB1 := hP.fc
 simp only [fcG, cellsF, neK, and_true, ne_eq, Nat.zero_add, Nat.reduceAdd] at hB1
 replace hL0 := hP
 go_wp2_with fail
 exact bodyPost_ret (v := .tuple #[.agg #[.bool false, .slice none 0 0], .int .i64 3]) (by simp [results, Tryz.results136, go_sem, hB1]) rfl ⟨rfl, hL0.bl⟩
set_option maxHeartbeats 4000000 in
set_option maxRecDepth 100000 in
theorem rzn_form (r : List UInt8) (h : r.length ≤ 4096) (hd : ¬ isDec r) (w : World) :
  Calls Tryz.prog 136 #[.string (st (45 :: r))] w fun e w' => e = .returned (.tuple #[.agg #[.bool false, .slice none 0 0], .int .i64 4]) ∧ Below w.heap.size w w' := by
 have hL0 : GL w w [] := GL.start w
 have HP := Lib.hid (fun w => rparse_form r h hd w)
 have g1 : ((st (45 :: r)).size : Int) = (r.length : Int) + 1 := by rw [st_size]; simp
 have g3 : decide ((0 : Int) < ((st (45 :: r)).size : Int)) = true := decide_eq_true (by omega)
 have g4 : decide (0 < (st (45 :: r)).size) = true := decide_eq_true (by omega)
 have g7 : (0 : Int) < ((st (45 :: r)).size : Int) := by omega
 have g8 : 0 < (st (45 :: r)).size := by omega
 have g5 := st_drop1 r
 have g9 : (1 : Int) ≤ ((st (45 :: r)).size : Int) := by omega
 clear h hd
 obtain ⟨s0, hs0⟩ : ∃ s0, s0 = st (45 :: r) := ⟨_, rfl⟩
 rw [← hs0]
 simp only [← hs0] at g1 g3 g4 g7 g8 g5 g9
 have g0 : s0[0]'g8 = 45 := by subst hs0; rfl
 clear hs0
 generalize st r = s at *
 clear g1
 replace hL0 := (hL0.new rfl [.bool false, .slice none 0 0] 44)
 generalize hweq : (w.alloc (.cells #[.bool false, .slice none 0 0] 44)) = x1 at hL0
 go_enter Tryz.func136, Tryz.ntmps136
 have hA := hL0.fc
 simp only [fcG, cellsF, neK, and_true, ne_eq, Nat.zero_add, Nat.reduceAdd] at hA
 go_wp2_with fail
 clear hA
 with_reducible refine Calls.mono (HP.out _) ?_
 rintro e x2 ⟨rfl, hb⟩
 replace hL0 := hL0.call hb
 clear hb hweq
 have hA := hL0.fc
 simp only [fcG, cellsF, neK, and_true, ne_eq, Nat.zero_add, Nat.reduceAdd] at hA
 have hP := hL0.put 0 (w.heap.size) _ rfl [.bool false, .slice none 0 0] rfl
 simp only [setAll, List.set_cons_zero, List.set_cons_succ] at hP
 generalize hput1 : ((x2.setCell ⟨w.heap.size, 0, none⟩ (.bool false)).setCell ⟨w.heap.size, 1, none⟩ (.slice none 0 0)) = x3 at hP
 have hB1 := hP.fc
 simp only [fcG, cellsF, neK, and_true, ne_eq, Nat.zero_add, Nat.reduceAdd] at hB1
 replace hL0 := hP
 go_wp2_with fail
 exact bodyPost_ret (v := .tuple #[.agg #[.bool false, .slice none 0 0], .int .i64 4]) (by simp [results, Tryz.results136, go_sem, hB1]) rfl ⟨rfl, hL0.bl⟩
set_option maxHeartbeats 4000000 in
set_option maxRecDepth 100000 in
theorem rzn_zero (r : List UInt8) (h : r.length ≤ 4096) (hd : isDec r) (hz : dval r = 0) (w : World) :
  Calls Tryz.prog 136 #[.string (st (45 :: r))] w fun e w' => e = .returned (.tuple #[.agg #[.bool false, .slice none 0 0], .int .i64 4]) ∧ Below w.heap.size w w' := by
 have hL0 : GL w w [] := GL.start w
 have HP := Lib.hid (fun w => rparse_dec r h hd w)
 have g1 : ((st (45 :: r)).size : Int) = (r.length : Int) + 1 := by rw [st_size]; simp
 have g3 : decide ((0 : Int) < ((st (45 :: r)).size : Int)) = true := decide_eq_true (by omega)
 have g4 : decide (0 < (st (45 :: r)).size) = true := decide_eq_true (by omega)
 have g7 : (0 : Int) < ((st (45 :: r)).size : Int) := by omega
 have g8 : 0 < (st (45 :: r)).size := by omega
 have g5 := st_drop1 r
 have g9 : (1 : Int) ≤ ((st (45 :: r)).size : Int) := by omega
 rw [hz] at HP
 clear h hd hz
 obtain ⟨s0, hs0⟩ : ∃ s0, s0 = st (45 :: r) := ⟨_, rfl⟩
 rw [← hs0]
 simp only [← hs0] at g1 g3 g4 g7 g8 g5 g9
 have g0 : s0[0]'g8 = 45 := by subst hs0; rfl
 clear hs0
 generalize st r = s at *
 clear g1
 replace hL0 := (hL0.new rfl [.bool false, .slice none 0 0] 44)
 generalize hweq : (w.alloc (.cells #[.bool false, .slice none 0 0] 44)) = x1 at hL0
 go_enter Tryz.func136, Tryz.ntmps136
 have hA := hL0.fc
 simp only [fcG, cellsF, neK, and_true, ne_eq, Nat.zero_add, Nat.reduceAdd] at hA
 go_wp2_with fail
 clear hA
 with_reducible refine Calls.mono (HP.out _) ?_
 rintro e x2 ⟨⟨v, rfl, hv⟩, hb⟩
 replace hL0 := hL0.call hb
 clear hb hweq
 obtain ⟨ao, c, rfl⟩ := hv.form
 rw [(td_len_zero 0).2 rfl] at hv ⊢
 have hA := hL0.fc
 simp only [fcG, cellsF, neK, and_true, ne_eq, Nat.zero_add, Nat.reduceAdd] at hA
 have hP := hL0.put 0 (w.heap.size) _ rfl [.bool false, .slice none 0 0] rfl
 simp only [setAll, List.set_cons_zero, List.set_cons_succ] at hP
 generalize hput1 : ((x2.setCell ⟨w.heap.size, 0, none⟩ (.bool false)).setCell ⟨w.heap.size, 1, none⟩ (.slice none 0 0)) = x3 at hP
 have hB1 := hP.fc
 simp only [fcG, cellsF, neK, and_true, ne_eq, Nat.zero_add, Nat.reduceAdd] at hB1
 replace hL0 := hP
 go_wp2_with fail
 exact bodyPost_ret (v := .tuple #[.agg #[.bool false, .slice none 0 0], .int .i64 4]) (by simp [results, Tryz.results136, go_sem, hB1]) rfl ⟨rfl, hL0.bl⟩
set_option maxHeartbeats 4000000 in
set_option maxRecDepth 100000 in
theorem rzn_ok (r : List UInt8) (h : r.length ≤ 4096) (hd : isDec r) (hz : dval r ≠ 0) (w : World) :
  Calls Tryz.prog 136 #[.string (st (45 :: r))] w fun e w' => (∃ v, e = .returned (.tuple #[.agg #[.bool true, v], .int .i64 0]) ∧ Rn w' v (dval r)) ∧ Below w.heap.size w w' := by
 have hL0 : GL w w [] := GL.start w
 have HP := Lib.hid (fun w => rparse_dec r h hd w)
 have g1 : ((st (45 :: r)).size : Int) = (r.length : Int) + 1 := by rw [st_size]; simp
 have g3 : decide ((0 : Int) < ((st (45 :: r)).size : Int)) = true := decide_eq_true (by omega)
 have g4 : decide (0 < (st (45 :: r)).size) = true := decide_eq_true (by omega)
 have g7 : (0 : Int) < ((st (45 :: r)).size : Int) := by omega
 have g8 : 0 < (st (45 :: r)).size := by omega
 have g5 := st_drop1 r
 have g9 : (1 : Int) ≤ ((st (45 :: r)).size : Int) := by omega
 generalize hzz : dval r = n at *
 replace hzz := Lib.hid hzz
 replace hz := Lib.hid hz
 clear h hd
 obtain ⟨s0, hs0⟩ : ∃ s0, s0 = st (45 :: r) := ⟨_, rfl⟩
 rw [← hs0]
 simp only [← hs0] at g1 g3 g4 g7 g8 g5 g9
 have g0 : s0[0]'g8 = 45 := by subst hs0; rfl
 clear hs0
 generalize st r = s at *
 clear g1
 replace hL0 := (hL0.new rfl [.bool false, .slice none 0 0] 44)
 generalize hweq : (w.alloc (.cells #[.bool false, .slice none 0 0] 44)) = x1 at hL0
 go_enter Tryz.func136, Tryz.ntmps136
 have hA := hL0.fc
 simp only [fcG, cellsF, neK, and_true, ne_eq, Nat.zero_add, Nat.reduceAdd] at hA
 go_wp2_with fail
 clear hA
 with_reducible refine Calls.mono (HP.out _) ?_
 rintro e x2 ⟨⟨v, rfl, hv⟩, hb⟩
 replace hL0 := hL0.call hb
 clear hb hweq
 obtain ⟨ao, c, rfl⟩ := hv.form
 have f1 : (((td n).length : Int) == 0) = false := beq_eq_false_iff_ne.2 (fun e => hz.out ((td_len_zero n).1 (by omega)))
 have HF := fun w h => rfrom_any true (.slice ao (td n).length c) n w h
 rw [Bool.true_and, decide_eq_true hz.out] at HF
 generalize (td n).length = k at *
 replace HF := Lib.hid HF
 replace hv := Lib.hid hv
 have hA := hL0.fc
 simp only [fcG, cellsF, neK, and_true, ne_eq, Nat.zero_add, Nat.reduceAdd] at hA
 go_wp2_with fail
 clear hA
 with_reducible refine Calls.mono (HF.out _ hv.out) ?_
 rintro e x3 ⟨rfl, hb⟩
 replace hL0 := hL0.call hb
 replace hv := Lib.hid (hv.out.below hb)
 clear hb
 have hA := hL0.fc
 simp only [fcG, cellsF, neK, and_true, ne_eq, Nat.zero_add, Nat.reduceAdd] at hA
 have hHd := hL0.get _ _ List.mem_cons_self
 have hP := hL0.put 0 (w.heap.size) _ rfl [.bool true, .slice ao k c] rfl
 simp only [setAll, List.set_cons_zero, List.set_cons_succ] at hP
 generalize hput1 : ((x3.setCell ⟨w.heap.size, 0, none⟩ (.bool true)).setCell ⟨w.heap.size, 1, none⟩ (.slice ao k c)) = x4 at hP
 have hB1 := hP.fc
 simp only [fcG, cellsF, neK, and_true, ne_eq, Nat.zero_add, Nat.reduceAdd] at hB1
 replace hL0 := hP
 have hvF := sl_upd hv.out (show Upd (w.heap.size) x3 x4 by rw [← hput1]; exact ((Upd.refl _ _).setCell 0 _).setCell 1 _) hHd (by intro v hv n; simp only [List.mem_cons, List.not_mem_nil, or_false] at hv; rcases hv with rfl | rfl <;> simp)
 go_wp2_with fail
 exact bodyPost_ret (v := .tuple #[.agg #[.bool true, .slice ao k c], .int .i64 0]) (by simp [results, Tryz.results136, go_sem, hB1]) rfl ⟨⟨_, rfl, by first | exact hvF | (rw [hzz.out]; exact hvF)⟩, hL0.bl⟩
set_option maxHeartbeats 4000000 in
set_option maxRecDepth 100000 in
theorem rzp_long (r : List UInt8) (y : UInt8) (hh : y ≠ 45) (h : 4096 < (y :: r).length) (hl : (y :: r).length ≤ 1000000) (w : World) :
  Calls Tryz.prog 136 #[.string (st (y :: r))] w fun e w' => e = .returned (.tuple #[.agg #[.bool false, .slice none 0 0], .int .i64 3]) ∧ Below w.heap.size w w' := by
 have hL0 : GL w w [] := GL.start w
 have HP := Lib.hid (fun w => rparse_long (y :: r) h hl w)
 have g1 : ((st (y :: r)).size : Int) = (r.length : Int) + 1 := by rw [st_size]; simp
 have g3 : decide ((0 : Int) < ((st (y :: r)).size : Int)) = true := decide_eq_true (by omega)
 have g4 : decide (0 < (st (y :: r)).size) = true := decide_eq_true (by omega)
 have g7 : (0 : Int) < ((st (y :: r)).size : Int) := by omega
 have g8 : 0 < (st (y :: r)).size := by omega
 have g6 : (((y.toNat : Nat) : Int) == 45) = false := beq_eq_false_iff_ne.2 (fun e => hh (UInt8.toNat_inj.1 (by have : y.toNat = 45 := (by omega); rw [this]; rfl)))
 have g6' : (y == 45) = false := beq_eq_false_iff_ne.2 hh
 clear h hl hh
 obtain ⟨s0, hs0⟩ : ∃ s0, s0 = st (y :: r) := ⟨_, rfl⟩
 rw [← hs0]
 simp only [← hs0] at g1 g3 g4 g7 g8 HP
 have g0 : s0[0]'g8 = y := by subst hs0; rfl
 clear hs0
 clear g1
 replace hL0 := (hL0.new rfl [.bool false, .slice none 0 0] 44)
 generalize hweq : (w.alloc (.cells #[.bool false, .slice none 0 0] 44)) = x1 at hL0
 go_enter Tryz.func136, Tryz.ntmps136
 have hA := hL0.fc
 simp only [fcG, cellsF, neK, and_true, ne_eq, Nat.zero_add, Nat.reduceAdd] at hA
 go_wp2_with fail
 clear hA
 with_reducible refine Calls.mono (HP.out _) ?_
 rintro e x2 ⟨rfl, hb⟩
 replace hL0 := hL0.call hb
 clear hb hweq
 have hA := hL0.fc
 simp only [fcG, cellsF, neK, and_true, ne_eq, Nat.zero_add, Nat.reduceAdd] at hA
 have hP := hL0.put 0 (w.heap.size) _ rfl [.bool false, .slice none 0 0] rfl
 simp only [setAll, List.set_cons_zero, List.set_cons_succ] at hP
 generalize hput1 : ((x2.setCell ⟨w.heap.size, 0, none⟩ (.bool false)).setCell ⟨w.heap.size, 1, none⟩ (.slice none 0 0)) = x3 at hP
 have hB1 := hP.fc
 simp only [fcG, cellsF, neK, and_true, ne_eq, Nat.zero_add, Nat.reduceAdd] at hB1
 replace hL0 := hP
 go_wp2_with fail
 exact bodyPost_ret (v := .tuple #[.agg #[.bool false, .slice none 0 0], .int .i64 3]) (by simp [results, Tryz.results136, go_sem, hB1]) rfl ⟨rfl, hL0.bl⟩
set_option maxHeartbeats 4000000 in
set_option maxRecDepth 100000 in
theorem rzp_form (r : List UInt8) (y : UInt8) (hh : y ≠ 45) (h : (y :: r).length ≤ 4096) (hd : ¬ isDec (y :: r)) (w : World) :
  Calls Tryz.prog 136 #[.string (st (y :: r))] w fun e w' => e = .returned (.tuple #[.agg #[.bool false, .slice none 0 0], .int .i64 4]) ∧ Below w.heap.size w w' := by
 have hL0 : GL w w [] := GL.start w
 have HP := Lib.hid (fun w => rparse_form (y :: r) h hd w)
 have g1 : ((st (y :: r)).size : Int) = (r.length : Int) + 1 := by rw [st_size]; simp
 have g3 : decide ((0 : Int) < ((st (y :: r)).size : Int)) = true := decide_eq_true (by omega)
 have g4 : decide (0 < (st (y :: r)).size) = true := decide_eq_true (by omega)
 have g7 : (0 : Int) < ((st (y :: r)).size : Int) := by omega
 have g8 : 0 < (st (y :: r)).size := by omega
 have g6 : (((y.toNat : Nat) : Int) == 45) = false := beq_eq_false_iff_ne.2 (fun e => hh (UInt8.toNat_inj.1 (by have : y.toNat = 45 := (by omega); rw [this]; rfl)))
 have g6' : (y == 45) = false := beq_eq_false_iff_ne.2 hh
 clear h hd hh
 obtain ⟨s0, hs0⟩ : ∃ s0, s0 = st (y :: r) := ⟨_, rfl⟩
 rw [← hs0]
 simp only [← hs0] at g1 g3 g4 g7 g8 HP
 have g0 : s0[0]'g8 = y := by subst hs0; rfl
 clear hs0
 clear g1
 replace hL0 := (hL0.new rfl [.bool false, .slice none 0 0] 44)
 generalize hweq : (w.alloc (.cells #[.bool false, .slice none 0 0] 44)) = x1 at hL0
 go_enter Tryz.func136, Tryz.ntmps136
 have hA := hL0.fc
 simp only [fcG, cellsF, neK, and_true, ne_eq, Nat.zero_add, Nat.reduceAdd] at hA
 go_wp2_with fail
 clear hA
 with_reducible refine Calls.mono (HP.out _) ?_
 rintro e x2 ⟨rfl, hb⟩
 replace hL0 := hL0.call hb
 clear hb hweq
 have hA := hL0.fc
 simp only [fcG, cellsF, neK, and_true, ne_eq, Nat.zero_add, Nat.reduceAdd] at hA
 have hP := hL0.put 0 (w.heap.size) _ rfl [.bool false, .slice none 0 0] rfl
 simp only [setAll, List.set_cons_zero, List.set_cons_succ] at hP
 generalize hput1 : ((x2.setCell ⟨w.heap.size, 0, none⟩ (.bool false)).setCell ⟨w.heap.size, 1, none⟩ (.slice none 0 0)) = x3 at hP
 have hB1 := hP.fc
 simp only [fcG, cellsF, neK, and_true, ne_eq, Nat.zero_add, Nat.reduceAdd] at hB1
 replace hL0 := hP
 go_wp2_with fail
 exact bodyPost_ret (v := .tuple #[.agg #[.bool false, .slice none 0 0], .int .i64 4]) (by simp [results, Tryz.results136, go_sem, hB1]) rfl ⟨rfl, hL0.bl⟩
set_option maxHeartbeats 4000000 in
set_option maxRecDepth 100000 in
theorem rzp_ok (r : List UInt8) (y : UInt8) (hh : y ≠ 45) (h : (y :: r).length ≤ 4096) (hd : isDec (y :: r)) (w : World) :
  Calls Tryz.prog 136 #[.string (st (y :: r))] w fun e w' => (∃ v, e = .returned (.tuple #[.agg #[.bool false, v], .int .i64 0]) ∧ Rn w' v (dval (y :: r))) ∧ Below w.heap.size w w' := by
 have hL0 : GL w w [] := GL.start w
 have HP := Lib.hid (fun w => rparse_dec (y :: r) h hd w)
 have g1 : ((st (y :: r)).size : Int) = (r.length : Int) + 1 := by rw [st_size]; simp
 have g3 : decide ((0 : Int) < ((st (y :: r)).size : Int)) = true := decide_eq_true (by omega)
 have g4 : decide (0 < (st (y :: r)).size) = true := decide_eq_true (by omega)
 have g7 : (0 : Int) < ((st (y :: r)).size : Int) := by omega
 have g8 : 0 < (st (y :: r)).size := by omega
 have g6 : (((y.toNat : Nat) : Int) == 45) = false := beq_eq_false_iff_ne.2 (fun e => hh (UInt8.toNat_inj.1 (by have : y.toNat = 45 := (by omega); rw [this]; rfl)))
 have g6' : (y == 45) = false := beq_eq_false_iff_ne.2 hh
 generalize hzz : dval (y :: r) = n at *
 replace hzz := Lib.hid hzz
 clear h hd hh
 obtain ⟨s0, hs0⟩ : ∃ s0, s0 = st (y :: r) := ⟨_, rfl⟩
 rw [← hs0]
 simp only [← hs0] at g1 g3 g4 g7 g8 HP
 have g0 : s0[0]'g8 = y := by subst hs0; rfl
 clear hs0
 clear g1
 replace hL0 := (hL0.new rfl [.bool false, .slice none 0 0] 44)
 generalize hweq : (w.alloc (.cells #[.bool false, .slice none 0 0] 44)) = x1 at hL0
 go_enter Tryz.func136, Tryz.ntmps136
 have hA := hL0.fc
 simp only [fcG, cellsF, neK, and_true, ne_eq, Nat.zero_add, Nat.reduceAdd] at hA
 go_wp2_with fail
 clear hA
 with_reducible refine Calls.mono (HP.out _) ?_
 rintro e x2 ⟨⟨v, rfl, hv⟩, hb⟩
 replace hL0 := hL0.call hb
 clear hb hweq
 obtain ⟨ao, c, rfl⟩ := hv.form
 have HF := fun w h => rfrom_any false (.slice ao (td n).length c) n w h
 simp only [Bool.false_and] at HF
 generalize (td n).length = k at *
 replace HF := Lib.hid HF
 replace hv := Lib.hid hv
 have hA := hL0.fc
 simp only [fcG, cellsF, neK, and_true, ne_eq, Nat.zero_add, Nat.reduceAdd] at hA
 go_wp2_with fail
 clear hA
 with_reducible refine Calls.mono (HF.out _ hv.out) ?_
 rintro e x3 ⟨rfl, hb⟩
 replace hL0 := hL0.call hb
 replace hv := Lib.hid (hv.out.below hb)
 clear hb
 have hA := hL0.fc
 simp only [fcG, cellsF, neK, and_true, ne_eq, Nat.zero_add, Nat.reduceAdd] at hA
 have hHd := hL0.get _ _ List.mem_cons_self
 have hP := hL0.put 0 (w.heap.size) _ rfl [.bool false, .slice ao k c] rfl
 simp only [setAll, List.set_cons_zero, List.set_cons_succ] at hP
 generalize hput1 : ((x3.setCell ⟨w.heap.size, 0, none⟩ (.bool false)).setCell ⟨w.heap.size, 1, none⟩ (.slice ao k c)) = x4 at hP
 have hB1 := hP.fc
 simp only [fcG, cellsF, neK, and_true, ne_eq, Nat.zero_add, Nat.reduceAdd] at hB1
 replace hL0 := hP
 have hvF := sl_upd hv.out (show Upd (w.heap.size) x3 x4 by rw [← hput1]; exact ((Upd.refl _ _).setCell 0 _).setCell 1 _) hHd (by intro v hv n; simp only [List.mem_cons, List.not_mem_nil, or_false] at hv; rcases hv with rfl | rfl <;> simp)
 go_wp2_with fail
 exact bodyPost_ret (v := .tuple #[.agg #[.bool false, .slice ao k c], .int .i64 0]) (by simp [results, Tryz.results136, go_sem, hB1]) rfl ⟨⟨_, rfl, by first | exact hvF | (rw [hzz.out]; exact hvF)⟩, hL0.bl⟩
set_option maxHeartbeats 4000000 in
set_option maxRecDepth 100000 in
theorem rz_nil  (w : World) :
  Calls Tryz.prog 136 #[.string (st [])] w fun e w' => e = .returned (.tuple #[.agg #[.bool false, .slice none 0 0], .int .i64 4]) ∧ Below w.heap.size w w' := by
 have hL0 : GL w w [] := GL.start w
 have HP := Lib.hid (fun w => rparse_form [] (by decide) (isDec_no (by decide)) w)
 have g3 : decide ((0 : Int) < ((st []).size : Int)) = false := rfl
 have g4 : decide (0 < (st []).size) = false := rfl
 obtain ⟨s0, hs0⟩ : ∃ s0, s0 = st [] := ⟨_, rfl⟩
 rw [← hs0]
 simp only [← hs0] at g3 g4 HP
 clear hs0
 replace hL0 := (hL0.new rfl [.bool false, .slice none 0 0] 44)
 generalize hweq : (w.alloc (.cells #[.bool false, .slice none 0 0] 44)) = x1 at hL0
 go_enter Tryz.func136, Tryz.ntmps136
 have hA := hL0.fc
 simp only [fcG, cellsF, neK, and_true, ne_eq, Nat.zero_add, Nat.reduceAdd] at hA
 go_wp2_with fail
 clear hA
 with_reducible refine Calls.mono (HP.out _) ?_
 rintro e x2 ⟨rfl, hb⟩
 replace hL0 := hL0.call hb
 clear hb hweq
 have hA := hL0.fc
 simp only [fcG, cellsF, neK, and_true, ne_eq, Nat.zero_add, Nat.reduceAdd] at hA
 have hP := hL0.put 0 (w.heap.size) _ rfl [.bool false, .slice none 0 0] rfl
 simp only [setAll, List.set_cons_zero, List.set_cons_succ] at hP
 generalize hput1 : ((x2.setCell ⟨w.heap.size, 0, none⟩ (.bool false)).setCell ⟨w.heap.size, 1, none⟩ (.slice none 0 0)) = x3 at hP
 have hB1 := hP.fc
 simp only [fcG, cellsF, neK, and_true, ne_eq, Nat.zero_add, Nat.reduceAdd] at hB1
 replace hL0 := hP
 go_wp2_with fail
 exact bodyPost_ret (v := .tuple #[.agg #[.bool false, .slice none 0 0], .int .i64 4]) (by simp [results, Tryz.results136, go_sem, hB1]) rfl ⟨rfl, hL0.bl⟩
end Go.Proofs.YtdmoadfnogdfnaaGreatDoor
namespace Go.Proofs.YtdmoadfnogdfnaaGreatDoor
open Go.RowKit Go.Proofs.YtdmoadfnogdfnaaGreatDoor.Rx
attribute [local irreducible] lo hs sm s64 c64 d64 b64 mh ml pd pc qd qc val hiB str cmpI srD lz nb isq decB zl zh zs dval tln fd
theorem rf_nil (w : World) : RF w (.agg #[.bool false, .slice none 0 0, .slice none 0 0]) 0 := ⟨_, _, by with_unfolding_all rfl, rn_nil w, by with_unfolding_all exact rn_nil w⟩
theorem rz_nil0 (w : World) : RZ w (.agg #[.bool false, .slice none 0 0]) 0 := ⟨_, by with_unfolding_all rfl, rn_nil w⟩
set_option maxHeartbeats 4000000 in
set_option maxRecDepth 100000 in
theorem rftext_whole (q : Rat) (t : ByteArray) (HT : ∀ (p0 : Value) (w : World), RZ w p0 q.num → Calls Tryz.prog 76 #[p0] w fun e w' => e = .returned (.string t) ∧ Below w.heap.size w w') (h0 : (((tln (fd q) : Nat) : Int) == 0) = true) (h1 : decide (tln (fd q) = 0) = true) (p0 : Value) (w : World) (r0 : RF w p0 q) :
  Calls Tryz.prog 144 #[p0] w fun e w' => e = .returned (.string t) ∧ Below w.heap.size w w' := by
 obtain ⟨xa0, xc0, xb0, xd0, rfl⟩ := rf_form r0
 have xf0 := Lib.hid (rf_rn1 r0)
 have xk0 := Lib.hid (rf_rn2 r0)
 clear r0
 replace HT := Lib.hid HT
 have hL0 : GL w w [] := GL.start w
 have hS : SS w [] := SS.nil w
 replace hS := (hS.new (.cells #[.bool (zs q.num), .slice xa0 (tln q.num.natAbs) xc0, .slice xb0 (tln (fd q)) xd0] 82))
 replace hL0 := (hL0.new rfl [.bool (zs q.num), .slice xa0 (tln q.num.natAbs) xc0, .slice xb0 (tln (fd q)) xd0] 82)
 generalize hweq : (w.alloc (.cells #[.bool (zs q.num), .slice xa0 (tln q.num.natAbs) xc0, .slice xb0 (tln (fd q)) xd0] 82)) = x1 at hL0 hS
 go_enter Tryz.func144, Tryz.ntmps144
 have hN0 := cells_of _ 0 [] rfl (hL0.get _ _ List.mem_cons_self)
 simp only [cellsF, and_true, Nat.zero_add, Nat.reduceAdd] at hN0
 go_wp2_with fail
 clear hN0
 with_reducible refine Calls.mono (HT.out (.agg #[.bool (zs q.num), .slice xa0 (tln q.num.natAbs) xc0]) _ (rz_of (Sl.below xf0.out hL0.bl))) ?_
 rintro e x2 ⟨rfl, hb⟩
 replace hL0 := hL0.call hb
 replace hS := hS.call hb
 clear hb hweq
 go_wp2_with fail
 exact bodyPost_ret (v := .string t) (by simp [results, Tryz.results144, go_sem]) rfl ⟨rfl, hL0.bl⟩
set_option maxHeartbeats 4000000 in
set_option maxRecDepth 100000 in
theorem rftext_frac (q : Rat) (t u : ByteArray) (m : Nat) (HT : ∀ (p0 : Value) (w : World), RZ w p0 q.num → Calls Tryz.prog 76 #[p0] w fun e w' => e = .returned (.string t) ∧ Below w.heap.size w w') (HD : ∀ (p0 : Value) (w : World), RF w p0 q → Calls Tryz.prog 85 #[p0] w fun e w' => ∃ pv, e = .returned pv ∧ Rn w' pv m ∧ Below w.heap.size w w') (HU : ∀ (p0 : Value) (w : World), Rn w p0 m → Calls Tryz.prog 41 #[p0] w fun e w' => e = .returned (.string u) ∧ Below w.heap.size w w') (h0 : (((tln (fd q) : Nat) : Int) == 0) = false) (h1 : decide (tln (fd q) = 0) = false) (l1 : ¬ 9223372036854775807 < t.size + 1) (l2 : ¬ 9223372036854775807 < t.size + 1 + u.size) (p0 : Value) (w : World) (r0 : RF w p0 q) :
  Calls Tryz.prog 144 #[p0] w fun e w' => e = .returned (.string (t ++ ByteArray.mk #[47] ++ u)) ∧ Below w.heap.size w w' := by
 obtain ⟨xa0, xc0, xb0, xd0, rfl⟩ := rf_form r0
 have xf0 := Lib.hid (rf_rn1 r0)
 have xk0 := Lib.hid (rf_rn2 r0)
 clear r0
 replace HT := Lib.hid HT
 replace HD := Lib.hid HD
 replace HU := Lib.hid HU
 have hL0 : GL w w [] := GL.start w
 have hS : SS w [] := SS.nil w
 replace hS := (hS.new (.cells #[.bool (zs q.num), .slice xa0 (tln q.num.natAbs) xc0, .slice xb0 (tln (fd q)) xd0] 82))
 replace hL0 := (hL0.new rfl [.bool (zs q.num), .slice xa0 (tln q.num.natAbs) xc0, .slice xb0 (tln (fd q)) xd0] 82)
 generalize hweq : (w.alloc (.cells #[.bool (zs q.num), .slice xa0 (tln q.num.natAbs) xc0, .slice xb0 (tln (fd q)) xd0] 82)) = x1 at hL0 hS
 go_enter Tryz.func144, Tryz.ntmps144
 have hN0 := cells_of _ 0 [] rfl (hL0.get _ _ List.mem_cons_self)
 simp only [cellsF, and_true, Nat.zero_add, Nat.reduceAdd] at hN0
 go_upto_region 3 with fail
 clear hweq
 clear hN0
 refine region_tl 9 [EV (.pointer (some ⟨w.heap.size, 0, none⟩)), EV (.agg #[.bool (zs q.num), .slice xa0 (tln q.num.natAbs) xc0]), EV (.string t), EV (.string (t ++ (ByteArray.mk #[47]))), EV (.agg #[.bool (zs q.num), .slice xa0 (tln q.num.natAbs) xc0, .slice xb0 (tln (fd q)) xd0]), PN m, EV (.string u), EV (.string ((t ++ (ByteArray.mk #[47])) ++ u)), EV (.string ((t ++ (ByteArray.mk #[47])) ++ u))] (by kernel_rfl) (by kernel_rfl) ?_ ?_ ?_
 ·exact stays_cons (stays_eq _) (stays_cons (stays_eq _) (stays_cons (stays_eq _) (stays_cons (stays_eq _) (stays_cons (stays_eq _) (stays_cons (stays_rn _) (stays_cons (stays_eq _) (stays_cons (stays_eq _) (stays_cons (stays_eq _) (stays_nil)))))))))
 ·simp only [List.take_succ_cons, List.take_zero, hopsR, and_true]
  refine ⟨?_, ?_, ?_, ?_, ?_, ?_, ?_, ?_, ?_⟩ <;> intro fv w1 hb1 hp
  all_goals (simp only [putsV, Act.put, List.setIfInBounds_toArray, List.set_cons_succ, List.set_cons_zero, Nat.zero_add, Nat.reduceAdd])
  ·refine tyAt_none rfl ?_
   simp [tyUpon, execOp, go_sem, Act.eval, l1, l2, Below.refl]
  ·have h0 : EV _ (fv 0) w1 := hp 0 (LC (by kernel_rfl))
   refine tyAt_none rfl ?_
   have hc := (hL0.call (below_drew hb1)).fc
   simp only [fcG, cellsF, neK, and_true, ne_eq, Nat.zero_add, Nat.reduceAdd] at hc
   simp [tyUpon, execOp, go_sem, Act.eval, hc, h0, l1, l2, Below.refl]
  ·have h1 : EV _ (fv 1) w1 := hp 1 (LC (by kernel_rfl))
   refine tyAt_none rfl ?_
   refine ty_call (f := 76) (args := #[.agg #[.bool (zs q.num), .slice xa0 (tln q.num.natAbs) xc0]]) (by simp [execOp, go_sem, Act.eval, h1]) ?_
   exact (HT.out (.agg #[.bool (zs q.num), .slice xa0 (tln q.num.natAbs) xc0]) w1 (rz_of (Sl.below (Sl.below xf0.out hL0.bl) (below_drew hb1)))).mono fun e w2 ⟨h1, h2⟩ => ⟨_, h1, rfl, h2⟩
  ·have h2 : EV _ (fv 2) w1 := hp 2 (LC (by kernel_rfl))
   refine tyAt_none rfl ?_
   simp [tyUpon, execOp, go_sem, Act.eval, h2, l1, l2, Below.refl]
  ·refine tyAt_none rfl ?_
   have hc := (hL0.call (below_drew hb1)).fc
   simp only [fcG, cellsF, neK, and_true, ne_eq, Nat.zero_add, Nat.reduceAdd] at hc
   simp [tyUpon, execOp, go_sem, Act.eval, hc, l1, l2, Below.refl]
  ·have h4 : EV _ (fv 4) w1 := hp 4 (LC (by kernel_rfl))
   refine tyAt_none rfl ?_
   refine ty_call (f := 85) (args := #[.agg #[.bool (zs q.num), .slice xa0 (tln q.num.natAbs) xc0, .slice xb0 (tln (fd q)) xd0]]) (by simp [execOp, go_sem, Act.eval, h4]) ?_
   exact (HD.out (.agg #[.bool (zs q.num), .slice xa0 (tln q.num.natAbs) xc0, .slice xb0 (tln (fd q)) xd0]) w1 (rf_of (Sl.below (Sl.below xf0.out hL0.bl) (below_drew hb1)) (Sl.below (Sl.below xk0.out hL0.bl) (below_drew hb1)))).mono fun e w2 ⟨pv, h1, h2, h3⟩ => ⟨pv, h1, h2, h3⟩
  ·have h5 : PN _ (fv 5) w1 := hp 5 (LC (by kernel_rfl))
   refine tyAt_none rfl ?_
   refine ty_call (f := 41) (args := #[fv 5]) (by simp [execOp, go_sem, Act.eval]) ?_
   exact (HU.out (fv 5) w1 h5).mono fun e w2 ⟨h1, h2⟩ => ⟨_, h1, rfl, h2⟩
  ·have h3 : EV _ (fv 3) w1 := hp 3 (LC (by kernel_rfl))
   have h6 : EV _ (fv 6) w1 := hp 6 (LC (by kernel_rfl))
   refine tyAt_none rfl ?_
   simp [tyUpon, execOp, go_sem, Act.eval, h3, h6, l1, l2, Below.refl]
  ·have h7 : EV _ (fv 7) w1 := hp 7 (LC (by kernel_rfl))
   refine tyAt_none rfl ?_
   simp [tyUpon, execOp, go_sem, Act.eval, h7, l1, l2, Below.refl]
 ·intro fv x2 hb1 hv
  have e0 : fv 0 = _ := hv 0 (by omega)
  have e1 : fv 1 = _ := hv 1 (by omega)
  have e2 : fv 2 = _ := hv 2 (by omega)
  have e3 : fv 3 = _ := hv 3 (by omega)
  have e4 : fv 4 = _ := hv 4 (by omega)
  have q5 : Rn x2 (fv 5) m := hv 5 (by omega)
  obtain ⟨g1, d1, e5⟩ := rn_form q5
  rw [e5] at q5
  have e6 : fv 6 = _ := hv 6 (by omega)
  have e7 : fv 7 = _ := hv 7 (by omega)
  have e8 : fv 8 = _ := hv 8 (by omega)
  simp only [List.take_succ_cons, List.take_zero, putsV, Act.put, List.setIfInBounds_toArray, List.set_cons_succ, List.set_cons_zero, List.drop_succ_cons, List.drop_zero, Nat.zero_add, Nat.reduceAdd, e0, e1, e2, e3, e4, e5, e6, e7, e8]
  replace hL0 := hL0.call (below_drew hb1)
  replace hS := hS.call (below_drew hb1)
  replace hS := hS.cons q5
  clear e0 e1 e2 e3 e4 e5 e6 e7 e8 hb1 hv q5 fv
  go_wp2_with fail
  exact bodyPost_ret (v := .string ((t ++ (ByteArray.mk #[47])) ++ u)) (by simp [results, Tryz.results144, go_sem]) rfl ⟨rfl, hL0.bl⟩
end Go.Proofs.YtdmoadfnogdfnaaGreatDoor
namespace Go.Proofs.YtdmoadfnogdfnaaGreatDoor
open Go.RowKit
attribute [local irreducible] lo hs sm s64 c64 d64 b64 mh ml pd pc qd qc val hiB str cmpI srD lz nb isq decB zl zh zs dval
set_option maxHeartbeats 4000000 in
set_option maxRecDepth 100000 in
theorem iparse_n_long (r : List UInt8) (h : 4096 < r.length) (hl : r.length ≤ 1000000) (w : World) :
  Calls Tryz.prog 121 #[.string (st (45 :: r))] w fun e w' => e = .returned (.tuple #[intV 0, .int .i64 3]) ∧ Below w.heap.size w w' := by
 have hL0 : GL w w [] := GL.start w
 have HC := Lib.hid (fun w => cut_yes r w)
 have HP := Lib.hid (fun w => parse_long r h hl w)
 clear h hl
 generalize st (45 :: r) = s0 at *
 generalize st r = s at *
 replace hL0 := (hL0.new rfl [.int .u64 0, .string ⟨#[]⟩, .bool false] 39)
 generalize hweq : (w.alloc (.cells #[.int .u64 0, .string ⟨#[]⟩, .bool false] 39)) = x1 at hL0
 go_enter Tryz.func121, Tryz.ntmps121
 have hA := hL0.fc
 simp only [fcG, cellsF, neK, and_true, ne_eq, Nat.zero_add, Nat.reduceAdd] at hA
 go_wp2_with fail
 with_reducible refine Calls.mono (HC.out _) ?_
 rintro e x2 ⟨rfl, rfl⟩
 clear hweq
 go_wp2_with fail
 clear hA
 with_reducible refine Calls.mono (HP.out _) ?_
 rintro e x3 ⟨rfl, hb⟩
 replace hL0 := hL0.call hb
 clear hb
 replace hL0 := (hL0.new rfl [.int .u64 ((lo 0 : Nat) : Int), .string (hs 0)] 32)
 generalize hweq : (x3.alloc (.cells #[.int .u64 ((lo 0 : Nat) : Int), .string (hs 0)] 32)) = x4 at hL0
 have hA := hL0.fc
 simp only [fcG, cellsF, neK, and_true, ne_eq, Nat.zero_add, Nat.reduceAdd] at hA
 have hP := hL0.put 1 (w.heap.size) _ rfl [.int .u64 0, .string ⟨#[]⟩, .bool false] rfl
 simp only [setAll, List.set_cons_zero, List.set_cons_succ] at hP
 generalize hput1 : (((x4.setCell ⟨w.heap.size, 0, none⟩ (.int .u64 0)).setCell ⟨w.heap.size, 1, none⟩ (.string ⟨#[]⟩)).setCell ⟨w.heap.size, 2, none⟩ (.bool false)) = x5 at hP
 have hB1 := hP.fc
 simp only [fcG, cellsF, neK, and_true, ne_eq, Nat.zero_add, Nat.reduceAdd] at hB1
 replace hL0 := hP
 go_wp2_with fail
 exact bodyPost_ret (v := .tuple #[intV 0, .int .i64 3]) (by rw [intV_zero, zV_zero]; simp [results, Tryz.results121, go_sem, hB1]) rfl ⟨rfl, hL0.bl⟩
set_option maxHeartbeats 4000000 in
set_option maxRecDepth 100000 in
theorem iparse_n_form (r : List UInt8) (h : r.length ≤ 4096) (hd : ¬ isDec r) (w : World) :
  Calls Tryz.prog 121 #[.string (st (45 :: r))] w fun e w' => e = .returned (.tuple #[intV 0, .int .i64 4]) ∧ Below w.heap.size w w' := by
 have hL0 : GL w w [] := GL.start w
 have HC := Lib.hid (fun w => cut_yes r w)
 have HP := Lib.hid (fun w => parse_form r h hd w)
 clear h hd
 generalize st (45 :: r) = s0 at *
 generalize st r = s at *
 replace hL0 := (hL0.new rfl [.int .u64 0, .string ⟨#[]⟩, .bool false] 39)
 generalize hweq : (w.alloc (.cells #[.int .u64 0, .string ⟨#[]⟩, .bool false] 39)) = x1 at hL0
 go_enter Tryz.func121, Tryz.ntmps121
 have hA := hL0.fc
 simp only [fcG, cellsF, neK, and_true, ne_eq, Nat.zero_add, Nat.reduceAdd] at hA
 go_wp2_with fail
 with_reducible refine Calls.mono (HC.out _) ?_
 rintro e x2 ⟨rfl, rfl⟩
 clear hweq
 go_wp2_with fail
 clear hA
 with_reducible refine Calls.mono (HP.out _) ?_
 rintro e x3 ⟨rfl, hb⟩
 replace hL0 := hL0.call hb
 clear hb
 replace hL0 := (hL0.new rfl [.int .u64 ((lo 0 : Nat) : Int), .string (hs 0)] 32)
 generalize hweq : (x3.alloc (.cells #[.int .u64 ((lo 0 : Nat) : Int), .string (hs 0)] 32)) = x4 at hL0
 have hA := hL0.fc
 simp only [fcG, cellsF, neK, and_true, ne_eq, Nat.zero_add, Nat.reduceAdd] at hA
 have hP := hL0.put 1 (w.heap.size) _ rfl [.int .u64 0, .string ⟨#[]⟩, .bool false] rfl
 simp only [setAll, List.set_cons_zero, List.set_cons_succ] at hP
 generalize hput1 : (((x4.setCell ⟨w.heap.size, 0, none⟩ (.int .u64 0)).setCell ⟨w.heap.size, 1, none⟩ (.string ⟨#[]⟩)).setCell ⟨w.heap.size, 2, none⟩ (.bool false)) = x5 at hP
 have hB1 := hP.fc
 simp only [fcG, cellsF, neK, and_true, ne_eq, Nat.zero_add, Nat.reduceAdd] at hB1
 replace hL0 := hP
 go_wp2_with fail
 exact bodyPost_ret (v := .tuple #[intV 0, .int .i64 4]) (by rw [intV_zero, zV_zero]; simp [results, Tryz.results121, go_sem, hB1]) rfl ⟨rfl, hL0.bl⟩
set_option maxHeartbeats 4000000 in
set_option maxRecDepth 100000 in
theorem iparse_n_zero (r : List UInt8) (h : r.length ≤ 4096) (hd : isDec r) (hz : dval r = 0) (w : World) :
  Calls Tryz.prog 121 #[.string (st (45 :: r))] w fun e w' => e = .returned (.tuple #[intV 0, .int .i64 4]) ∧ Below w.heap.size w w' := by
 have hL0 : GL w w [] := GL.start w
 have HC := Lib.hid (fun w => cut_yes r w)
 have HP := Lib.hid (fun w => parse_ok r h hd w)
 rw [hz] at HP
 have e0 : (((lo 0 : Nat) : Int) == 0) = true := by rw [lo_small Bs_pos]; rfl
 have e1 : ((hs 0).toList == []) = true := by rw [hs_small Bs_pos, ByteArray.toList_eq]; rfl
 clear h hd hz
 generalize st (45 :: r) = s0 at *
 generalize st r = s at *
 replace hL0 := (hL0.new rfl [.int .u64 0, .string ⟨#[]⟩, .bool false] 39)
 generalize hweq : (w.alloc (.cells #[.int .u64 0, .string ⟨#[]⟩, .bool false] 39)) = x1 at hL0
 go_enter Tryz.func121, Tryz.ntmps121
 have hA := hL0.fc
 simp only [fcG, cellsF, neK, and_true, ne_eq, Nat.zero_add, Nat.reduceAdd] at hA
 go_wp2_with fail
 with_reducible refine Calls.mono (HC.out _) ?_
 rintro e x2 ⟨rfl, rfl⟩
 clear hweq
 go_wp2_with fail
 clear hA
 with_reducible refine Calls.mono (HP.out _) ?_
 rintro e x3 ⟨rfl, hb⟩
 replace hL0 := hL0.call hb
 clear hb
 replace hL0 := (hL0.new rfl [.int .u64 ((lo 0 : Nat) : Int), .string (hs 0)] 32)
 generalize hweq : (x3.alloc (.cells #[.int .u64 ((lo 0 : Nat) : Int), .string (hs 0)] 32)) = x4 at hL0
 have hA := hL0.fc
 simp only [fcG, cellsF, neK, and_true, ne_eq, Nat.zero_add, Nat.reduceAdd] at hA
 have hP := hL0.put 1 (w.heap.size) _ rfl [.int .u64 0, .string ⟨#[]⟩, .bool false] rfl
 simp only [setAll, List.set_cons_zero, List.set_cons_succ] at hP
 generalize hput1 : (((x4.setCell ⟨w.heap.size, 0, none⟩ (.int .u64 0)).setCell ⟨w.heap.size, 1, none⟩ (.string ⟨#[]⟩)).setCell ⟨w.heap.size, 2, none⟩ (.bool false)) = x5 at hP
 have hB1 := hP.fc
 simp only [fcG, cellsF, neK, and_true, ne_eq, Nat.zero_add, Nat.reduceAdd] at hB1
 replace hL0 := hP
 go_wp2_with fail
 exact bodyPost_ret (v := .tuple #[intV 0, .int .i64 4]) (by rw [intV_zero, zV_zero]; simp [results, Tryz.results121, go_sem, hB1]) rfl ⟨rfl, hL0.bl⟩
set_option maxHeartbeats 4000000 in
set_option maxRecDepth 100000 in
theorem iparse_p_long (l : List UInt8) (h : 4096 < l.length) (hl : l.length ≤ 1000000) (hh : l.head? ≠ some 45) (w : World) :
  Calls Tryz.prog 121 #[.string (st l)] w fun e w' => e = .returned (.tuple #[intV 0, .int .i64 3]) ∧ Below w.heap.size w w' := by
 have hL0 : GL w w [] := GL.start w
 have HC := Lib.hid (fun w => cut_no l hh w)
 have HP := Lib.hid (fun w => parse_long l h hl w)
 clear h hl hh
 generalize st l = s at *
 replace hL0 := (hL0.new rfl [.int .u64 0, .string ⟨#[]⟩, .bool false] 39)
 generalize hweq : (w.alloc (.cells #[.int .u64 0, .string ⟨#[]⟩, .bool false] 39)) = x1 at hL0
 go_enter Tryz.func121, Tryz.ntmps121
 have hA := hL0.fc
 simp only [fcG, cellsF, neK, and_true, ne_eq, Nat.zero_add, Nat.reduceAdd] at hA
 go_wp2_with fail
 with_reducible refine Calls.mono (HC.out _) ?_
 rintro e x2 ⟨rfl, rfl⟩
 clear hweq
 go_wp2_with fail
 clear hA
 with_reducible refine Calls.mono (HP.out _) ?_
 rintro e x3 ⟨rfl, hb⟩
 replace hL0 := hL0.call hb
 clear hb
 replace hL0 := (hL0.new rfl [.int .u64 ((lo 0 : Nat) : Int), .string (hs 0)] 32)
 generalize hweq : (x3.alloc (.cells #[.int .u64 ((lo 0 : Nat) : Int), .string (hs 0)] 32)) = x4 at hL0
 have hA := hL0.fc
 simp only [fcG, cellsF, neK, and_true, ne_eq, Nat.zero_add, Nat.reduceAdd] at hA
 have hP := hL0.put 1 (w.heap.size) _ rfl [.int .u64 0, .string ⟨#[]⟩, .bool false] rfl
 simp only [setAll, List.set_cons_zero, List.set_cons_succ] at hP
 generalize hput1 : (((x4.setCell ⟨w.heap.size, 0, none⟩ (.int .u64 0)).setCell ⟨w.heap.size, 1, none⟩ (.string ⟨#[]⟩)).setCell ⟨w.heap.size, 2, none⟩ (.bool false)) = x5 at hP
 have hB1 := hP.fc
 simp only [fcG, cellsF, neK, and_true, ne_eq, Nat.zero_add, Nat.reduceAdd] at hB1
 replace hL0 := hP
 go_wp2_with fail
 exact bodyPost_ret (v := .tuple #[intV 0, .int .i64 3]) (by rw [intV_zero, zV_zero]; simp [results, Tryz.results121, go_sem, hB1]) rfl ⟨rfl, hL0.bl⟩
end Go.Proofs.YtdmoadfnogdfnaaGreatDoor
namespace Go.Proofs.YtdmoadfnogdfnaaGreatDoor
open Go.RowKit
attribute [local irreducible] lo hs sm s64 c64 d64 b64 mh ml pd pc qd qc val hiB str cmpI srD lz nb isq decB zl zh zs
set_option maxHeartbeats 4000000 in
set_option maxRecDepth 100000 in
theorem fparse_whole (s p q : ByteArray) (z n : Int) (e : Nat) (KT : World → Prop) (hKT : Keeps KT) (HC : RK KT 151 #[.string s, .string (ByteArray.mk #[47])] (.tuple #[.string p, .string q, .bool false])) (HI : RT 121 #[.string p] (.tuple #[intV z, .int .i64 0])) (HO : RT 81 #[.int .u64 1] (natV 1)) (HL : RT 149 #[intV z, natV 1] (frV n e)) (w : World) (kKT : KT w) :
  Calls Tryz.prog 78 #[.string s] w fun xe w' => xe = .returned (.tuple #[frV n e, .int .i64 0]) ∧ Below w.heap.size w w' := by
 have hL0 : GL w w [] := GL.start w
 replace hKT := Lib.hid hKT
 replace HC := Lib.hid HC
 replace HI := Lib.hid HI
 replace HO := Lib.hid HO
 replace HL := Lib.hid HL
 replace hL0 := (hL0.new rfl [.int .u64 0, .string ⟨#[]⟩, .bool false, .int .u64 0, .string ⟨#[]⟩] 79)
 generalize hweq : (w.alloc (.cells #[.int .u64 0, .string ⟨#[]⟩, .bool false, .int .u64 0, .string ⟨#[]⟩] 79)) = x1 at hL0
 go_enter Tryz.func78, Tryz.ntmps78
 go_wp2_with fail
 with_reducible refine Calls.mono (HC.out _ (hKT.out.at hL0.bl kKT)) ?_
 rintro e x2 ⟨rfl, hb⟩
 replace hL0 := hL0.call hb
 clear hb hweq
 go_wp2_with fail
 with_reducible refine Calls.mono (HI.out _) ?_
 rintro e x3 ⟨rfl, hb⟩
 replace hL0 := hL0.call hb
 clear hb
 replace hL0 := (hL0.new rfl [.int .u64 ((zl z : Nat) : Int), .string (zh z), .bool (zs z)] 39)
 generalize hweq : (x3.alloc (.cells #[.int .u64 ((zl z : Nat) : Int), .string (zh z), .bool (zs z)] 39)) = x4 at hL0
 go_upto_region 6 with fail
 clear hweq
 obtain ⟨α, iα, F, hF1, hF2⟩ := cls x4
 have hq0 := cls_box hF1 hL0 _ _ List.mem_cons_self
 simp only [cellsC, and_true, Nat.zero_add, Nat.reduceAdd] at hq0
 refine region_qs 3 (C := fun w' => ∃ x, w' = F x) (by kernel_rfl) (by kernel_rfl) (cls_drew hF2) ?_
 simp only [List.take_succ_cons, List.take_zero, List.drop_succ_cons, List.drop_zero, List.take_nil, List.drop_nil]
 repeat (go_big_quiet_step (first | fail | (go_at_call 81; with_reducible exact cls_call hF1 hF2 HO.out _) | (go_at_call 149; with_reducible exact cls_call hF1 hF2 HL.out _)))
 refine wpQuiet_nil ?_
 rintro wq ⟨xq, rfl⟩
 replace hL0 := hL0.call (hF1 xq)
 clear  hq0 hF2
 generalize F xq = x5 at hL0 ⊢
 clear hF1 xq iα F α
 have hA := hL0.fc
 simp only [fcG, cellsF, neK, and_true, ne_eq, Nat.zero_add, Nat.reduceAdd] at hA
 have hP := hL0.put 1 (w.heap.size) _ rfl [.int .u64 ((zl n : Nat) : Int), .string (zh n), .bool (zs n), .int .u64 ((lo e : Nat) : Int), .string (hs e)] rfl
 simp only [setAll, List.set_cons_zero, List.set_cons_succ] at hP
 generalize hput1 : (((((x5.setCell ⟨w.heap.size, 0, none⟩ (.int .u64 ((zl n : Nat) : Int))).setCell ⟨w.heap.size, 1, none⟩ (.string (zh n))).setCell ⟨w.heap.size, 2, none⟩ (.bool (zs n))).setCell ⟨w.heap.size, 3, none⟩ (.int .u64 ((lo e : Nat) : Int))).setCell ⟨w.heap.size, 4, none⟩ (.string (hs e))) = x6 at hP
 have hB1 := hP.fc
 simp only [fcG, cellsF, neK, and_true, ne_eq, Nat.zero_add, Nat.reduceAdd] at hB1
 replace hL0 := hP
 go_wp2_with fail
 exact bodyPost_ret (v := .tuple #[frV n e, .int .i64 0]) (by simp [results, Tryz.results78, go_sem, hB1]) rfl ⟨rfl, hL0.bl⟩
end Go.Proofs.YtdmoadfnogdfnaaGreatDoor
namespace Go.Proofs.YtdmoadfnogdfnaaGreatDoor
open Go.RowKit Go.Proofs.YtdmoadfnogdfnaaGreatDoor.Rx
attribute [local irreducible] lo hs sm s64 c64 d64 b64 mh ml pd pc qd qc val hiB str cmpI srD lz nb isq decB zl zh dval txt
theorem dI_td {a : Int} {k : Nat} (h : dI a ≤ k) : (Rx.td a.natAbs).length ≤ 5 * k := td_of_digs h
end Go.Proofs.YtdmoadfnogdfnaaGreatDoor
namespace Go.Proofs.YtdmoadfnogdfnaaGreatDoor
open Go.RowKit Go.Proofs.YtdmoadfnogdfnaaGreatDoor.Rx
attribute [local irreducible] lo hs sm s64 c64 d64 b64 mh ml pd pc qd qc val hiB str cmpI srD lz nb isq decB zl zh zs dval tln fd qtxt
set_option maxHeartbeats 4000000 in
set_option maxRecDepth 100000 in
theorem fsame_w (p q : Rat) (t : ByteArray) (K : World → Prop) (hK : Keeps K) (HT : RK K 143 #[fracV p] (.string t)) (HU : ∀ (p0 : Value) (w : World), RF w p0 q → Calls Tryz.prog 144 #[p0] w fun e w' => e = .returned (.string t) ∧ Below w.heap.size w w') (p1 : Value) (w : World) (kK : K w) (r1 : RF w p1 q) :
  Calls Tryz.prog 60 #[fracV p, p1] w fun e w' => e = .returned (.bool true) ∧ Below w.heap.size w w' := by
 obtain ⟨xa1, xc1, xb1, xd1, rfl⟩ := rf_form r1
 have xf1 := Lib.hid (rf_rn1 r1)
 have xk1 := Lib.hid (rf_rn2 r1)
 clear r1
 replace hK := Lib.hid hK
 replace HT := Lib.hid HT
 replace HU := Lib.hid HU
 have hL0 : GL w w [] := GL.start w
 have hS : SS w [] := SS.nil w
 replace hS := ((hS.new (.cells #[.int .u64 ((zl p.num : Nat) : Int), .string (zh p.num), .bool (zs p.num), .int .u64 ((lo (fe p) : Nat) : Int), .string (hs (fe p))] 79)).new (.cells #[.bool (zs q.num), .slice xa1 (tln q.num.natAbs) xc1, .slice xb1 (tln (fd q)) xd1] 82))
 replace hL0 := ((hL0.new rfl [.int .u64 ((zl p.num : Nat) : Int), .string (zh p.num), .bool (zs p.num), .int .u64 ((lo (fe p) : Nat) : Int), .string (hs (fe p))] 79).new (K := w.heap.size + 1) (szA _ _) [.bool (zs q.num), .slice xa1 (tln q.num.natAbs) xc1, .slice xb1 (tln (fd q)) xd1] 82)
 generalize hweq : ((w.alloc (.cells #[.int .u64 ((zl p.num : Nat) : Int), .string (zh p.num), .bool (zs p.num), .int .u64 ((lo (fe p) : Nat) : Int), .string (hs (fe p))] 79)).alloc (.cells #[.bool (zs q.num), .slice xa1 (tln q.num.natAbs) xc1, .slice xb1 (tln (fd q)) xd1] 82)) = x1 at hL0 hS
 go_enter Tryz.func60, Tryz.ntmps60
 go_upto_region 1 with fail
 clear hweq
 refine region_tl 6 [EV (fracV p), EV (.string t), EV (.agg #[.bool (zs q.num), .slice xa1 (tln q.num.natAbs) xc1, .slice xb1 (tln (fd q)) xd1]), EV (.string t), EV (.bool true), EV (.bool true)] (by kernel_rfl) (by kernel_rfl) ?_ ?_ ?_
 ·exact stays_cons (stays_eq _) (stays_cons (stays_eq _) (stays_cons (stays_eq _) (stays_cons (stays_eq _) (stays_cons (stays_eq _) (stays_cons (stays_eq _) (stays_nil))))))
 ·simp only [List.take_succ_cons, List.take_zero, hopsR, and_true]
  refine ⟨?_, ?_, ?_, ?_, ?_, ?_⟩ <;> intro fv w1 hb1 hp
  all_goals (simp only [putsV, Act.put, List.setIfInBounds_toArray, List.set_cons_succ, List.set_cons_zero, Nat.zero_add, Nat.reduceAdd])
  ·refine tyAt_none rfl ?_
   have hc := (hL0.call (below_drew hb1)).fc
   simp only [fcG, cellsF, neK, and_true, ne_eq, Nat.zero_add, Nat.reduceAdd] at hc
   simp [tyUpon, execOp, go_sem, Act.eval, hc, Below.refl]
  ·have h0 : EV _ (fv 0) w1 := hp 0 (LC (by kernel_rfl))
   refine tyAt_none rfl ?_
   refine ty_call (f := 143) (args := #[fracV p]) (by simp [execOp, go_sem, Act.eval, h0]) ?_
   exact (HT.out w1 (hK.out.at ((hL0.call (below_drew hb1)).bl) kK)).mono fun e w2 ⟨h1, h2⟩ => ⟨_, h1, rfl, h2⟩
  ·refine tyAt_none rfl ?_
   have hc := (hL0.call (below_drew hb1)).fc
   simp only [fcG, cellsF, neK, and_true, ne_eq, Nat.zero_add, Nat.reduceAdd] at hc
   simp [tyUpon, execOp, go_sem, Act.eval, hc, Below.refl]
  ·have h2 : EV _ (fv 2) w1 := hp 2 (LC (by kernel_rfl))
   refine tyAt_none rfl ?_
   refine ty_call (f := 144) (args := #[.agg #[.bool (zs q.num), .slice xa1 (tln q.num.natAbs) xc1, .slice xb1 (tln (fd q)) xd1]]) (by simp [execOp, go_sem, Act.eval, h2]) ?_
   exact (HU.out (.agg #[.bool (zs q.num), .slice xa1 (tln q.num.natAbs) xc1, .slice xb1 (tln (fd q)) xd1]) w1 (rf_of (Sl.below (Sl.below xf1.out hL0.bl) (below_drew hb1)) (Sl.below (Sl.below xk1.out hL0.bl) (below_drew hb1)))).mono fun e w2 ⟨h1, h2⟩ => ⟨_, h1, rfl, h2⟩
  ·have h1 : EV _ (fv 1) w1 := hp 1 (LC (by kernel_rfl))
   have h3 : EV _ (fv 3) w1 := hp 3 (LC (by kernel_rfl))
   refine tyAt_none rfl ?_
   simp [tyUpon, execOp, go_sem, Act.eval, h1, h3, Below.refl]
  ·have h4 : EV _ (fv 4) w1 := hp 4 (LC (by kernel_rfl))
   refine tyAt_none rfl ?_
   simp [tyUpon, execOp, go_sem, Act.eval, h4, Below.refl]
 ·intro fv x2 hb1 hv
  have e0 : fv 0 = _ := hv 0 (by omega)
  have e1 : fv 1 = _ := hv 1 (by omega)
  have e2 : fv 2 = _ := hv 2 (by omega)
  have e3 : fv 3 = _ := hv 3 (by omega)
  have e4 : fv 4 = _ := hv 4 (by omega)
  have e5 : fv 5 = _ := hv 5 (by omega)
  simp only [List.take_succ_cons, List.take_zero, putsV, Act.put, List.setIfInBounds_toArray, List.set_cons_succ, List.set_cons_zero, List.drop_succ_cons, List.drop_zero, Nat.zero_add, Nat.reduceAdd, e0, e1, e2, e3, e4, e5]
  replace hL0 := hL0.call (below_drew hb1)
  replace hS := hS.call (below_drew hb1)
  clear e0 e1 e2 e3 e4 e5 hb1 hv fv
  go_wp2_with fail
  exact bodyPost_ret (v := .bool true) (by simp [results, Tryz.results60, go_sem]) rfl ⟨rfl, hL0.bl⟩
end Go.Proofs.YtdmoadfnogdfnaaGreatDoor
namespace Go.Proofs.YtdmoadfnogdfnaaGreatDoor
open Go.RowKit Go.Proofs.YtdmoadfnogdfnaaGreatDoor.Rx
attribute [local irreducible] lo hs sm s64 c64 d64 b64 mh ml pd pc qd qc val hiB str cmpI srD lz nb isq decB zl zh zs
theorem dval_dig {l : List UInt8} (hd : isDec l) (h : l.length ≤ 4200) : (digs (dval l)).length ≤ 1000000 ∧ (td (dval l)).length ≤ 1000000 := by
 obtain ⟨K, hK⟩ : ∃ K, K = 1000000 := ⟨_, rfl⟩
 rw [← hK]
 have h1 : dval l < 10 ^ K := Nat.lt_of_lt_of_le (dval_lt hd.1) (Nat.pow_le_pow_right (by omega) (by omega))
 exact ⟨digs_length_iff.2 (Nat.lt_of_lt_of_le h1 (Nat.pow_le_pow_left (show 10 ≤ Bs by unfold Bs; omega) K)), td_length.2 (Nat.lt_of_lt_of_le h1 (Nat.pow_le_pow_left (show 10 ≤ 10000 by omega) K))⟩
end Go.Proofs.YtdmoadfnogdfnaaGreatDoor
namespace Go.Proofs.YtdmoadfnogdfnaaGreatDoor
open Go.RowKit Go.Proofs.YtdmoadfnogdfnaaGreatDoor.Rx
attribute [local irreducible] lo hs sm s64 c64 d64 b64 mh ml pd pc qd qc val hiB str cmpI srD lz nb isq decB zl zh dval txt
theorem rztextI (z : Int) (lz : (Rx.td z.natAbs).length ≤ 1000000) (v : Value) (w : World) (h : RZ w v z) : Calls Tryz.prog 76 #[v] w fun e w' => e = .returned (.string (ztxt z)) ∧ Below w.heap.size w w' := by
 obtain ⟨a, rfl, ha⟩ := h
 unfold ztxt
 by_cases h0 : z < 0
 ·rw [if_pos h0, decide_eq_true h0]; exact rztext_true a _ lz w ha
 ·rw [if_neg h0, decide_eq_false h0]; exact rztext_false a _ lz w ha
theorem txt_size {n k : Nat} (h : (digs n).length ≤ k) (hk : k ≤ 100) : (txt n).size ≤ 2000 := Nat.le_trans (txt_small (k := 100) (by omega) (by omega)) (by omega)
theorem ztxt_size {z : Int} {k : Nat} (h : dI z ≤ k) (hk : k ≤ 100) : (ztxt z).size ≤ 2001 := by
 have := txt_size (n := z.natAbs) h hk
 unfold ztxt
 split
 ·rw [ByteArray.size_append]; have : (ByteArray.mk #[45]).size = 1 := rfl; omega
 ·omega
theorem rtextF (q : Rat) {k : Nat} (hq : Sz q k) (hk : k ≤ 100) (v : Value) (w : World) (h : RF w v q) : Calls Tryz.prog 144 #[v] w fun e w' => e = .returned (.string (qtxt q)) ∧ Below w.heap.size w w' := by
 have a2 := hq.tn; have a4 := hq.tdn
 have hd := q.den_nz
 have hz : tln (fd q) = 0 ↔ q.den = 1 := by unfold tln fd; rw [td_len_zero]; omega
 unfold qtxt
 by_cases h1 : q.den = 1
 ·rw [if_pos h1]
  exact rftext_whole q _ (rztextI q.num (by omega)) (by rw [hz.2 h1]; rfl) (decide_eq_true (hz.2 h1)) v w h
 ·rw [if_neg h1]
  have h2 : ¬ tln (fd q) = 0 := mt hz.1 h1
  have s1 := ztxt_size hq.1 hk
  have s2 := txt_size hq.2 hk
  exact rftext_frac q _ _ q.den (rztextI q.num (by omega)) (rden q hq (by omega)) (fun a w ha => rtext_any a _ (by omega) w ha) (beq_eq_false_iff_ne.2 (by omega)) (decide_eq_false h2) (by omega) (by omega) v w h
theorem sameF (q : Rat) {k : Nat} (hq : Sz q k) (hk : k ≤ 100) (v : Value) (w : World) (htab : Tab w) (h : RF w v q) :
  Calls Tryz.prog 60 #[fracV q, v] w fun e w' => e = .returned (.bool true) ∧ Below w.heap.size w w' :=
 fsame_w q q (qtxt q) Tab Keeps.tab (fun w ht => textF q k hq (by omega) w ht) (rtextF q hq hk) v w htab h
end Go.Proofs.YtdmoadfnogdfnaaGreatDoor
namespace Go.Proofs.YtdmoadfnogdfnaaGreatDoor
open Go.RowKit
attribute [local irreducible] lo hs sm s64 c64 d64 b64 mh ml pd pc qd qc val hiB str cmpI srD lz nb isq decB zl zh zs dval
theorem occ_one {s : List UInt8} {i : Nat} : Lib.occAt s [47] i = true → s[i]? = some 47 := fun h => Lib.occAt_head rfl h
theorem cut_no47 {l : List UInt8} (h : 47 ∉ l) : Lib.cut l [47] = (l, [], false) := by
 unfold Lib.cut
 rcases Lib.index_spec l [47] with ⟨h1, _⟩ | ⟨i, h1, _, h3, _⟩
 ·rw [h1]; rfl
 ·exact absurd (List.mem_of_getElem? (occ_one h3)) h
theorem cut_at47 {l r : List UInt8} (h : 47 ∉ l) : Lib.cut (l ++ 47 :: r) [47] = (l, r, true) := by
 unfold Lib.cut
 have hat : Lib.occAt (l ++ 47 :: r) [47] l.length = true := by
  unfold Lib.occAt; rw [List.drop_left]; rfl
 rcases Lib.index_spec (l ++ 47 :: r) [47] with ⟨_, h2⟩ | ⟨i, h1, h2, h3, h4⟩
 ·have := h2 l.length (by simp)
  rw [hat] at this; cases this
 ·have e : i = l.length := by
   rcases Nat.lt_trichotomy i l.length with hl | hl | hl
   ·have := occ_one h3
    rw [List.getElem?_append_left hl] at this
    exact absurd (List.mem_of_getElem? this) h
   ·exact hl
   ·have := h4 l.length hl
    rw [hat] at this; cases this
  rw [h1, e, if_pos (by omega)]
  simp
end Go.Proofs.YtdmoadfnogdfnaaGreatDoor
namespace Go.Proofs.YtdmoadfnogdfnaaGreatDoor
open Go.RowKit Go.Proofs.YtdmoadfnogdfnaaGreatDoor.Rx
attribute [local irreducible] lo hs sm s64 c64 d64 b64 mh ml pd pc qd qc val hiB str cmpI srD lz nb isq decB zl zh dval txt
/-- The integer of a string, and the code. -/
structure IP (l : List UInt8) (z c : Int) : Prop where
 p : ∀ w, Calls Tryz.prog 121 #[.string (st l)] w fun e w' => e = .returned (.tuple #[intV z, .int .i64 c]) ∧ Below w.heap.size w w'
 r : ∀ w, Calls Tryz.prog 136 #[.string (st l)] w fun e w' => ∃ v, e = .returned (.tuple #[v, .int .i64 c]) ∧ RZ w' v z ∧ Below w.heap.size w w'
 d : dI z ≤ 1000000
 d1 : l.length ≤ 300 → dI z ≤ 16
 ok : c = 0 ∨ z = 0 ∧ c ≠ 0
/-- The natural number of a string, and the code. -/
structure NP (l : List UInt8) (n : Nat) (c : Int) : Prop where
 p : ∀ w, Calls Tryz.prog 112 #[.string (st l)] w fun e w' => e = .returned (.tuple #[natV n, .int .i64 c]) ∧ Below w.heap.size w w'
 r : ∀ w, Calls Tryz.prog 119 #[.string (st l)] w fun e w' => ∃ v, e = .returned (.tuple #[v, .int .i64 c]) ∧ Rn w' v n ∧ Below w.heap.size w w'
 d : (digs n).length ≤ 1000000
 d1 : l.length ≤ 300 → (digs n).length ≤ 16
 ok : c = 0 ∨ n = 0 ∧ c ≠ 0
theorem dval_d16 {l : List UInt8} (hd : isDec l) (h : l.length ≤ 300) : (digs (dval l)).length ≤ 16 := by
 obtain ⟨k, hk⟩ : ∃ k, k = 16 := ⟨_, rfl⟩
 have h1 : dval l < 10 ^ (19 * k) := Nat.lt_of_lt_of_le (dval_lt hd.1) (Nat.pow_le_pow_right (by omega) (by omega))
 rw [Nat.pow_mul] at h1
 rw [← hk]
 exact digs_length_iff.2 (Nat.lt_of_lt_of_le h1 (Nat.pow_le_pow_left (show 10 ^ 19 ≤ Bs by unfold Bs; decide) k))
theorem npb_of {l : List UInt8} {c : Int} (hc : c ≠ 0) (hp : RT 112 #[.string (st l)] (.tuple #[natV 0, .int .i64 c]))
  (hr : ∀ w, Calls Tryz.prog 119 #[.string (st l)] w fun e w' => e = .returned (.tuple #[.slice none 0 0, .int .i64 c]) ∧ Below w.heap.size w w') : NP l 0 c :=
 ⟨hp, fun w => (hr w).mono fun e w' ⟨h1, h2⟩ => ⟨_, h1, rn_nil w', h2⟩, by rw [digs_zero]; decide, fun _ => by rw [digs_zero]; decide, .inr ⟨rfl, hc⟩⟩
theorem ipb_of {l : List UInt8} {c : Int} (hc : c ≠ 0) (hp : RT 121 #[.string (st l)] (.tuple #[intV 0, .int .i64 c]))
  (hr : ∀ w, Calls Tryz.prog 136 #[.string (st l)] w fun e w' => e = .returned (.tuple #[.agg #[.bool false, .slice none 0 0], .int .i64 c]) ∧ Below w.heap.size w w') : IP l 0 c :=
 ⟨hp, fun w => (hr w).mono fun e w' ⟨h1, h2⟩ => ⟨_, h1, rz_nil0 w', h2⟩, Nat.le_trans (dI_lit (by decide)) (by omega), fun _ => Nat.le_trans (dI_lit (by decide)) (by omega), .inr ⟨rfl, hc⟩⟩
theorem np_any (l : List UInt8) (hl : l.length ≤ 8400) : ∃ n c, NP l n c := by
 rcases Nat.lt_or_ge 4096 l.length with h2 | h2
 ·exact ⟨0, 3, npb_of (by decide) (fun w => parse_long l h2 (by omega) w) (fun w => rparse_long l h2 (by omega) w)⟩
 by_cases hd : isDec l
 ·exact ⟨dval l, 0, fun w => parse_ok l h2 hd w, fun w => (rparse_dec l h2 hd w).mono fun e w' ⟨⟨v, h1, h3⟩, h2⟩ => ⟨v, h1, h3, h2⟩, (dval_dig hd (by omega)).1, dval_d16 hd, .inl rfl⟩
 ·exact ⟨0, 4, npb_of (by decide) (fun w => parse_form l h2 hd w) (fun w => rparse_form l h2 hd w)⟩
theorem ip_any (l : List UInt8) (hl : l.length ≤ 8400) : ∃ z c, IP l z c := by
  cases l with
  | nil => exact ⟨0, 4, ipb_of (by decide) (fun w => iparse_p_form [] (by decide) (isDec_no (by decide)) (by simp) w) (fun w => rz_nil w)⟩
  | cons y r =>
    by_cases hy : y = 45
    · subst hy
      have hr : r.length ≤ 8399 := by simp at hl; omega
      rcases Nat.lt_or_ge 4096 r.length with h2 | h2
      · exact ⟨0, 3, ipb_of (by decide) (fun w => iparse_n_long r h2 (by omega) w) (fun w => rzn_long r h2 (by omega) w)⟩
      by_cases hd : isDec r
      · by_cases hz : dval r = 0
        · exact ⟨0, 4, ipb_of (by decide) (fun w => iparse_n_zero r h2 hd hz w) (fun w => rzn_zero r h2 hd hz w)⟩
        · exact ⟨-((dval r : Nat) : Int), 0, fun w => iparse_n_ok r h2 hd hz w, fun w => (rzn_ok r h2 hd hz w).mono fun e w' ⟨⟨v, h1, h3⟩, h2⟩ => ⟨_, h1, RZ.of h3 (by rw [decide_eq_true (by omega)]) (by omega), h2⟩,
            by rw [dI_neg, dI_nat]; exact (dval_dig hd (by omega)).1, fun h => by rw [dI_neg, dI_nat]; exact dval_d16 hd (by simp at h; omega), .inl rfl⟩
      · exact ⟨0, 4, ipb_of (by decide) (fun w => iparse_n_form r h2 hd w) (fun w => rzn_form r h2 hd w)⟩
    · have hh : (y :: r).head? ≠ some 45 := by simpa using hy
      rcases Nat.lt_or_ge 4096 (y :: r).length with h2 | h2
      · exact ⟨0, 3, ipb_of (by decide) (fun w => iparse_p_long (y :: r) h2 (by omega) hh w) (fun w => rzp_long r y hy h2 (by omega) w)⟩
      by_cases hd : isDec (y :: r)
      · exact ⟨((dval (y :: r) : Nat) : Int), 0, fun w => iparse_p_ok (y :: r) h2 hd hh w, fun w => (rzp_ok r y hy h2 hd w).mono fun e w' ⟨⟨v, h1, h3⟩, h2⟩ => ⟨_, h1, RZ.of h3 (by rw [decide_eq_false (by omega)]) (by omega), h2⟩,
            by rw [dI_nat]; exact (dval_dig hd (by omega)).1, fun h => by rw [dI_nat]; exact dval_d16 hd h, .inl rfl⟩
      · exact ⟨0, 4, ipb_of (by decide) (fun w => iparse_p_form (y :: r) h2 hd hh w) (fun w => rzp_form r y hy h2 hd w)⟩
end Go.Proofs.YtdmoadfnogdfnaaGreatDoor
namespace Go.Proofs.YtdmoadfnogdfnaaGreatDoor
open Go.RowKit Go.Proofs.YtdmoadfnogdfnaaGreatDoor.Rx
attribute [local irreducible] lo hs sm s64 c64 d64 b64 mh ml pd pc qd qc val hiB str cmpI srD lz nb isq decB zl zh zs dval tln ztxt txt fd fe
/-- The first slash at j or behind it, or the end. -/
def CutS (l : List UInt8) (j c : Nat) : Prop := j ≤ l.length ∧ c ≤ l.length ∧ (∀ m, j ≤ m → m < c → l[m]? ≠ some 47) ∧ (c < l.length → j ≤ c ∧ l[c]? = some 47)
theorem CutS.start (l : List UInt8) : CutS l l.length l.length := ⟨Nat.le_refl _, Nat.le_refl _, fun m h1 h2 => by omega, fun h => by omega⟩
theorem CutS.hit {l : List UInt8} {i c : Nat} (h : CutS l (i + 1) c) (hi : l[i]? = some 47) : CutS l i i :=
 ⟨by have := h.1; omega, by have := h.1; omega, fun m h1 h2 => by omega, fun _ => ⟨Nat.le_refl _, hi⟩⟩
theorem CutS.miss {l : List UInt8} {i c : Nat} {x : UInt8} (h : CutS l (i + 1) c) (hi : l[i]? = some x) (hx : x ≠ 47) : CutS l i c :=
 ⟨by have := h.1; omega, h.2.1, fun m h1 h2 => by
  rcases Nat.lt_or_ge i m with h3 | h3
  ·exact h.2.2.1 m (by omega) h2
  ·obtain rfl : m = i := by omega
   rw [hi]; exact fun e => hx (Option.some.inj e), fun hc => ⟨by have := (h.2.2.2 hc).1; omega, (h.2.2.2 hc).2⟩⟩
theorem CutS.none {l : List UInt8} {c : Nat} (h : CutS l 0 c) (hn : 47 ∉ l) : c = l.length := by
 rcases Nat.lt_or_ge c l.length with h1 | h1
 ·exact absurd (List.mem_of_getElem? (h.2.2.2 h1).2) hn
 ·have := h.2.1; omega
theorem CutS.at {p q : List UInt8} {c : Nat} (h : CutS (p ++ 47 :: q) 0 c) (hn : 47 ∉ p) : c = p.length := by
 rcases Nat.lt_trichotomy c p.length with h1 | h1 | h1
 ·have h2 := (h.2.2.2 (by simp; omega)).2
  rw [List.getElem?_append_left h1] at h2
  exact absurd (List.mem_of_getElem? h2) hn
 ·exact h1
 ·exact absurd (by simp) (h.2.2.1 p.length (Nat.zero_le _) h1)
set_option maxHeartbeats 4000000 in
set_option maxRecDepth 100000 in
theorem reads_int (l : List UInt8) (s p : ByteArray) (n k : Nat) (z c : Int) (HZ : ∀ (w : World), Calls Tryz.prog 136 #[.string p] w fun e w' => ∃ pv, e = .returned (.tuple #[pv, .int .i64 c]) ∧ RZ w' pv z ∧ Below w.heap.size w w') (hn : n ≤ 100000) (hsz : s.size = n) (hll : l.length = n) (hcell : ∀ i, i < n → ∃ c, l[i]? = some c ∧ ∃ h : i < s.size, s[i]'h = c) (hfin : ∀ c, CutS l 0 c → c = k) (hkn : k ≤ n) (hp : s.extract 0 k = p) (hc : (c == 0) = false) (w : World) :
  Calls Tryz.prog 79 #[.string s] w fun e w' => ∃ pv, e = .returned (.tuple #[pv, .int .i64 c]) ∧ RF w' pv 0 ∧ Below w.heap.size w w' := by
 replace HZ := Lib.hid HZ
 have hL0 : GL w w [] := GL.start w
 have hS : SS w [] := SS.nil w
 replace hcell := Lib.hid hcell
 replace hfin := Lib.hid hfin
 replace hll := Lib.hid hll
 have kk1 : (k : Int) ≤ (n : Int) := by omega
 have kk2 : (n : Int) ≤ 100000 := by omega
 have kk3 : min k n = k := by omega
 replace hn := Lib.hid hn
 have hc2 : (c != 0) = true := by rw [bne, hc]; rfl
 replace hS := (hS.new (.cells #[.bool false, .slice none 0 0, .slice none 0 0] 82))
 replace hL0 := (hL0.new rfl [.bool false, .slice none 0 0, .slice none 0 0] 82)
 generalize hweq : (w.alloc (.cells #[.bool false, .slice none 0 0, .slice none 0 0] 82)) = x1 at hL0 hS
 go_enter Tryz.func79, Tryz.ntmps79
 go_wp2_with fail
 clear hweq
 go_loopw [4, 5] (fun u z wr => ∃ (j c : Nat) (zi : Int), u = .int .i64 (c : Int) ∧ z = .int .i64 zi ∧ zi = (j : Int) - 1 ∧ CutS l j c ∧ x1 = wr) (fun _ z _ => (intOf z + 1).toNat)
 case atStart => exact ⟨n, n, _, by first | rfl | go_num, by first | rfl | go_num, by omega, by rw [← hll.out]; exact CutS.start l, rfl⟩
 case round =>
  obtain ⟨j, kc, zi, rfl, rfl, hzi, hcs, rfl⟩ := hrel
  rcases Nat.eq_zero_or_pos j with hj | hj
  rotate_left
  ·obtain ⟨i, rfl⟩ : ∃ i, j = i + 1 := ⟨j - 1, by omega⟩
   obtain rfl : zi = (i : Int) := by omega
   have hin : i < n := by have := hcs.1; have := hll.out; omega
   obtain ⟨ch, hch, hls, hget⟩ := hcell.out i hin
   have k1 : (0 : Int) ≤ (i : Int) := by omega
   have kb : (i : Int) ≤ 100000 := by have := hn.out; omega
   have kn : (i : Int) < (n : Int) := by omega
   by_cases h47 : ch = 47
   ·have g1 : ((ch.toNat : Int) == 47) = true := by rw [h47]; rfl
    have hnx := Lib.hid (CutS.hit hcs (by rw [hch, h47]))
    replace hcs := Lib.hid hcs
    clear h47 hch hzi hj hin
    have hA := hL0.fc
    simp only [fcG, cellsF, neK, and_true, ne_eq, Nat.zero_add, Nat.reduceAdd] at hA
    go_wp2_with fail
    clear hA
    go_roundw
    case rel => exact ⟨i, i, _, by first | rfl | go_num, by first | rfl | go_num, by omega, hnx.out, by first | rfl | trivial⟩
    case measure => simp [intOf] <;> omega
   ·have g1 : ((ch.toNat : Int) == 47) = false := beq_eq_false_iff_ne.2 (fun e => h47 (UInt8.toNat_inj.1 (by show _ = 47; omega)))
    have hnx := Lib.hid (CutS.miss hcs hch h47)
    replace hcs := Lib.hid hcs
    clear h47 hch hzi hj hin
    have hA := hL0.fc
    simp only [fcG, cellsF, neK, and_true, ne_eq, Nat.zero_add, Nat.reduceAdd] at hA
    go_wp2_with fail
    clear hA
    go_roundw
    case rel => exact ⟨i, kc, _, by first | rfl | go_num, by first | rfl | go_num, by omega, hnx.out, by first | rfl | trivial⟩
    case measure => simp [intOf] <;> omega
  ·subst hj
   have hkc := (hfin.out kc hcs).symm
   subst hkc
   obtain rfl : zi = -1 := by omega
   clear hcs hzi hcell hll
   have k1 : ¬ (0 : Int) ≤ (-1 : Int) := by omega
   go_wp2_with fail
   with_reducible refine Calls.mono (HZ.out _) ?_
   rintro e x2 ⟨v0, rfl, q0, hb⟩
   replace hL0 := hL0.call hb
   replace hS := hS.call hb
   clear hb
   obtain ⟨g1, d1, rfl⟩ := rz_form q0
   replace hS := hS.cons (rz_rn q0)
   clear q0
   replace hS := (hS.new (.cells #[.bool (zs z), .slice g1 (tln z.natAbs) d1] 44))
   replace hL0 := (hL0.new rfl [.bool (zs z), .slice g1 (tln z.natAbs) d1] 44)
   generalize hweq : (x2.alloc (.cells #[.bool (zs z), .slice g1 (tln z.natAbs) d1] 44)) = x3 at hL0 hS
   have hS1 := hS.put ((((Upd.refl w.heap.size x3).setCell 0 (.bool false)).setCell 1 (.slice none 0 0)).setCell 2 (.slice none 0 0)) (hL0.get _ _ (List.mem_cons_of_mem _ List.mem_cons_self)) (by intro v hv n; simp only [List.mem_cons, List.not_mem_nil, or_false] at hv; rcases hv with rfl | rfl | rfl <;> simp)
   have hA := hL0.fc
   simp only [fcG, cellsF, neK, and_true, ne_eq, Nat.zero_add, Nat.reduceAdd] at hA
   have hP := hL0.put 1 (w.heap.size) _ rfl [.bool false, .slice none 0 0, .slice none 0 0] rfl
   simp only [setAll, List.set_cons_zero, List.set_cons_succ] at hP
   generalize hput1 : (((x3.setCell ⟨w.heap.size, 0, none⟩ (.bool false)).setCell ⟨w.heap.size, 1, none⟩ (.slice none 0 0)).setCell ⟨w.heap.size, 2, none⟩ (.slice none 0 0)) = x4 at hP hS1
   have hB1 := hP.fc
   simp only [fcG, cellsF, neK, and_true, ne_eq, Nat.zero_add, Nat.reduceAdd] at hB1
   replace hL0 := hP
   replace hS := hS1
   clear hS1
   go_wp2_with fail
   exact bodyPost_ret (v := .tuple #[.agg #[.bool false, .slice none 0 0, .slice none 0 0], .int .i64 c]) (by simp [results, Tryz.results79, go_sem, hB1]) rfl ⟨_, rfl, (rf_nil _), hL0.bl⟩
set_option maxHeartbeats 4000000 in
set_option maxRecDepth 100000 in
theorem reads_whole (l : List UInt8) (s p : ByteArray) (n k : Nat) (q : Rat) (HZ : ∀ (w : World), Calls Tryz.prog 136 #[.string p] w fun e w' => ∃ pv, e = .returned (.tuple #[pv, .int .i64 0]) ∧ RZ w' pv q.num ∧ Below w.heap.size w w') (hn : n ≤ 100000) (hsz : s.size = n) (hll : l.length = n) (hcell : ∀ i, i < n → ∃ c, l[i]? = some c ∧ ∃ h : i < s.size, s[i]'h = c) (hfin : ∀ c, CutS l 0 c → c = k) (hkn : k ≤ n) (hp : s.extract 0 k = p) (hke : ((k : Int) == (n : Int)) = true) (hq : fd q = 0) (w : World) :
  Calls Tryz.prog 79 #[.string s] w fun e w' => ∃ pv, e = .returned (.tuple #[pv, .int .i64 0]) ∧ RF w' pv q ∧ Below w.heap.size w w' := by
 replace HZ := Lib.hid HZ
 have hL0 : GL w w [] := GL.start w
 have hS : SS w [] := SS.nil w
 replace hcell := Lib.hid hcell
 replace hfin := Lib.hid hfin
 replace hll := Lib.hid hll
 have kk1 : (k : Int) ≤ (n : Int) := by omega
 have kk2 : (n : Int) ≤ 100000 := by omega
 have kk3 : min k n = k := by omega
 replace hn := Lib.hid hn
 replace hq := Lib.hid hq
 have hke2 : k = n := by have := eq_of_beq hke; omega
 have hp2 : s.extract 0 n = p := by rw [← hke2]; exact hp
 replace hS := (hS.new (.cells #[.bool false, .slice none 0 0, .slice none 0 0] 82))
 replace hL0 := (hL0.new rfl [.bool false, .slice none 0 0, .slice none 0 0] 82)
 generalize hweq : (w.alloc (.cells #[.bool false, .slice none 0 0, .slice none 0 0] 82)) = x1 at hL0 hS
 go_enter Tryz.func79, Tryz.ntmps79
 go_wp2_with fail
 clear hweq
 go_loopw [4, 5] (fun u z wr => ∃ (j c : Nat) (zi : Int), u = .int .i64 (c : Int) ∧ z = .int .i64 zi ∧ zi = (j : Int) - 1 ∧ CutS l j c ∧ x1 = wr) (fun _ z _ => (intOf z + 1).toNat)
 case atStart => exact ⟨n, n, _, by first | rfl | go_num, by first | rfl | go_num, by omega, by rw [← hll.out]; exact CutS.start l, rfl⟩
 case round =>
  obtain ⟨j, kc, zi, rfl, rfl, hzi, hcs, rfl⟩ := hrel
  rcases Nat.eq_zero_or_pos j with hj | hj
  rotate_left
  ·obtain ⟨i, rfl⟩ : ∃ i, j = i + 1 := ⟨j - 1, by omega⟩
   obtain rfl : zi = (i : Int) := by omega
   have hin : i < n := by have := hcs.1; have := hll.out; omega
   obtain ⟨ch, hch, hls, hget⟩ := hcell.out i hin
   have k1 : (0 : Int) ≤ (i : Int) := by omega
   have kb : (i : Int) ≤ 100000 := by have := hn.out; omega
   have kn : (i : Int) < (n : Int) := by omega
   by_cases h47 : ch = 47
   ·have g1 : ((ch.toNat : Int) == 47) = true := by rw [h47]; rfl
    have hnx := Lib.hid (CutS.hit hcs (by rw [hch, h47]))
    replace hcs := Lib.hid hcs
    clear h47 hch hzi hj hin
    have hA := hL0.fc
    simp only [fcG, cellsF, neK, and_true, ne_eq, Nat.zero_add, Nat.reduceAdd] at hA
    go_wp2_with fail
    clear hA
    go_roundw
    case rel => exact ⟨i, i, _, by first | rfl | go_num, by first | rfl | go_num, by omega, hnx.out, by first | rfl | trivial⟩
    case measure => simp [intOf] <;> omega
   ·have g1 : ((ch.toNat : Int) == 47) = false := beq_eq_false_iff_ne.2 (fun e => h47 (UInt8.toNat_inj.1 (by show _ = 47; omega)))
    have hnx := Lib.hid (CutS.miss hcs hch h47)
    replace hcs := Lib.hid hcs
    clear h47 hch hzi hj hin
    have hA := hL0.fc
    simp only [fcG, cellsF, neK, and_true, ne_eq, Nat.zero_add, Nat.reduceAdd] at hA
    go_wp2_with fail
    clear hA
    go_roundw
    case rel => exact ⟨i, kc, _, by first | rfl | go_num, by first | rfl | go_num, by omega, hnx.out, by first | rfl | trivial⟩
    case measure => simp [intOf] <;> omega
  ·subst hj
   have hkc := (hfin.out kc hcs).symm
   subst hkc
   obtain rfl : zi = -1 := by omega
   clear hcs hzi hcell hll
   have k1 : ¬ (0 : Int) ≤ (-1 : Int) := by omega
   go_wp2_with fail
   with_reducible refine Calls.mono (HZ.out _) ?_
   rintro e x2 ⟨v0, rfl, q0, hb⟩
   replace hL0 := hL0.call hb
   replace hS := hS.call hb
   clear hb
   obtain ⟨g1, d1, rfl⟩ := rz_form q0
   replace hS := hS.cons (rz_rn q0)
   clear q0
   replace hS := (hS.new (.cells #[.bool (zs q.num), .slice g1 (tln q.num.natAbs) d1] 44))
   replace hL0 := (hL0.new rfl [.bool (zs q.num), .slice g1 (tln q.num.natAbs) d1] 44)
   generalize hweq : (x2.alloc (.cells #[.bool (zs q.num), .slice g1 (tln q.num.natAbs) d1] 44)) = x3 at hL0 hS
   have hS1 := hS.put ((((Upd.refl w.heap.size x3).setCell 0 (.bool (zs q.num))).setCell 1 (.slice g1 (tln q.num.natAbs) d1)).setCell 2 (.slice none 0 0)) (hL0.get _ _ (List.mem_cons_of_mem _ List.mem_cons_self)) (by intro v hv n; simp only [List.mem_cons, List.not_mem_nil, or_false] at hv; rcases hv with rfl | rfl | rfl <;> simp)
   have hA := hL0.fc
   simp only [fcG, cellsF, neK, and_true, ne_eq, Nat.zero_add, Nat.reduceAdd] at hA
   have hP := hL0.put 1 (w.heap.size) _ rfl [.bool (zs q.num), .slice g1 (tln q.num.natAbs) d1, .slice none 0 0] rfl
   simp only [setAll, List.set_cons_zero, List.set_cons_succ] at hP
   generalize hput1 : (((x3.setCell ⟨w.heap.size, 0, none⟩ (.bool (zs q.num))).setCell ⟨w.heap.size, 1, none⟩ (.slice g1 (tln q.num.natAbs) d1)).setCell ⟨w.heap.size, 2, none⟩ (.slice none 0 0)) = x4 at hP hS1
   have hB1 := hP.fc
   simp only [fcG, cellsF, neK, and_true, ne_eq, Nat.zero_add, Nat.reduceAdd] at hB1
   replace hL0 := hP
   replace hS := hS1
   clear hS1
   go_wp2_with fail
   exact bodyPost_ret (v := .tuple #[.agg #[.bool (zs q.num), .slice g1 (tln q.num.natAbs) d1, .slice none 0 0], .int .i64 0]) (by simp [results, Tryz.results79, go_sem, hB1]) rfl ⟨_, rfl, (rf_of (hS.get List.mem_cons_self) (by rw [hq.out]; exact (rn_nil _))), hL0.bl⟩
set_option maxHeartbeats 4000000 in
set_option maxRecDepth 100000 in
theorem reads_nat (l : List UInt8) (s p : ByteArray) (n k : Nat) (t : ByteArray) (z c : Int) (d : Nat) (HZ : ∀ (w : World), Calls Tryz.prog 136 #[.string p] w fun e w' => ∃ pv, e = .returned (.tuple #[pv, .int .i64 0]) ∧ RZ w' pv z ∧ Below w.heap.size w w') (HD : ∀ (w : World), Calls Tryz.prog 119 #[.string t] w fun e w' => ∃ pv, e = .returned (.tuple #[pv, .int .i64 c]) ∧ Rn w' pv d ∧ Below w.heap.size w w') (hn : n ≤ 100000) (hsz : s.size = n) (hll : l.length = n) (hcell : ∀ i, i < n → ∃ c, l[i]? = some c ∧ ∃ h : i < s.size, s[i]'h = c) (hfin : ∀ c, CutS l 0 c → c = k) (hkn : k ≤ n) (hp : s.extract 0 k = p) (hke : ((k : Int) == (n : Int)) = false) (ht : s.extract (k + 1) n = t) (hc : (c == 0) = false) (w : World) :
  Calls Tryz.prog 79 #[.string s] w fun e w' => ∃ pv, e = .returned (.tuple #[pv, .int .i64 c]) ∧ RF w' pv 0 ∧ Below w.heap.size w w' := by
 replace HZ := Lib.hid HZ
 replace HD := Lib.hid HD
 have hL0 : GL w w [] := GL.start w
 have hS : SS w [] := SS.nil w
 replace hcell := Lib.hid hcell
 replace hfin := Lib.hid hfin
 replace hll := Lib.hid hll
 have kk1 : (k : Int) ≤ (n : Int) := by omega
 have kk2 : (n : Int) ≤ 100000 := by omega
 have kk3 : min k n = k := by omega
 replace hn := Lib.hid hn
 have hke2 : (k : Int) + 1 ≤ (n : Int) := by have := beq_eq_false_iff_ne.1 hke; omega
 have hke3 : (k == n) = false := beq_eq_false_iff_ne.2 (by omega)
 have hc2 : (c != 0) = true := by rw [bne, hc]; rfl
 replace hS := (hS.new (.cells #[.bool false, .slice none 0 0, .slice none 0 0] 82))
 replace hL0 := (hL0.new rfl [.bool false, .slice none 0 0, .slice none 0 0] 82)
 generalize hweq : (w.alloc (.cells #[.bool false, .slice none 0 0, .slice none 0 0] 82)) = x1 at hL0 hS
 go_enter Tryz.func79, Tryz.ntmps79
 go_wp2_with fail
 clear hweq
 go_loopw [4, 5] (fun u z wr => ∃ (j c : Nat) (zi : Int), u = .int .i64 (c : Int) ∧ z = .int .i64 zi ∧ zi = (j : Int) - 1 ∧ CutS l j c ∧ x1 = wr) (fun _ z _ => (intOf z + 1).toNat)
 case atStart => exact ⟨n, n, _, by first | rfl | go_num, by first | rfl | go_num, by omega, by rw [← hll.out]; exact CutS.start l, rfl⟩
 case round =>
  obtain ⟨j, kc, zi, rfl, rfl, hzi, hcs, rfl⟩ := hrel
  rcases Nat.eq_zero_or_pos j with hj | hj
  rotate_left
  ·obtain ⟨i, rfl⟩ : ∃ i, j = i + 1 := ⟨j - 1, by omega⟩
   obtain rfl : zi = (i : Int) := by omega
   have hin : i < n := by have := hcs.1; have := hll.out; omega
   obtain ⟨ch, hch, hls, hget⟩ := hcell.out i hin
   have k1 : (0 : Int) ≤ (i : Int) := by omega
   have kb : (i : Int) ≤ 100000 := by have := hn.out; omega
   have kn : (i : Int) < (n : Int) := by omega
   by_cases h47 : ch = 47
   ·have g1 : ((ch.toNat : Int) == 47) = true := by rw [h47]; rfl
    have hnx := Lib.hid (CutS.hit hcs (by rw [hch, h47]))
    replace hcs := Lib.hid hcs
    clear h47 hch hzi hj hin
    have hA := hL0.fc
    simp only [fcG, cellsF, neK, and_true, ne_eq, Nat.zero_add, Nat.reduceAdd] at hA
    go_wp2_with fail
    clear hA
    go_roundw
    case rel => exact ⟨i, i, _, by first | rfl | go_num, by first | rfl | go_num, by omega, hnx.out, by first | rfl | trivial⟩
    case measure => simp [intOf] <;> omega
   ·have g1 : ((ch.toNat : Int) == 47) = false := beq_eq_false_iff_ne.2 (fun e => h47 (UInt8.toNat_inj.1 (by show _ = 47; omega)))
    have hnx := Lib.hid (CutS.miss hcs hch h47)
    replace hcs := Lib.hid hcs
    clear h47 hch hzi hj hin
    have hA := hL0.fc
    simp only [fcG, cellsF, neK, and_true, ne_eq, Nat.zero_add, Nat.reduceAdd] at hA
    go_wp2_with fail
    clear hA
    go_roundw
    case rel => exact ⟨i, kc, _, by first | rfl | go_num, by first | rfl | go_num, by omega, hnx.out, by first | rfl | trivial⟩
    case measure => simp [intOf] <;> omega
  ·subst hj
   have hkc := (hfin.out kc hcs).symm
   subst hkc
   obtain rfl : zi = -1 := by omega
   clear hcs hzi hcell hll
   have k1 : ¬ (0 : Int) ≤ (-1 : Int) := by omega
   go_wp2_with fail
   with_reducible refine Calls.mono (HZ.out _) ?_
   rintro e x2 ⟨v0, rfl, q0, hb⟩
   replace hL0 := hL0.call hb
   replace hS := hS.call hb
   clear hb
   obtain ⟨g1, d1, rfl⟩ := rz_form q0
   replace hS := hS.cons (rz_rn q0)
   clear q0
   replace hS := (hS.new (.cells #[.bool (zs z), .slice g1 (tln z.natAbs) d1] 44))
   replace hL0 := (hL0.new rfl [.bool (zs z), .slice g1 (tln z.natAbs) d1] 44)
   generalize hweq : (x2.alloc (.cells #[.bool (zs z), .slice g1 (tln z.natAbs) d1] 44)) = x3 at hL0 hS
   go_wp2_with fail
   with_reducible refine Calls.mono (HD.out _) ?_
   rintro e x4 ⟨v0, rfl, q0, hb⟩
   replace hL0 := hL0.call hb
   replace hS := hS.call hb
   clear hb hweq
   obtain ⟨g2, d2, rfl⟩ := rn_form q0
   replace hS := hS.cons q0
   clear q0
   have hS1 := hS.put ((((Upd.refl w.heap.size x4).setCell 0 (.bool false)).setCell 1 (.slice none 0 0)).setCell 2 (.slice none 0 0)) (hL0.get _ _ (List.mem_cons_of_mem _ List.mem_cons_self)) (by intro v hv n; simp only [List.mem_cons, List.not_mem_nil, or_false] at hv; rcases hv with rfl | rfl | rfl <;> simp)
   have hA := hL0.fc
   simp only [fcG, cellsF, neK, and_true, ne_eq, Nat.zero_add, Nat.reduceAdd] at hA
   have hP := hL0.put 1 (w.heap.size) _ rfl [.bool false, .slice none 0 0, .slice none 0 0] rfl
   simp only [setAll, List.set_cons_zero, List.set_cons_succ] at hP
   generalize hput1 : (((x4.setCell ⟨w.heap.size, 0, none⟩ (.bool false)).setCell ⟨w.heap.size, 1, none⟩ (.slice none 0 0)).setCell ⟨w.heap.size, 2, none⟩ (.slice none 0 0)) = x5 at hP hS1
   have hB1 := hP.fc
   simp only [fcG, cellsF, neK, and_true, ne_eq, Nat.zero_add, Nat.reduceAdd] at hB1
   replace hL0 := hP
   replace hS := hS1
   clear hS1
   go_wp2_with fail
   exact bodyPost_ret (v := .tuple #[.agg #[.bool false, .slice none 0 0, .slice none 0 0], .int .i64 c]) (by simp [results, Tryz.results79, go_sem, hB1]) rfl ⟨_, rfl, (rf_nil _), hL0.bl⟩
set_option maxHeartbeats 4000000 in
set_option maxRecDepth 100000 in
theorem reads_zero (l : List UInt8) (s p : ByteArray) (n k : Nat) (t : ByteArray) (z : Int) (d : Nat) (HZ : ∀ (w : World), Calls Tryz.prog 136 #[.string p] w fun e w' => ∃ pv, e = .returned (.tuple #[pv, .int .i64 0]) ∧ RZ w' pv z ∧ Below w.heap.size w w') (HD : ∀ (w : World), Calls Tryz.prog 119 #[.string t] w fun e w' => ∃ pv, e = .returned (.tuple #[pv, .int .i64 0]) ∧ Rn w' pv d ∧ Below w.heap.size w w') (hn : n ≤ 100000) (hsz : s.size = n) (hll : l.length = n) (hcell : ∀ i, i < n → ∃ c, l[i]? = some c ∧ ∃ h : i < s.size, s[i]'h = c) (hfin : ∀ c, CutS l 0 c → c = k) (hkn : k ≤ n) (hp : s.extract 0 k = p) (hke : ((k : Int) == (n : Int)) = false) (ht : s.extract (k + 1) n = t) (hd : (((tln d : Nat) : Int) == 0) = true) (hd2 : decide (tln d = 0) = true) (w : World) :
  Calls Tryz.prog 79 #[.string s] w fun e w' => ∃ pv, e = .returned (.tuple #[pv, .int .i64 5]) ∧ RF w' pv 0 ∧ Below w.heap.size w w' := by
 replace HZ := Lib.hid HZ
 replace HD := Lib.hid HD
 have hL0 : GL w w [] := GL.start w
 have hS : SS w [] := SS.nil w
 replace hcell := Lib.hid hcell
 replace hfin := Lib.hid hfin
 replace hll := Lib.hid hll
 have kk1 : (k : Int) ≤ (n : Int) := by omega
 have kk2 : (n : Int) ≤ 100000 := by omega
 have kk3 : min k n = k := by omega
 replace hn := Lib.hid hn
 have hke2 : (k : Int) + 1 ≤ (n : Int) := by have := beq_eq_false_iff_ne.1 hke; omega
 have hke3 : (k == n) = false := beq_eq_false_iff_ne.2 (by omega)
 replace hS := (hS.new (.cells #[.bool false, .slice none 0 0, .slice none 0 0] 82))
 replace hL0 := (hL0.new rfl [.bool false, .slice none 0 0, .slice none 0 0] 82)
 generalize hweq : (w.alloc (.cells #[.bool false, .slice none 0 0, .slice none 0 0] 82)) = x1 at hL0 hS
 go_enter Tryz.func79, Tryz.ntmps79
 go_wp2_with fail
 clear hweq
 go_loopw [4, 5] (fun u z wr => ∃ (j c : Nat) (zi : Int), u = .int .i64 (c : Int) ∧ z = .int .i64 zi ∧ zi = (j : Int) - 1 ∧ CutS l j c ∧ x1 = wr) (fun _ z _ => (intOf z + 1).toNat)
 case atStart => exact ⟨n, n, _, by first | rfl | go_num, by first | rfl | go_num, by omega, by rw [← hll.out]; exact CutS.start l, rfl⟩
 case round =>
  obtain ⟨j, kc, zi, rfl, rfl, hzi, hcs, rfl⟩ := hrel
  rcases Nat.eq_zero_or_pos j with hj | hj
  rotate_left
  ·obtain ⟨i, rfl⟩ : ∃ i, j = i + 1 := ⟨j - 1, by omega⟩
   obtain rfl : zi = (i : Int) := by omega
   have hin : i < n := by have := hcs.1; have := hll.out; omega
   obtain ⟨ch, hch, hls, hget⟩ := hcell.out i hin
   have k1 : (0 : Int) ≤ (i : Int) := by omega
   have kb : (i : Int) ≤ 100000 := by have := hn.out; omega
   have kn : (i : Int) < (n : Int) := by omega
   by_cases h47 : ch = 47
   ·have g1 : ((ch.toNat : Int) == 47) = true := by rw [h47]; rfl
    have hnx := Lib.hid (CutS.hit hcs (by rw [hch, h47]))
    replace hcs := Lib.hid hcs
    clear h47 hch hzi hj hin
    have hA := hL0.fc
    simp only [fcG, cellsF, neK, and_true, ne_eq, Nat.zero_add, Nat.reduceAdd] at hA
    go_wp2_with fail
    clear hA
    go_roundw
    case rel => exact ⟨i, i, _, by first | rfl | go_num, by first | rfl | go_num, by omega, hnx.out, by first | rfl | trivial⟩
    case measure => simp [intOf] <;> omega
   ·have g1 : ((ch.toNat : Int) == 47) = false := beq_eq_false_iff_ne.2 (fun e => h47 (UInt8.toNat_inj.1 (by show _ = 47; omega)))
    have hnx := Lib.hid (CutS.miss hcs hch h47)
    replace hcs := Lib.hid hcs
    clear h47 hch hzi hj hin
    have hA := hL0.fc
    simp only [fcG, cellsF, neK, and_true, ne_eq, Nat.zero_add, Nat.reduceAdd] at hA
    go_wp2_with fail
    clear hA
    go_roundw
    case rel => exact ⟨i, kc, _, by first | rfl | go_num, by first | rfl | go_num, by omega, hnx.out, by first | rfl | trivial⟩
    case measure => simp [intOf] <;> omega
  ·subst hj
   have hkc := (hfin.out kc hcs).symm
   subst hkc
   obtain rfl : zi = -1 := by omega
   clear hcs hzi hcell hll
   have k1 : ¬ (0 : Int) ≤ (-1 : Int) := by omega
   go_wp2_with fail
   with_reducible refine Calls.mono (HZ.out _) ?_
   rintro e x2 ⟨v0, rfl, q0, hb⟩
   replace hL0 := hL0.call hb
   replace hS := hS.call hb
   clear hb
   obtain ⟨g1, d1, rfl⟩ := rz_form q0
   replace hS := hS.cons (rz_rn q0)
   clear q0
   replace hS := (hS.new (.cells #[.bool (zs z), .slice g1 (tln z.natAbs) d1] 44))
   replace hL0 := (hL0.new rfl [.bool (zs z), .slice g1 (tln z.natAbs) d1] 44)
   generalize hweq : (x2.alloc (.cells #[.bool (zs z), .slice g1 (tln z.natAbs) d1] 44)) = x3 at hL0 hS
   go_wp2_with fail
   with_reducible refine Calls.mono (HD.out _) ?_
   rintro e x4 ⟨v0, rfl, q0, hb⟩
   replace hL0 := hL0.call hb
   replace hS := hS.call hb
   clear hb hweq
   obtain ⟨g2, d2, rfl⟩ := rn_form q0
   replace hS := hS.cons q0
   clear q0
   have hS1 := hS.put ((((Upd.refl w.heap.size x4).setCell 0 (.bool false)).setCell 1 (.slice none 0 0)).setCell 2 (.slice none 0 0)) (hL0.get _ _ (List.mem_cons_of_mem _ List.mem_cons_self)) (by intro v hv n; simp only [List.mem_cons, List.not_mem_nil, or_false] at hv; rcases hv with rfl | rfl | rfl <;> simp)
   have hA := hL0.fc
   simp only [fcG, cellsF, neK, and_true, ne_eq, Nat.zero_add, Nat.reduceAdd] at hA
   have hP := hL0.put 1 (w.heap.size) _ rfl [.bool false, .slice none 0 0, .slice none 0 0] rfl
   simp only [setAll, List.set_cons_zero, List.set_cons_succ] at hP
   generalize hput1 : (((x4.setCell ⟨w.heap.size, 0, none⟩ (.bool false)).setCell ⟨w.heap.size, 1, none⟩ (.slice none 0 0)).setCell ⟨w.heap.size, 2, none⟩ (.slice none 0 0)) = x5 at hP hS1
   have hB1 := hP.fc
   simp only [fcG, cellsF, neK, and_true, ne_eq, Nat.zero_add, Nat.reduceAdd] at hB1
   replace hL0 := hP
   replace hS := hS1
   clear hS1
   go_wp2_with fail
   exact bodyPost_ret (v := .tuple #[.agg #[.bool false, .slice none 0 0, .slice none 0 0], .int .i64 5]) (by simp [results, Tryz.results79, go_sem, hB1]) rfl ⟨_, rfl, (rf_nil _), hL0.bl⟩
set_option maxHeartbeats 4000000 in
set_option maxRecDepth 100000 in
theorem reads_part (l : List UInt8) (s p : ByteArray) (n k : Nat) (t : ByteArray) (z : Int) (d : Nat) (q : Rat) (HZ : ∀ (w : World), Calls Tryz.prog 136 #[.string p] w fun e w' => ∃ pv, e = .returned (.tuple #[pv, .int .i64 0]) ∧ RZ w' pv z ∧ Below w.heap.size w w') (HD : ∀ (w : World), Calls Tryz.prog 119 #[.string t] w fun e w' => ∃ pv, e = .returned (.tuple #[pv, .int .i64 0]) ∧ Rn w' pv d ∧ Below w.heap.size w w') (HF : ∀ (p0 p1 : Value) (w : World), RZ w p0 z → Rn w p1 d → Calls Tryz.prog 141 #[p0, p1] w fun e w' => ∃ pv, e = .returned pv ∧ RF w' pv q ∧ Below w.heap.size w w') (hn : n ≤ 100000) (hsz : s.size = n) (hll : l.length = n) (hcell : ∀ i, i < n → ∃ c, l[i]? = some c ∧ ∃ h : i < s.size, s[i]'h = c) (hfin : ∀ c, CutS l 0 c → c = k) (hkn : k ≤ n) (hp : s.extract 0 k = p) (hke : ((k : Int) == (n : Int)) = false) (ht : s.extract (k + 1) n = t) (hd : (((tln d : Nat) : Int) == 0) = false) (hd2 : decide (tln d = 0) = false) (w : World) :
  Calls Tryz.prog 79 #[.string s] w fun e w' => ∃ pv, e = .returned (.tuple #[pv, .int .i64 0]) ∧ RF w' pv q ∧ Below w.heap.size w w' := by
 replace HZ := Lib.hid HZ
 replace HD := Lib.hid HD
 replace HF := Lib.hid HF
 have hL0 : GL w w [] := GL.start w
 have hS : SS w [] := SS.nil w
 replace hcell := Lib.hid hcell
 replace hfin := Lib.hid hfin
 replace hll := Lib.hid hll
 have kk1 : (k : Int) ≤ (n : Int) := by omega
 have kk2 : (n : Int) ≤ 100000 := by omega
 have kk3 : min k n = k := by omega
 replace hn := Lib.hid hn
 have hke2 : (k : Int) + 1 ≤ (n : Int) := by have := beq_eq_false_iff_ne.1 hke; omega
 have hke3 : (k == n) = false := beq_eq_false_iff_ne.2 (by omega)
 replace hS := (hS.new (.cells #[.bool false, .slice none 0 0, .slice none 0 0] 82))
 replace hL0 := (hL0.new rfl [.bool false, .slice none 0 0, .slice none 0 0] 82)
 generalize hweq : (w.alloc (.cells #[.bool false, .slice none 0 0, .slice none 0 0] 82)) = x1 at hL0 hS
 go_enter Tryz.func79, Tryz.ntmps79
 go_wp2_with fail
 clear hweq
 go_loopw [4, 5] (fun u z wr => ∃ (j c : Nat) (zi : Int), u = .int .i64 (c : Int) ∧ z = .int .i64 zi ∧ zi = (j : Int) - 1 ∧ CutS l j c ∧ x1 = wr) (fun _ z _ => (intOf z + 1).toNat)
 case atStart => exact ⟨n, n, _, by first | rfl | go_num, by first | rfl | go_num, by omega, by rw [← hll.out]; exact CutS.start l, rfl⟩
 case round =>
  obtain ⟨j, kc, zi, rfl, rfl, hzi, hcs, rfl⟩ := hrel
  rcases Nat.eq_zero_or_pos j with hj | hj
  rotate_left
  ·obtain ⟨i, rfl⟩ : ∃ i, j = i + 1 := ⟨j - 1, by omega⟩
   obtain rfl : zi = (i : Int) := by omega
   have hin : i < n := by have := hcs.1; have := hll.out; omega
   obtain ⟨ch, hch, hls, hget⟩ := hcell.out i hin
   have k1 : (0 : Int) ≤ (i : Int) := by omega
   have kb : (i : Int) ≤ 100000 := by have := hn.out; omega
   have kn : (i : Int) < (n : Int) := by omega
   by_cases h47 : ch = 47
   ·have g1 : ((ch.toNat : Int) == 47) = true := by rw [h47]; rfl
    have hnx := Lib.hid (CutS.hit hcs (by rw [hch, h47]))
    replace hcs := Lib.hid hcs
    clear h47 hch hzi hj hin
    have hA := hL0.fc
    simp only [fcG, cellsF, neK, and_true, ne_eq, Nat.zero_add, Nat.reduceAdd] at hA
    go_wp2_with fail
    clear hA
    go_roundw
    case rel => exact ⟨i, i, _, by first | rfl | go_num, by first | rfl | go_num, by omega, hnx.out, by first | rfl | trivial⟩
    case measure => simp [intOf] <;> omega
   ·have g1 : ((ch.toNat : Int) == 47) = false := beq_eq_false_iff_ne.2 (fun e => h47 (UInt8.toNat_inj.1 (by show _ = 47; omega)))
    have hnx := Lib.hid (CutS.miss hcs hch h47)
    replace hcs := Lib.hid hcs
    clear h47 hch hzi hj hin
    have hA := hL0.fc
    simp only [fcG, cellsF, neK, and_true, ne_eq, Nat.zero_add, Nat.reduceAdd] at hA
    go_wp2_with fail
    clear hA
    go_roundw
    case rel => exact ⟨i, kc, _, by first | rfl | go_num, by first | rfl | go_num, by omega, hnx.out, by first | rfl | trivial⟩
    case measure => simp [intOf] <;> omega
  ·subst hj
   have hkc := (hfin.out kc hcs).symm
   subst hkc
   obtain rfl : zi = -1 := by omega
   clear hcs hzi hcell hll
   have k1 : ¬ (0 : Int) ≤ (-1 : Int) := by omega
   go_wp2_with fail
   with_reducible refine Calls.mono (HZ.out _) ?_
   rintro e x2 ⟨v0, rfl, q0, hb⟩
   replace hL0 := hL0.call hb
   replace hS := hS.call hb
   clear hb
   obtain ⟨g1, d1, rfl⟩ := rz_form q0
   replace hS := hS.cons (rz_rn q0)
   clear q0
   replace hS := (hS.new (.cells #[.bool (zs z), .slice g1 (tln z.natAbs) d1] 44))
   replace hL0 := (hL0.new rfl [.bool (zs z), .slice g1 (tln z.natAbs) d1] 44)
   generalize hweq : (x2.alloc (.cells #[.bool (zs z), .slice g1 (tln z.natAbs) d1] 44)) = x3 at hL0 hS
   go_wp2_with fail
   with_reducible refine Calls.mono (HD.out _) ?_
   rintro e x4 ⟨v0, rfl, q0, hb⟩
   replace hL0 := hL0.call hb
   replace hS := hS.call hb
   clear hb hweq
   obtain ⟨g2, d2, rfl⟩ := rn_form q0
   replace hS := hS.cons q0
   clear q0
   have hN0 := cells_of _ 0 [] rfl (hL0.get _ _ List.mem_cons_self)
   simp only [cellsF, and_true, Nat.zero_add, Nat.reduceAdd] at hN0
   go_wp2_with fail
   clear hN0
   with_reducible refine Calls.mono (HF.out (.agg #[.bool (zs z), .slice g1 (tln z.natAbs) d1]) (.slice g2 (tln d) d2) _ (rz_of (hS.get (List.mem_cons_of_mem _ List.mem_cons_self))) (hS.get List.mem_cons_self)) ?_
   rintro e x5 ⟨v0, rfl, q0, hb⟩
   replace hL0 := hL0.call hb
   replace hS := hS.call hb
   clear hb
   obtain ⟨g3, d3, g4, d4, rfl⟩ := rf_form q0
   replace hS := hS.cons (rf_rn1 q0)
   replace hS := hS.cons (rf_rn2 q0)
   clear q0
   have hS1 := hS.put ((((Upd.refl w.heap.size x5).setCell 0 (.bool (zs q.num))).setCell 1 (.slice g3 (tln q.num.natAbs) d3)).setCell 2 (.slice g4 (tln (fd q)) d4)) (hL0.get _ _ (List.mem_cons_of_mem _ List.mem_cons_self)) (by intro v hv n; simp only [List.mem_cons, List.not_mem_nil, or_false] at hv; rcases hv with rfl | rfl | rfl <;> simp)
   have hA := hL0.fc
   simp only [fcG, cellsF, neK, and_true, ne_eq, Nat.zero_add, Nat.reduceAdd] at hA
   have hP := hL0.put 1 (w.heap.size) _ rfl [.bool (zs q.num), .slice g3 (tln q.num.natAbs) d3, .slice g4 (tln (fd q)) d4] rfl
   simp only [setAll, List.set_cons_zero, List.set_cons_succ] at hP
   generalize hput1 : (((x5.setCell ⟨w.heap.size, 0, none⟩ (.bool (zs q.num))).setCell ⟨w.heap.size, 1, none⟩ (.slice g3 (tln q.num.natAbs) d3)).setCell ⟨w.heap.size, 2, none⟩ (.slice g4 (tln (fd q)) d4)) = x6 at hP hS1
   have hB1 := hP.fc
   simp only [fcG, cellsF, neK, and_true, ne_eq, Nat.zero_add, Nat.reduceAdd] at hB1
   replace hL0 := hP
   replace hS := hS1
   clear hS1
   go_wp2_with fail
   exact bodyPost_ret (v := .tuple #[.agg #[.bool (zs q.num), .slice g3 (tln q.num.natAbs) d3, .slice g4 (tln (fd q)) d4], .int .i64 0]) (by simp [results, Tryz.results79, go_sem, hB1]) rfl ⟨_, rfl, (rf_of (hS.get (List.mem_cons_of_mem _ List.mem_cons_self)) (hS.get List.mem_cons_self)), hL0.bl⟩
end Go.Proofs.YtdmoadfnogdfnaaGreatDoor
namespace Go.Proofs.YtdmoadfnogdfnaaGreatDoor
open Go.RowKit Go.Proofs.YtdmoadfnogdfnaaGreatDoor.Rx
attribute [local irreducible] lo hs sm s64 c64 d64 b64 mh ml pd pc qd qc val hiB str cmpI srD lz nb isq decB zl zh zs dval tln ztxt txt fd fe
set_option maxHeartbeats 4000000 in
set_option maxRecDepth 100000 in
theorem freads_big (s : ByteArray) (n : Nat) (KT : World → Prop) (hKT : Keeps KT) (HW : RK KT 54 #[] (.bool true)) (hsz : s.size = n) (hb : decide ((8400 : Int) < (n : Int)) = true) (hb2 : decide (8400 < n) = true) (w : World) (kKT : KT w) :
  Calls Tryz.prog 8 #[.string s] w fun e w' => e = .returned (.bool true) ∧ Below w.heap.size w w' := by
 replace hKT := Lib.hid hKT
 replace HW := Lib.hid HW
 have hL0 : GL w w [] := GL.start w
 have hS : SS w [] := SS.nil w
 go_enter Tryz.func8, Tryz.ntmps8
 go_wp2_with fail
 with_reducible refine Calls.mono (HW.out _ (hKT.out.at (hL0.bl) kKT)) ?_
 rintro e x1 ⟨rfl, hb⟩
 replace hL0 := hL0.call hb
 replace hS := hS.call hb
 clear hb
 go_wp2_with fail
 exact bodyPost_ret (v := .bool true) (by simp [results, Tryz.results8, go_sem]) rfl ⟨rfl, hL0.bl⟩
set_option maxHeartbeats 4000000 in
set_option maxRecDepth 100000 in
theorem freads_mid0 (s : ByteArray) (n : Nat) (q : Rat) (KT : World → Prop) (hKT : Keeps KT) (HP : RK KT 78 #[.string s] (.tuple #[fracV q, .int .i64 0])) (HW : RK KT 54 #[] (.bool true)) (hsz : s.size = n) (hb : decide ((8400 : Int) < (n : Int)) = false) (hb2 : decide (8400 < n) = false) (hm : decide ((300 : Int) < (n : Int)) = true) (hm2 : decide (300 < n) = true) (w : World) (kKT : KT w) :
  Calls Tryz.prog 8 #[.string s] w fun e w' => e = .returned (.bool true) ∧ Below w.heap.size w w' := by
 replace hKT := Lib.hid hKT
 replace HP := Lib.hid HP
 replace HW := Lib.hid HW
 have hL0 : GL w w [] := GL.start w
 have hS : SS w [] := SS.nil w
 go_enter Tryz.func8, Tryz.ntmps8
 go_wp2_with fail
 with_reducible refine Calls.mono (HP.out _ (hKT.out.at (hL0.bl) kKT)) ?_
 rintro e x1 ⟨rfl, hb⟩
 replace hL0 := hL0.call hb
 replace hS := hS.call hb
 clear hb
 replace hS := (hS.new (.cells #[.int .u64 ((zl q.num : Nat) : Int), .string (zh q.num), .bool (zs q.num), .int .u64 ((lo (fe q) : Nat) : Int), .string (hs (fe q))] 79))
 replace hL0 := (hL0.new rfl [.int .u64 ((zl q.num : Nat) : Int), .string (zh q.num), .bool (zs q.num), .int .u64 ((lo (fe q) : Nat) : Int), .string (hs (fe q))] 79)
 generalize hweq : (x1.alloc (.cells #[.int .u64 ((zl q.num : Nat) : Int), .string (zh q.num), .bool (zs q.num), .int .u64 ((lo (fe q) : Nat) : Int), .string (hs (fe q))] 79)) = x2 at hL0 hS
 go_wp2_with fail
 with_reducible refine Calls.mono (HW.out _ (hKT.out.at (hL0.bl) kKT)) ?_
 rintro e x3 ⟨rfl, hb⟩
 replace hL0 := hL0.call hb
 replace hS := hS.call hb
 clear hb hweq
 go_wp2_with fail
 exact bodyPost_ret (v := .bool true) (by simp [results, Tryz.results8, go_sem]) rfl ⟨rfl, hL0.bl⟩
set_option maxHeartbeats 4000000 in
set_option maxRecDepth 100000 in
theorem freads_mid1 (s : ByteArray) (n : Nat) (c : Int) (KT : World → Prop) (hKT : Keeps KT) (HP : RK KT 78 #[.string s] (.tuple #[.agg #[.int .u64 0, .string ⟨#[]⟩, .bool false, .int .u64 0, .string ⟨#[]⟩], .int .i64 c])) (HW : RK KT 54 #[] (.bool true)) (hsz : s.size = n) (hb : decide ((8400 : Int) < (n : Int)) = false) (hb2 : decide (8400 < n) = false) (hm : decide ((300 : Int) < (n : Int)) = true) (hm2 : decide (300 < n) = true) (hc : (c == 0) = false) (w : World) (kKT : KT w) :
  Calls Tryz.prog 8 #[.string s] w fun e w' => e = .returned (.bool true) ∧ Below w.heap.size w w' := by
 replace hKT := Lib.hid hKT
 replace HP := Lib.hid HP
 replace HW := Lib.hid HW
 have hL0 : GL w w [] := GL.start w
 have hS : SS w [] := SS.nil w
 go_enter Tryz.func8, Tryz.ntmps8
 go_wp2_with fail
 with_reducible refine Calls.mono (HP.out _ (hKT.out.at (hL0.bl) kKT)) ?_
 rintro e x1 ⟨rfl, hb⟩
 replace hL0 := hL0.call hb
 replace hS := hS.call hb
 clear hb
 replace hS := (hS.new (.cells #[.int .u64 0, .string ⟨#[]⟩, .bool false, .int .u64 0, .string ⟨#[]⟩] 79))
 replace hL0 := (hL0.new rfl [.int .u64 0, .string ⟨#[]⟩, .bool false, .int .u64 0, .string ⟨#[]⟩] 79)
 generalize hweq : (x1.alloc (.cells #[.int .u64 0, .string ⟨#[]⟩, .bool false, .int .u64 0, .string ⟨#[]⟩] 79)) = x2 at hL0 hS
 have hS1 := hS.put ((((((Upd.refl x1.heap.size x2).setCell 0 (.int .u64 0)).setCell 1 (.string ⟨#[]⟩)).setCell 2 (.bool false)).setCell 3 (.int .u64 0)).setCell 4 (.string ⟨#[]⟩)) (hL0.get _ _ List.mem_cons_self) (by intro v hv n; simp only [List.mem_cons, List.not_mem_nil, or_false] at hv; rcases hv with rfl | rfl | rfl | rfl | rfl <;> simp)
 have hA := hL0.fc
 simp only [fcG, cellsF, neK, and_true, ne_eq, Nat.zero_add, Nat.reduceAdd] at hA
 have hP := hL0.put 0 (x1.heap.size) _ rfl [.int .u64 0, .string ⟨#[]⟩, .bool false, .int .u64 0, .string ⟨#[]⟩] rfl
 simp only [setAll, List.set_cons_zero, List.set_cons_succ] at hP
 generalize hput1 : (((((x2.setCell ⟨x1.heap.size, 0, none⟩ (.int .u64 0)).setCell ⟨x1.heap.size, 1, none⟩ (.string ⟨#[]⟩)).setCell ⟨x1.heap.size, 2, none⟩ (.bool false)).setCell ⟨x1.heap.size, 3, none⟩ (.int .u64 0)).setCell ⟨x1.heap.size, 4, none⟩ (.string ⟨#[]⟩)) = x3 at hP hS1
 have hB1 := hP.fc
 simp only [fcG, cellsF, neK, and_true, ne_eq, Nat.zero_add, Nat.reduceAdd] at hB1
 replace hL0 := hP
 replace hS := hS1
 clear hS1
 go_wp2_with fail
 clear hA
 with_reducible refine Calls.mono (HW.out _ (hKT.out.at (hL0.bl) kKT)) ?_
 rintro e x4 ⟨rfl, hb⟩
 replace hL0 := hL0.call hb
 replace hS := hS.call hb
 clear hb hweq hput1 hB1
 go_wp2_with fail
 exact bodyPost_ret (v := .bool true) (by simp [results, Tryz.results8, go_sem]) rfl ⟨rfl, hL0.bl⟩
set_option maxHeartbeats 4000000 in
set_option maxRecDepth 100000 in
theorem freads_small (s : ByteArray) (n : Nat) (q : Rat) (c : Int) (KT : World → Prop) (hKT : Keeps KT) (HP : RK KT 78 #[.string s] (.tuple #[fracV q, .int .i64 c])) (HR : ∀ (w : World), Calls Tryz.prog 79 #[.string s] w fun e w' => ∃ pv, e = .returned (.tuple #[pv, .int .i64 c]) ∧ RF w' pv q ∧ Below w.heap.size w w') (HS : ∀ (p1 : Value) (w : World), KT w → RF w p1 q → Calls Tryz.prog 60 #[fracV q, p1] w fun e w' => e = .returned (.bool true) ∧ Below w.heap.size w w') (HW : RK KT 54 #[] (.bool true)) (hsz : s.size = n) (hb : decide ((8400 : Int) < (n : Int)) = false) (hb2 : decide (8400 < n) = false) (hm : decide ((300 : Int) < (n : Int)) = false) (hm2 : decide (300 < n) = false) (w : World) (kKT : KT w) :
  Calls Tryz.prog 8 #[.string s] w fun e w' => e = .returned (.bool true) ∧ Below w.heap.size w w' := by
 replace hKT := Lib.hid hKT
 replace HP := Lib.hid HP
 replace HR := Lib.hid HR
 replace HS := Lib.hid HS
 replace HW := Lib.hid HW
 have hL0 : GL w w [] := GL.start w
 have hS : SS w [] := SS.nil w
 go_enter Tryz.func8, Tryz.ntmps8
 go_wp2_with fail
 with_reducible refine Calls.mono (HP.out _ (hKT.out.at (hL0.bl) kKT)) ?_
 rintro e x1 ⟨rfl, hb⟩
 replace hL0 := hL0.call hb
 replace hS := hS.call hb
 clear hb
 replace hS := (hS.new (.cells #[.int .u64 ((zl q.num : Nat) : Int), .string (zh q.num), .bool (zs q.num), .int .u64 ((lo (fe q) : Nat) : Int), .string (hs (fe q))] 79))
 replace hL0 := (hL0.new rfl [.int .u64 ((zl q.num : Nat) : Int), .string (zh q.num), .bool (zs q.num), .int .u64 ((lo (fe q) : Nat) : Int), .string (hs (fe q))] 79)
 generalize hweq : (x1.alloc (.cells #[.int .u64 ((zl q.num : Nat) : Int), .string (zh q.num), .bool (zs q.num), .int .u64 ((lo (fe q) : Nat) : Int), .string (hs (fe q))] 79)) = x2 at hL0 hS
 go_wp2_with fail
 with_reducible refine Calls.mono (HR.out _) ?_
 rintro e x3 ⟨v0, rfl, q0, hb⟩
 replace hL0 := hL0.call hb
 replace hS := hS.call hb
 clear hb hweq
 obtain ⟨g1, d1, g2, d2, rfl⟩ := rf_form q0
 replace hS := hS.cons (rf_rn1 q0)
 replace hS := hS.cons (rf_rn2 q0)
 clear q0
 replace hS := (hS.new (.cells #[.bool (zs q.num), .slice g1 (tln q.num.natAbs) d1, .slice g2 (tln (fd q)) d2] 82))
 replace hL0 := (hL0.new rfl [.bool (zs q.num), .slice g1 (tln q.num.natAbs) d1, .slice g2 (tln (fd q)) d2] 82)
 generalize hweq : (x3.alloc (.cells #[.bool (zs q.num), .slice g1 (tln q.num.natAbs) d1, .slice g2 (tln (fd q)) d2] 82)) = x4 at hL0 hS
 have hN0 := cells_of _ 0 [] rfl (hL0.get _ _ List.mem_cons_self)
 simp only [cellsF, and_true, Nat.zero_add, Nat.reduceAdd] at hN0
 have hN1 := cells_of _ 0 [] rfl (hL0.get _ _ (List.mem_cons_of_mem _ List.mem_cons_self))
 simp only [cellsF, and_true, Nat.zero_add, Nat.reduceAdd] at hN1
 go_wp2_with fail
 clear hN0 hN1
 with_reducible refine Calls.mono (HS.out (.agg #[.bool (zs q.num), .slice g1 (tln q.num.natAbs) d1, .slice g2 (tln (fd q)) d2]) _ (hKT.out.at (hL0.bl) kKT) (rf_of (hS.get (List.mem_cons_of_mem _ List.mem_cons_self)) (hS.get List.mem_cons_self))) ?_
 rintro e x5 ⟨rfl, hb⟩
 replace hL0 := hL0.call hb
 replace hS := hS.call hb
 clear hb hweq
 go_wp2_with fail
 with_reducible refine Calls.mono (HW.out _ (hKT.out.at (hL0.bl) kKT)) ?_
 rintro e x6 ⟨rfl, hb⟩
 replace hL0 := hL0.call hb
 replace hS := hS.call hb
 clear hb
 go_wp2_with fail
 exact bodyPost_ret (v := .bool true) (by simp [results, Tryz.results8, go_sem]) rfl ⟨rfl, hL0.bl⟩
end Go.Proofs.YtdmoadfnogdfnaaGreatDoor
namespace Go.Proofs.YtdmoadfnogdfnaaGreatDoor
open Go.RowKit Go.Proofs.YtdmoadfnogdfnaaGreatDoor.Rx
attribute [local irreducible] lo hs sm s64 c64 d64 b64 mh ml pd pc qd qc val hiB str cmpI srD lz nb isq decB zl zh dval txt
/-- The fraction of a string, and the code. -/
structure FP (l : List UInt8) (q : Rat) (c : Int) : Prop where
 p : ∀ w, MaxL w → Calls Tryz.prog 78 #[.string (st l)] w fun e w' => e = .returned (.tuple #[fracV q, .int .i64 c]) ∧ Below w.heap.size w w'
 ok : c = 0 ∨ q = 0 ∧ c ≠ 0
 sz : l.length ≤ 300 → Sz q 17
 r : l.length ≤ 300 → ∀ w, Calls Tryz.prog 79 #[.string (st l)] w fun e w' => ∃ v, e = .returned (.tuple #[v, .int .i64 c]) ∧ RF w' v q ∧ Below w.heap.size w w'
theorem st_bytes (l : List UInt8) : (st l).data.toList = l := by simp [st]
theorem st_cell (l : List UInt8) (i : Nat) (h : i < l.length) : ∃ c, l[i]? = some c ∧ ∃ hh : i < (st l).size, (st l)[i]'hh = c := ⟨l[i], List.getElem?_eq_getElem h, h, rfl⟩
theorem cbeq {c : Int} (h : c ≠ 0) : (c == 0) = false := beq_eq_false_iff_ne.2 h
theorem sz_zero (k : Nat) (h : 0 < k) : Sz 0 k := (szc 0 (by decide) (by decide)).mono (by omega)
theorem fp_bad {l p r : List UInt8} {f : Bool} {c : Int} (hl : l.length ≤ 8400) (hc : c ≠ 0) (hp : IP p 0 c) (hcut : Lib.cut l [47] = (p, r, f)) (k : Nat) (hk : k ≤ l.length) (hfin : ∀ c, CutS l 0 c → c = k) (htk : l.take k = p) : FP l 0 c := by
 refine ⟨fun w hm => ?_, .inr ⟨rfl, hc⟩, fun _ => sz_zero 17 (by omega), fun h3 w => ?_⟩
 ·rw [frV_q0]
  exact fparse_int (st l) (st p) (st r) 0 f c MaxL MaxL.keeps (cutF (st l) (by rw [st_size]; omega) (st p) (st r) f (by rw [st_bytes, st_bytes, st_bytes]; exact hcut)) hp.p (cbeq hc) w hm
 ·exact reads_int l (st l) (st p) l.length k 0 c hp.r (by omega) (st_size l) rfl (st_cell l) hfin hk (by rw [st_take, htk]) (cbeq hc) w
theorem fp_any (l : List UInt8) (hl : l.length ≤ 8400) : ∃ q c, FP l q c := by
 by_cases h47 : (47 : UInt8) ∈ l
 ·obtain ⟨p, r, rfl, hp⟩ := List.eq_append_cons_of_mem h47
  have hl2 : p.length + r.length + 1 ≤ 8400 := by simp at hl; omega
  have hcut := cut_at47 (r := r) hp
  have hfin : ∀ c, CutS (p ++ 47 :: r) 0 c → c = p.length := fun c h => h.at hp
  have hk : p.length ≤ (p ++ 47 :: r).length := by simp
  have htk : (p ++ 47 :: r).take p.length = p := by simp
  have hdr : (p ++ 47 :: r).drop (p.length + 1) = r := by simp
  have hke : ((p.length : Int) == ((p ++ 47 :: r).length : Int)) = false := beq_eq_false_iff_ne.2 (by simp; omega)
  obtain ⟨z, c, hz⟩ := ip_any p (by omega)
  rcases hz.ok with rfl | ⟨rfl, hc⟩
  ·obtain ⟨d, c2, hd⟩ := np_any r (by omega)
   have hC := cutF (st (p ++ 47 :: r)) (by rw [st_size]; omega) (st p) (st r) true (by rw [st_bytes, st_bytes, st_bytes]; exact hcut)
   have hx : (st (p ++ 47 :: r)).extract (p.length + 1) (p ++ 47 :: r).length = st r := by
    have := st_drop (p ++ 47 :: r) (p.length + 1)
    rw [hdr, st_size] at this; exact this
   rcases hd.ok with rfl | ⟨rfl, hc⟩
   ·by_cases h0 : d = 0
    ·subst h0
     refine ⟨0, 5, fun w hm => ?_, .inr ⟨rfl, by decide⟩, fun _ => sz_zero 17 (by omega), fun h3 w => ?_⟩
     ·exact fparse_part _ _ _ z _ 0 _ 5 MaxL MaxL.keeps hC hz.p hd.p (fun w => from0F z w) w hm
     ·have ht : tln 0 = 0 := by unfold tln; rw [td_len_zero]
      exact reads_zero (p ++ 47 :: r) _ (st p) _ p.length (st r) z 0 hz.r hd.r (by omega) (st_size _) rfl (st_cell _) hfin hk (by rw [st_take, htk]) hke hx (by rw [ht]; rfl) (decide_eq_true ht) w
    ·refine ⟨mkRat z d, 0, fun w hm => ?_, .inl rfl, fun h3 => ?_, fun h3 w => ?_⟩
     ·exact fparse_part _ _ _ z _ d _ 0 MaxL MaxL.keeps hC hz.p hd.p (fromF z d h0 (Nat.le_trans hz.d (by omega)) (Nat.le_trans hd.d (by omega))) w hm
     ·have g1 : p.length ≤ 300 := by simp at h3; omega
      have g2 : r.length ≤ 300 := by simp at h3; omega
      exact Sz.mk (Nat.le_trans (hz.d1 g1) (by omega)) (Nat.le_trans (hd.d1 g2) (by omega)) h0
     ·have g1 : p.length ≤ 300 := by simp at h3; omega
      have g2 : r.length ≤ 300 := by simp at h3; omega
      have ht : ¬ tln d = 0 := by unfold tln; rw [td_len_zero]; exact h0
      have tz := dI_td (hz.d1 g1)
      have td := td_of_digs (hd.d1 g2)
      exact reads_part (p ++ 47 :: r) _ (st p) _ p.length (st r) z d (mkRat z d) hz.r hd.r (rfrom z d h0 (by omega) (by omega)) (by omega) (st_size _) rfl (st_cell _) hfin hk (by rw [st_take, htk]) hke hx (beq_eq_false_iff_ne.2 (by omega)) (decide_eq_false ht) w
   ·refine ⟨0, c2, fun w hm => ?_, .inr ⟨rfl, hc⟩, fun _ => sz_zero 17 (by omega), fun h3 w => ?_⟩
    ·rw [frV_q0]; exact fparse_nat _ _ _ z 0 c2 MaxL MaxL.keeps hC hz.p hd.p (cbeq hc) w hm
    ·exact reads_nat (p ++ 47 :: r) _ (st p) _ p.length (st r) z c2 0 hz.r hd.r (by omega) (st_size _) rfl (st_cell _) hfin hk (by rw [st_take, htk]) hke hx (cbeq hc) w
  ·exact ⟨0, c, fp_bad hl hc hz hcut p.length hk hfin htk⟩
 ·have hcut := cut_no47 h47
  have hfin : ∀ c, CutS l 0 c → c = l.length := fun c h => h.none h47
  obtain ⟨z, c, hz⟩ := ip_any l hl
  rcases hz.ok with rfl | ⟨rfl, hc⟩
  ·refine ⟨(z : Rat), 0, fun w hm => ?_, .inl rfl, fun h3 => (Sz.int (Nat.le_trans (hz.d1 h3) (by omega)) (by omega)), fun h3 w => ?_⟩
   ·have hC := cutF (st l) (by rw [st_size]; omega) (st l) (st []) false (by rw [st_bytes, st_bytes]; exact hcut)
    exact fparse_whole _ _ _ z z 0 MaxL MaxL.keeps hC hz.p one_o (fun w => lowest_raw z 1 w) w hm
   ·exact reads_whole l (st l) (st l) l.length l.length (z : Rat) hz.r (by omega) (st_size l) rfl (st_cell l) hfin (Nat.le_refl _) (by rw [st_take, List.take_length]) (beq_self_eq_true _) rfl w
  ·exact ⟨0, c, fp_bad hl hc hz hcut l.length (Nat.le_refl _) hfin (List.take_length)⟩
theorem tabmax_keepsr : Keeps (fun w => Tab w ∧ MaxL w) := Keeps.and Keeps.tab MaxL.keeps
theorem freads_any (s : ByteArray) (w : World) (htab : Tab w) (hm : MaxL w) :
  Calls Tryz.prog 8 #[.string s] w fun xe w' => xe = .returned (.bool true) ∧ Below w.heap.size w w' := by
 obtain ⟨l, rfl⟩ : ∃ l, s = st l := ⟨s.data.toList, by cases s; rfl⟩
 have WK : ∀ w, (Tab w ∧ MaxL w) → _ := fun w h => fworks_any w h.1 h.2
 rcases Nat.lt_or_ge 8400 l.length with h1 | h1
 ·exact freads_big (st l) l.length _ tabmax_keepsr WK (st_size l) (decide_eq_true (by omega)) (decide_eq_true h1) w ⟨htab, hm⟩
 ·have b1 : decide ((8400 : Int) < (l.length : Int)) = false := decide_eq_false (by omega)
  have b2 : decide (8400 < l.length) = false := decide_eq_false (by omega)
  obtain ⟨q, c, hq⟩ := fp_any l h1
  have HP : ∀ w, (Tab w ∧ MaxL w) → _ := fun w h => hq.p w h.2
  rcases Nat.lt_or_ge 300 l.length with h2 | h2
  ·have m1 : decide ((300 : Int) < (l.length : Int)) = true := decide_eq_true (by omega)
   have m2 : decide (300 < l.length) = true := decide_eq_true h2
   rcases hq.ok with rfl | ⟨rfl, hc⟩
   ·exact freads_mid0 (st l) l.length q _ tabmax_keepsr HP WK (st_size l) b1 b2 m1 m2 w ⟨htab, hm⟩
   ·rw [frV_q0] at HP
    exact freads_mid1 (st l) l.length c _ tabmax_keepsr HP WK (st_size l) b1 b2 m1 m2 (cbeq hc) w ⟨htab, hm⟩
  ·have m1 : decide ((300 : Int) < (l.length : Int)) = false := decide_eq_false (by omega)
   have m2 : decide (300 < l.length) = false := decide_eq_false (by omega)
   exact freads_small (st l) l.length q c _ tabmax_keepsr HP (hq.r h2) (fun p1 w ht h => sameF q (hq.sz h2) (by omega) p1 w ht.1 h) WK (st_size l) b1 b2 m1 m2 w ⟨htab, hm⟩
end Go.Proofs.YtdmoadfnogdfnaaGreatDoor
namespace Go.Proofs.YtdmoadfnogdfnaaGreatDoor.fracsReads
open Go.ChangeShapes Go.WideShapes Go.ChangeAt Go.RowKit
set_option maxRecDepth 100000 in
theorem contract (H : Type) (enc : TypeId × Value → H) (W : World) (base : Nat) (args : Array Value) (ds gs : List (DataW H)) (before : List MemPlace)
  (hval : ∀ (j : Nat) t v, Tryz.f8.params[j]? = some t → args[j]? = some v → Value.okWide Tryz.prog W .any base t v)
  (hW : DataW.Whole enc Tryz.prog Tryz.f8.params.toList Rows.fracsReadsSpec.vars false W args.toList ds gs before) (hL : laidMetH Tryz.prog Rows.fracsReadsRow.laid W) (hSh : W.ShapedOpen Tryz.prog) :
  Calls Tryz.prog 8 args W fun e W' => ∃ v, e = .returned v ∧ Rows.fracsReadsSpec.post enc Tryz.prog Tryz.f8 false true false false W args v W' := by
 have hW' := hW
 obtain ⟨p, q, hA0, hV, rfl, _, _⟩ := hW
 have hA : DataW.TrodAll enc Tryz.prog W 0 (fun _ => true) true Tryz.f8.params.toList args.toList ds p := hA0
 rw [Tryz.params8] at hA hval
 obtain ⟨v0, e0, rfl, rfl, h0⟩ := trodAll_one hA
 obtain ⟨rfl, rfl⟩ := trodVars_none hV
 clear hA0
 simp only [List.append_nil] at hW'
 have hlt : ∀ x ∈ p, x.block < W.heap.size := fun x hx => by simpa using hW'.lt x hx
 obtain ⟨s0, rfl, rfl, rfl, f0⟩ := Go.ChangeMaps.open_string Tryz.underlying9 (hval 0 9 v0 rfl rfl) h0
 refine (freads_any s0 W (tab_of hL) (maxL_of hSh)).mono fun e W' ⟨he, hb⟩ => ?_
 subst he
 refine ⟨_, rfl, _, _, _, [], [], [], hW', ?_, ?_, rfl, hb.frame _, fun h => by cases h⟩
 ·exact trodAll_mk1 (shut_bool Tryz.underlying4 _)
 ·exact trodAll_mk1 (Go.ChangeMaps.shut_string Tryz.underlying9 f0)
/-- A world for the witness: the settled one, the tables as their initialisers lay them. -/
noncomputable def laidWorld (os : Os) : World := World.laidAll Tryz.prog os Rows.fracsReadsRow.laid
theorem laid_met (os : Os) : laidMet Tryz.prog Rows.fracsReadsRow.laid ((laidWorld os).forCall (fun _ _ => 0) ⟨#[], #[.string ⟨#[]⟩], []⟩).memory :=
 laidMet_laidAll _ (by kernel_rfl) (by kernel_rfl)
theorem reads (os : Os) {H : Type} (enc : TypeId × Value → H) : ∃ places, DataW.whole enc Tryz.prog ((laidWorld os).forCall (fun _ _ => 0) ⟨#[], #[.string ⟨#[]⟩], []⟩).memory Tryz.f8.params.toList Rows.fracsReadsSpec.vars false (#[.string ⟨#[]⟩] : Array Value).toList 8 = some ([.lit (.string [])], [], places) :=
 ⟨[], by kernel_rfl⟩
set_option maxRecDepth 100000 in
theorem lifted (os : Os) (started : os.Started) (H : Type) (enc : TypeId × Value → H) (F : Stop.Interp) :
  ReturnsInHanded {} Tryz.checked os 8 .any ((OpenSpec.ofChange Rows.fracsReadsSpec).preRow enc Tryz.prog Tryz.f8 Rows.fracsReadsRow.domain false Rows.fracsReadsRow.laid) (((OpenSpec.ofChange Rows.fracsReadsSpec).at F).post enc Tryz.prog Tryz.f8 false true false false) := by
 obtain ⟨places, hx⟩ := reads os enc
 refine returnsInHanded_of_row (C := Tryz.checked) (s := OpenSpec.ofChange Rows.fracsReadsSpec) own started (by kernel_rfl) Tryz.func8
  (witness_row_at (enc := enc) (C := Tryz.checked) false (laidWorld os) #[.string ⟨#[]⟩] (World.laidAll_os _ _ _) (by kernel_rfl) (by kernel_rfl) (by kernel_rfl)
   (OpenSpec.preRow_of_cond 8 hx (by kernel_rfl) (fun k hk => by cases hk) (by kernel_rfl) (laid_met os))) ?_
 intro W base args ds gs before hval hW _ _ _ hL hSh _
 exact contract H enc W base args ds gs before hval hW hL hSh
theorem said : Rows.FracsReadsSaid :=
 OpenClaim.holds_of_cond 8 Tryz.f8 rfl rfl rfl rfl rfl rfl rfl ⟨rfl, rfl, rfl, rfl, rfl⟩ rfl rfl rfl rfl rfl (by kernel_rfl) Tryz.func8 (by kernel_rfl)
  (of_decide_eq_true (by kernel_rfl)) (by unfold Func.isWrapper; first | (rw [if_pos (by decide +kernel)]; kernel_rfl) | (rw [if_neg (by decide +kernel)]; exact ⟨rfl, rfl⟩))
  (fun os started H enc _ F => by rw [OpenClaim.pre_eq_preRow]; exact lifted os started H enc F)
theorem plain (f : FuncId) (fn : Func) (hf : Tryz.pinned.checked.prog.funcNamed "gusset/gussetlaw03.FracsReads" = some f) (hfn : Tryz.pinned.checked.prog.funcs[f]? = some fn) :
  false = Tryz.pinned.checked.prog.looks [] ∧ ∀ (j : Nat) t, fn.params[j]? = some t → Tryz.pinned.checked.prog.wantsStandIn t = false := by
 obtain rfl : f = 8 := Option.some.inj ((show Tryz.prog.funcNamed "gusset/gussetlaw03.FracsReads" = some 8 by kernel_rfl).symm.trans hf) |>.symm
 obtain rfl : fn = Tryz.f8 := (Option.some.inj (Tryz.func8.symm.trans hfn)).symm
 refine ⟨by kernel_rfl, fun j t ht => ?_⟩
 rw [Tryz.params8] at ht
 have hm := Array.mem_of_getElem? ht
 simp only [List.mem_toArray, List.mem_cons, List.not_mem_nil, or_false] at hm
 rcases hm with rfl
 ·exact (show Tryz.prog.wantsStandIn 9 = false by kernel_rfl)
end Go.Proofs.YtdmoadfnogdfnaaGreatDoor.fracsReads
namespace Go.Proofs.YtdmoadfnogdfnaaGreatDoor
open Go.ChangeShapes Go.WideShapes Go.ChangeAt Go.RowKit
/-- THE CARD -/
theorem fracsReadsProved : Rows.FracsReadsCardSaid :=
 Claim7.holds_tied_plain_at .later [] _ _ _ _ fracsReads.said (fun _ h => by cases h) (by kernel_rfl) (fun _ h => by cases h) fracsReads_row_tie rfl ⟨rfl, rfl⟩ (by kernel_rfl) rfl fracsReads.plain (by kernel_rfl)
end Go.Proofs.YtdmoadfnogdfnaaGreatDoor
