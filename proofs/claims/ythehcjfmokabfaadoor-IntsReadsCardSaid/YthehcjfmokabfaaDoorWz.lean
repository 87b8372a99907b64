/-
  Layer 1, walks Z: Parse's parts: decimalForm, chunkOf.
-/
import Derived.Test.YthehcjfmokabfaaDoorNd
import Derived.Test.YthehcjfmokabfaaDoorWa
import Derived.BigQuiet
import Derived.BigGuard
set_option linter.unusedVariables false
set_option linter.unusedSimpArgs false
namespace Go.Proofs.YthehcjfmokabfaaDoor
open Go.RowKit
attribute [local irreducible] lo hs sm val hiB

/-- A string, out of its bytes. -/
def st (l : List UInt8) : ByteArray := ⟨l.toArray⟩
theorem st_size (l : List UInt8) : (st l).size = l.length := rfl
theorem st_toList (l : List UInt8) : (st l).data.toList = l := by simp [st]

theorem st_list (l : List UInt8) : (st l).toList = l := by rw [ByteArray.toList_eq]; exact st_toList l

open Classical in
/-- Whether bytes are a decimal form. -/
noncomputable def decB (l : List UInt8) : Bool := if isDec l then true else false
theorem decB_true {l : List UInt8} (h : isDec l) : decB l = true := by unfold decB; exact if_pos h
theorem decB_false {l : List UInt8} (h : ¬ isDec l) : decB l = false := by unfold decB; exact if_neg h
attribute [local irreducible] decB

set_option maxHeartbeats 2000000 in
set_option maxRecDepth 100000 in
theorem form_any (l : List UInt8) (hl : l.length ≤ 1000000) (w : World) :
    Calls Tryd.prog 58 #[.string (st l)] w fun e w' => e = .returned (.bool (decB l)) ∧ Below w.heap.size w w' := by
  go_enter Tryd.func58, Tryd.ntmps58
  go_wp2_with fail
  go_loopw [6] (fun z wx => ∃ i : Nat, i ≤ l.length ∧ z = .int .i64 i ∧ (∀ c ∈ l.take i, isDig c) ∧ Below w.heap.size w wx) (fun z _ => l.length - (intOf z).toNat)
  case atStart => exact ⟨0, Nat.zero_le _, rfl, by simp, Below.refl _ _⟩
  case round =>
    obtain ⟨i, hi, rfl, hd, hb⟩ := hrel
    rcases Nat.lt_or_eq_of_le hi with h | rfl
    · obtain ⟨c, hc⟩ : ∃ c, c = l[i] := ⟨_, rfl⟩
      have hlt : i < (st l).size := h
      have hget : (st l)[i]'hlt = c := by rw [hc]; rfl
      have hmem : c ∈ l := by rw [hc]; exact List.getElem_mem h
      have htk : l.take (i + 1) = l.take i ++ [c] := by rw [List.take_add_one, List.getElem?_eq_getElem h, ← hc]; rfl
      have HTK := Lib.hid htk
      clear hc htk
      by_cases hdg : isDig c
      · have h1 : decide ((c.toNat : Int) < 48) = false := decide_eq_false (by unfold isDig at hdg; omega)
        have h2 : decide (57 < (c.toNat : Int)) = false := decide_eq_false (by unfold isDig at hdg; omega)
        have h3 : (48 : Int) ≤ (c.toNat : Int) := by unfold isDig at hdg; omega
        have h4 : (c.toNat : Int) ≤ 57 := by unfold isDig at hdg; omega
        have HC := Lib.hid (⟨hd, hdg, hmem⟩ : (∀ c ∈ l.take i, isDig c) ∧ isDig c ∧ c ∈ l)
        clear hd hdg hmem
        go_wp2_with fail
        go_roundw
        case rel =>
          refine ⟨i + 1, h, rfl, fun x hx => ?_, hb⟩
          rw [HTK.out] at hx
          rcases List.mem_append.1 hx with hx | hx
          · exact HC.out.1 x hx
          · rw [List.mem_singleton.1 hx]; exact HC.out.2.1
        case measure => simp [intOf]; omega
      · have HC := Lib.hid (⟨hd, hdg, hmem⟩ : (∀ c ∈ l.take i, isDig c) ∧ ¬ isDig c ∧ c ∈ l)
        have h5 : (c.toNat : Int) < 48 ∨ 57 < (c.toNat : Int) := by unfold isDig at hdg; omega
        clear hd hdg hmem
        rcases h5 with h5 | h5
        · have h1 : decide ((c.toNat : Int) < 48) = true := decide_eq_true h5
          go_wp2_with fail
          exact bodyPost_ret (v := .bool false) (by simp [results, Tryd.results58, go_sem]) rfl ⟨by rw [decB_false fun h => absurd (h.1 c HC.out.2.2) HC.out.2.1], hb⟩
        · have h1 : decide ((c.toNat : Int) < 48) = false := decide_eq_false (by omega)
          have h2 : decide (57 < (c.toNat : Int)) = true := decide_eq_true h5
          go_wp2_with fail
          exact bodyPost_ret (v := .bool false) (by simp [results, Tryd.results58, go_sem]) rfl ⟨by rw [decB_false fun h => absurd (h.1 c HC.out.2.2) HC.out.2.1], hb⟩
    · rw [List.take_length] at hd
      have hst := st_list l
      have h0 : decide (l.length < (st l).size) = false := decide_eq_false (by rw [st_size]; omega)
      by_cases h1 : l = [48]
      · subst h1
        have hD : decB [48] = true := decB_true ⟨hd, .inl rfl⟩
        have HD := Lib.hid hD
        clear hd hD
        go_wp2_with fail
        exact bodyPost_ret (v := .bool true) (by simp [results, Tryd.results58, go_sem]) rfl ⟨by rw [HD.out], hb⟩
      · cases l with
        | nil =>
          have hD : decB [] = false := decB_false fun h => by rcases h.2 with h | h <;> simp at h
          have HD := Lib.hid hD
          clear hd hD
          go_wp2_with fail
          exact bodyPost_ret (v := .bool false) (by simp [results, Tryd.results58, go_sem]) rfl ⟨by rw [HD.out], hb⟩
        | cons c m =>
          have hlt : 0 < (st (c :: m)).size := Nat.succ_pos _
          have hget : (st (c :: m))[0]'hlt = c := rfl
          have hne : (c :: m) ≠ [] := by simp
          have hD : decB (c :: m) = ((c :: m) == [48] || !(c :: m).isEmpty && ((c.toNat : Int) != 48)) := by
            have e1 : ((c :: m) == [48]) = false := beq_eq_false_iff_ne.2 h1
            rw [e1, Bool.false_or, show (c :: m).isEmpty = false from rfl, Bool.not_false, Bool.true_and]
            by_cases h48 : c = 48
            · subst h48
              rw [decB_false fun h => by
                rcases h.2 with h | ⟨_, h⟩
                · exact h1 h
                · exact h rfl]
              rfl
            · rw [decB_true ⟨hd, .inr ⟨by simp, by simpa using h48⟩⟩]
              symm
              refine bne_iff_ne.2 fun h => h48 ?_
              apply UInt8.toNat_inj.1
              have : c.toNat = 48 := by omega
              rw [this]; rfl
          obtain ⟨l', hl'⟩ : ∃ l', l' = c :: m := ⟨_, rfl⟩
          have hD' : decB (c :: m) = ((c.toNat : Int) != 48) := by
            rw [hD, beq_eq_false_iff_ne.2 h1, Bool.false_or, show (c :: m).isEmpty = false from rfl, Bool.not_false, Bool.true_and]
          have HD := Lib.hid hD'
          have hlt' : 0 < (st l').size := by rw [hl']; exact hlt
          have hget' : (st l')[0]'hlt' = c := by subst hl'; rfl
          have hst' : (st l').toList = l' := st_list l'
          have h0' : decide (l'.length < (st l').size) = false := decide_eq_false (by rw [st_size]; omega)
          have n1 : ¬ l' = [48] := by rw [hl']; exact h1
          have n2 : ¬ l' = [] := by rw [hl']; exact hne
          have e1 : (l' == [48]) = false := beq_eq_false_iff_ne.2 n1
          have e2 : l'.isEmpty = false := by rw [hl']; rfl
          clear hst h0 hget hlt
          simp only [← hl']
          clear hd hD hl hi hne hD' h1 hl'
          rcases Bool.eq_false_or_eq_true ((c.toNat : Int) != 48) with e3 | e3
          · go_wp2_with fail
            exact bodyPost_ret (v := .bool true) (by simp [results, Tryd.results58, go_sem]) rfl ⟨by rw [HD.out, e3], hb⟩
          · go_wp2_with fail
            exact bodyPost_ret (v := .bool false) (by simp [results, Tryd.results58, go_sem]) rfl ⟨by rw [HD.out, e3], hb⟩

theorem pow10_le (i : Nat) (h : i ≤ 19) : 10 ^ i ≤ CB := by rw [CB_pow]; exact Nat.pow_le_pow_right (by omega) h

theorem wrapU {z : Int} (h0 : 0 ≤ z) (h1 : z ≤ 18446744073709551615) : IntKind.u64.wrap z = z := by rw [IntKind.wrap_u64]; omega

set_option maxHeartbeats 2000000 in
set_option maxRecDepth 100000 in
theorem chunkOf_any (l : List UInt8) (hd : ∀ c ∈ l, isDig c) (hl : l.length ≤ 19) (w : World) :
    Calls Tryd.prog 59 #[.string (st l)] w fun e w' => e = .returned (.tuple #[.int .u64 ((10 ^ l.length : Nat) : Int), .int .u64 ((dval l : Nat) : Int)]) ∧ Below w.heap.size w w' := by
  go_enter Tryd.func59, Tryd.ntmps59
  go_wp2_with fail
  go_loopw [2, 3, 7] (fun x y z wx => ∃ i b v : Nat, i ≤ l.length ∧ z = .int .i64 i ∧ x = .int .u64 (b : Int) ∧ y = .int .u64 (v : Int) ∧ b = 10 ^ i ∧ v = dval (l.take i) ∧ Below w.heap.size w wx) (fun _ _ z _ => l.length - (intOf z).toNat)
  case atStart => exact ⟨0, 1, 0, Nat.zero_le _, rfl, rfl, rfl, rfl, rfl, Below.refl _ _⟩
  case round =>
    obtain ⟨i, b, v, hi, rfl, rfl, rfl, hb, hv, hB⟩ := hrel
    rcases Nat.lt_or_eq_of_le hi with h | h
    · obtain ⟨c, hc⟩ : ∃ c, c = l[i] := ⟨_, rfl⟩
      have hlt : i < (st l).size := h
      have hget : (st l)[i]'hlt = c := by rw [hc]; rfl
      have hmem : isDig c := by rw [hc]; exact hd _ (List.getElem_mem h)
      have htk : l.take (i + 1) = l.take i ++ [c] := by rw [List.take_add_one, List.getElem?_eq_getElem h, ← hc]; rfl
      have hv' : dval (l.take (i + 1)) = v * 10 + (c.toNat - 48) := by rw [htk, dval_snoc, hv]
      have hvb : v * 10 + 9 < CB := by
        have h1 : v < 10 ^ i := by
          rw [hv]
          have := dval_lt (l := l.take i) fun x hx => hd x (List.mem_of_mem_take hx)
          rw [List.length_take, Nat.min_eq_left (by omega)] at this
          exact this
        have h2 := pow10_le (i + 1) (by omega)
        rw [Nat.pow_succ] at h2
        omega
      have hbb : b * 10 ≤ CB := by rw [hb, ← Nat.pow_succ]; exact pow10_le (i + 1) (by omega)
      obtain ⟨d, hdd⟩ : ∃ d : Nat, d = c.toNat - 48 := ⟨_, rfl⟩
      have hd9 : d ≤ 9 ∧ (c.toNat : Int) - 48 = (d : Int) := by unfold isDig at hmem; omega
      have w1 : IntKind.u64.wrap ((b : Int) * 10) = ((b * 10 : Nat) : Int) := by rw [wrapU (by omega) (by unfold CB at hbb; omega)]; omega
      have w2 : IntKind.u64.wrap ((v : Int) * 10) = ((v * 10 : Nat) : Int) := by rw [wrapU (by omega) (by unfold CB at hvb; omega)]; omega
      have w3 : IntKind.u8.wrap ((c.toNat : Int) - 48) = (d : Int) := by rw [IntKind.wrap_u8]; omega
      have w5 : IntKind.u64.wrap (d : Int) = (d : Int) := wrapU (by omega) (by omega)
      have w4 : IntKind.u64.wrap (((v * 10 : Nat) : Int) + (d : Int)) = ((v * 10 + d : Nat) : Int) := by rw [wrapU (by omega) (by unfold CB at hvb; omega)]; omega
      rw [← hdd] at hv'
      have hb' : 10 ^ (i + 1) = b * 10 := by rw [Nat.pow_succ, hb]
      generalize b * 10 = b1 at *
      generalize v * 10 = v1 at *
      have HV := Lib.hid hv'.symm
      have HB := Lib.hid hb'.symm
      clear hc hmem htk hv' hb' hb hv hvb hbb hdd
      generalize v1 + d = v2 at *
      go_wp2_with fail
      go_roundw
      case rel => exact ⟨i + 1, b1, v2, h, rfl, rfl, rfl, HB.out, HV.out, hB⟩
      case measure => simp [intOf]; omega
    · subst h
      rw [List.take_length] at hv
      have HV := Lib.hid hv
      have HB := Lib.hid hb
      have h0 : decide (l.length < (st l).size) = false := decide_eq_false (by rw [st_size]; omega)
      clear hv hb
      go_wp2_with fail
      exact bodyPost_ret (v := .tuple #[.int .u64 (b : Int), .int .u64 (v : Int)]) (by simp [results, Tryd.results59, go_sem]) rfl ⟨by rw [HB.out, HV.out], hB⟩
end Go.Proofs.YthehcjfmokabfaaDoor
