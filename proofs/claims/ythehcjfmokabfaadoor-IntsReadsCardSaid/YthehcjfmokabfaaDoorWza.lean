/-
  Layer 1, walks Za: timesPlus.
-/
import Derived.Test.YthehcjfmokabfaaDoorWh
import Derived.Deep.AppendLies
import Derived.BigQuiet
import Derived.BigGuard
set_option linter.unusedVariables false
set_option linter.unusedSimpArgs false
namespace Go.Proofs.YthehcjfmokabfaaDoor
open Go.RowKit

/-- What the loop of timesPlus keeps. -/
structure TimI (l : List Nat) (f s i carry : Nat) (O : List Nat) : Prop where
  len : O.length = i
  dig : Dig O
  lt : carry < Bs
  eq : val O + carry * Bs ^ i = val (l.take i) * f + s

theorem TimI.start (l : List Nat) (f s : Nat) (hs : s < Bs) : TimI l f s 0 s [] := ⟨rfl, Dig.nil, hs, by simp [val]⟩

theorem tim_arith (V T X d f s o over low carry mh B : Nat) (e1 : o + B * over = low + carry) (e2 : low + B * mh = d * f) (e0 : V + carry * X = T * f + s) :
    V + X * o + (mh + over) * (X * B) = (T + X * d) * f + s := by
  have h1 : X * o + X * (B * over) = X * low + X * carry := by rw [← Nat.mul_add, e1, Nat.mul_add]
  have h2 : X * low + X * (B * mh) = X * (d * f) := by rw [← Nat.mul_add, e2]
  have h3 : (mh + over) * (X * B) = X * (B * mh) + X * (B * over) := by
    rw [Nat.add_mul, Nat.mul_comm mh, Nat.mul_comm over, Nat.mul_assoc, Nat.mul_assoc]
  have h4 : (T + X * d) * f = T * f + X * (d * f) := by rw [Nat.add_mul, Nat.mul_assoc]
  have h5 : carry * X = X * carry := Nat.mul_comm _ _
  rw [h3, h4]
  rw [h5] at e0
  generalize X * o = a1 at *
  generalize X * (B * over) = a2 at *
  generalize X * (B * mh) = a3 at *
  generalize X * (d * f) = a4 at *
  generalize X * low = a5 at *
  generalize X * carry = a6 at *
  generalize T * f = a7 at *
  omega

theorem TimI.step {l O : List Nat} {f s i carry : Nat} (h : TimI l f s i carry O) (hd : Dig l) (hf : f < Bs) (hi : i < l.length) :
    TimI l f s (i + 1) (mh l[i] f + c64 (ml l[i] f) carry 0) (O ++ [s64 (ml l[i] f) carry 0]) := by
  have hdi := hd.get i hi
  have h1 := s64_spec (ml l[i] f) carry 0
  have h2 := mul_spec l[i] f
  have h3 := mh_lt hdi hf
  have h4 : c64 (ml l[i] f) carry 0 ≤ 1 := c64_le (ml_lt _ _) h.lt (by omega)
  have hB := Bs_gt
  refine ⟨by rw [List.length_append, h.len]; rfl, (fun x hx => by
    rcases List.mem_append.1 hx with hx | hx
    · exact h.dig x hx
    · rw [List.mem_singleton.1 hx]; exact s64_lt _ _ _), by omega, ?_⟩
  rw [List.take_add_one, List.getElem?_eq_getElem hi]
  show val (O ++ [_]) + _ = val (l.take i ++ [l[i]]) * f + s
  rw [val_append, val_append, h.len, List.length_take, Nat.min_eq_left (by omega), Nat.pow_succ]
  have v1 : ∀ x, val [x] = x := fun x => by simp [val]
  rw [v1, v1]
  exact tim_arith _ _ _ _ _ _ _ _ _ _ _ _ (by rw [Nat.add_zero] at h1; exact h1) h2 h.eq

theorem infoU64' : (Tryd.prog.info? 23).map (fun i => (i.zero, i.size, i.bytes)) = some (some (.int .u64 0), 1, 8) := by kernel_rfl

theorem set_mid_map (O l : List Nat) (i o : Nat) (hO : O.length = i) (hi : i < l.length) : ((O ++ l.drop i).map u64V).set i (u64V o) = ((O ++ [o]) ++ l.drop (i + 1)).map u64V := by
  have e : (O ++ l.drop i).set i o = (O ++ [o]) ++ l.drop (i + 1) := by
    rw [List.set_append_right _ _ (by omega), hO, Nat.sub_self, List.drop_eq_getElem_cons hi, List.set_cons_zero, List.append_assoc]; rfl
  rw [← e, List.map_set]

set_option maxHeartbeats 2000000 in
set_option maxRecDepth 100000 in
theorem timesPlus_any (B f s n : Nat) (v : Value) (l : List Nat) (hn : l.length = n) (hd : Dig l) (hf : f < Bs) (hs : s < Bs) (hl : n ≤ 1000000) (w : World) (hB : B ≤ w.heap.size) (hown : w.ownsRow B 23 1 v n (l.map u64V)) :
    Calls Tryd.prog 60 #[v, .int .u64 (f : Int), .int .u64 (s : Int)] w fun e w' => ∃ (v' : Value) (l' : List Nat), e = .returned v' ∧ Dig l' ∧ val l' = val l * f + s ∧ l'.length ≤ n + 1 ∧ w'.ownsRow B 23 1 v' l'.length (l'.map u64V) ∧ Below B w w' := by
  obtain ⟨i0, hi0, hz0, hz1, hz2⟩ := info_parts infoU64'
  obtain ⟨ao, c, rfl⟩ : ∃ ao c, v = .slice ao n c := by
    rcases hown.2 with ⟨rfl, rfl⟩ | ⟨g, c, cur, rfl, _⟩
    · exact ⟨_, _, rfl⟩
    · exact ⟨_, _, rfl⟩
  go_enter Tryd.func60, Tryd.ntmps60
  go_wp2_with fail
  go_loopw [7, 16] (fun x y wr => ∃ (i carry : Nat) (O : List Nat), i ≤ n ∧ x = .int .u64 carry ∧ y = .int .i64 i ∧ TimI l f s i carry O ∧ wr.ownsRow B 23 1 (.slice ao n c) n ((O ++ l.drop i).map u64V) ∧ Below B w wr) (fun _ y _ => n - (intOf y).toNat)
  case atStart => exact ⟨0, s, [], Nat.zero_le _, rfl, rfl, TimI.start l f s hs, by simpa using hown, Below.refl _ _⟩
  case round =>
    obtain ⟨i, carry, O, hi, rfl, rfl, hI, hO, hBr⟩ := hrel
    clear hown
    have hsz := hBr.size
    rcases Nat.lt_or_eq_of_le hi with h | h
    · obtain ⟨g, rfl, hg⟩ : ∃ g, ao = some ⟨g, 0, none⟩ ∧ B ≤ g := by
        rcases hO.2 with ⟨_, rfl⟩ | ⟨g, c', cur, he, hb, _⟩
        · omega
        · simp at he; exact ⟨g, he.1, hb⟩
      have hli : i < l.length := by omega
      have hcell : wr.cell? ⟨g, i, none⟩ = some (.int .u64 ((l[i] : Nat) : Int)) := by
        rw [hO.cellAt i (by omega), List.getElem?_map, List.getElem?_append_right (by rw [hI.len]; exact Nat.le_refl _), hI.len, Nat.sub_self, List.getElem?_drop, Nat.add_zero, List.getElem?_eq_getElem hli]
        rfl
      have hfz := hO.frozenAt i
      have hstep := hI.step hd hf hli
      have hst := hO.stored i (u64V (s64 (ml l[i] f) carry 0))
      rw [set_mid_map O l i _ hI.len hli] at hst
      have hdi := hd.get i hli
      generalize l[i] = di at *
      have hadd := add64c (ml di f) carry
      have HM := Lib.hid (mul64 di f hdi hf)
      have hcl := hstep.lt
      have b1 : ((mh di f : Nat) : Int) + ((c64 (ml di f) carry 0 : Nat) : Int) ≤ 18446744073709551615 := by unfold Bs at hcl; omega
      have HS := Lib.hid hstep
      have HT := Lib.hid hst
      clear hstep hst hI hO hdi hcl hi0 hz0 hz1 hz2
      go_wp2_with (go_at_call 63; refine (HM.out _).mono ?_; rintro e w1 ⟨rfl, rfl⟩)
      go_roundw
      case rel => exact ⟨i + 1, _, _, h, by go_num, by go_num, HS.out, HT.out.1, hBr.setCell (p := ⟨g, i, none⟩) hg _⟩
      case measure => simp [intOf]; omega
    · subst h
      have hlen := hI.len
      have heq := hI.eq
      have hdig := hI.dig
      have hlt := hI.lt
      rw [← hn, List.take_length] at heq
      rw [show l.drop i = [] by rw [List.drop_eq_nil_iff]; omega, List.append_nil] at hO
      rcases Nat.eq_zero_or_pos carry with h0 | h0
      · subst h0
        rw [Nat.zero_mul, Nat.add_zero] at heq
        have HE := Lib.hid heq
        clear heq hi0 hz0 hz1 hz2 hI
        go_wp2_with fail
        refine bodyPost_ret (v := .slice ao i c) (by simp [results, Tryd.results60, go_sem]) rfl ⟨_, O, rfl, hdig, HE.out, by omega, ?_, hBr⟩
        rw [hlen]; exact hO
      · have hc1 : decide ((0 : Int) < (carry : Int)) = true := decide_eq_true (by omega)
        have hc2 : decide (0 < carry) = true := decide_eq_true (by omega)
        have HE := Lib.hid heq
        clear heq hI
        go_wp2_with (at_builtin; refine wpList_append_lies _ rfl (.tmp 42) (.tmp 44) 81 rfl B 23 i0 (.int .u64 0) 1 8 Tryd.underlying81 hi0 hz0 hz1 hz2 rfl (by decide) (.slice ao i c) i (O.map u64V) (by rfl) (World.ownsRow.alloc hO _) ⟨wr.heap.size, 0, none⟩ 1 1 [.int .u64 (carry : Int)] (by rfl) rfl (World.news_of_block (heap_alloc_new wr _)) (by simp [Value.oneCell']) (by decide) (by unfold maxLen; omega) (by omega) (by simp; omega) (wr.heap.size + 1) (by simp) ?_)
        rintro g4 cap4 w4 hown4 hgrow4 hat4 hlt4
        have hB4 : Below B w w4 := (hBr.alloc (Nat.le_trans hB hsz) _).grown hgrow4 (by simp; omega) (fun k' hk' => (World.ownsRow.lt hO k' hk').1)
        clear hO hgrow4 hat4 hBr
        have hl' : (O ++ [carry]).length = i + 1 := by rw [List.length_append, hlen]; rfl
        go_wp2_with fail
        refine bodyPost_ret (v := .slice (some ⟨g4, 0, none⟩) (i + 1) cap4) (by simp [results, Tryd.results60, go_sem]) rfl ⟨_, O ++ [carry], rfl, hdig.app (Dig.cons hlt Dig.nil), ?_, by omega, ?_, hB4⟩
        · rw [val_append, hlen, show val [carry] = carry by simp [val], Nat.mul_comm]; have h9 := HE.out; rw [hn] at h9; exact h9
        · rw [hl', List.map_append]; exact hown4
end Go.Proofs.YthehcjfmokabfaaDoor
