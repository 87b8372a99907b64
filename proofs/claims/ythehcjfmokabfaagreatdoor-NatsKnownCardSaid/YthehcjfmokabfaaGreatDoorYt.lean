/-
  The reference of layer 1, walks I: Parse.
-/
import Derived.Test.YthehcjfmokabfaaGreatDoorYr
import Derived.Test.YthehcjfmokabfaaGreatDoorYo
set_option linter.unusedVariables false
set_option linter.unusedSimpArgs false
namespace Go.Proofs.YthehcjfmokabfaaGreatDoor.Rx
open Go.RowKit
attribute [local irreducible] tv dg cmpI txt decB

theorem rparse_long (l : List UInt8) (h : 4096 < l.length) (hl : l.length ≤ 1000000) (w : World) :
    Calls Tryz.prog 72 #[.string (st l)] w fun e w' => e = .returned (.tuple #[.slice none 0 0, .int .i64 3]) ∧ Below w.heap.size w w' := by
  have h1 : decide ((4096 : Int) < ((st l).size : Int)) = true := decide_eq_true (by rw [st_size]; omega)
  have h2 : decide (4096 < (st l).size) = true := decide_eq_true (by rw [st_size]; omega)
  go_enter Tryz.func72, Tryz.ntmps72
  go_wp2_with fail
  exact bodyPost_ret (v := .tuple #[.slice none 0 0, .int .i64 3]) (by simp [results, Tryz.results72, go_sem]) rfl ⟨rfl, Below.refl _ _⟩

theorem app_c1 (w : World) (v : Value) (t : TypeId) : ∀ (j : Nat) (u : Value), [v][j]? = some u → (w.alloc (.cells #[v] t)).cell? ((⟨w.heap.size, 0, none⟩ : Addr).add j) = some u := by
  intro j u hj
  match j, hj with
  | 0, hj => simp at hj; subst hj; simp [Addr.add]
theorem app_c2 (k : IntKind) (x : Int) : ∀ u ∈ [Value.int k x], u.oneCell' = true := by
  intro u hu; simp at hu; subst hu; rfl
/-- What is appended, chunk by chunk. -/
structure PS (l : List UInt8) (S : List Nat) (t e : Nat) : Prop where
  len : S.length = t
  lt : ∀ d ∈ S, d < 10000
  pos : e = l.length - 4 * t
  eq : tv S + 10000 ^ t * dval (l.take e) = dval l
theorem PS.step {l : List UInt8} {S : List Nat} {t e : Nat} (h : PS l S t e) (hd : ∀ c ∈ l, isDig c) (he : 0 < e) :
    dval ((l.drop (e - 4)).take (e - (e - 4))) < 10000 ∧ PS l (S ++ [dval ((l.drop (e - 4)).take (e - (e - 4)))]) (t + 1) (e - 4) := by
  have hle : e ≤ l.length := by have := h.pos; omega
  have hch : ((l.drop (e - 4)).take (e - (e - 4))).length = e - (e - 4) := by rw [List.length_take, List.length_drop]; omega
  have hlt : dval ((l.drop (e - 4)).take (e - (e - 4))) < 10000 := by
    have h1 := dval_lt (l := (l.drop (e - 4)).take (e - (e - 4))) fun c hc => hd c (List.mem_of_mem_drop (List.mem_of_mem_take hc))
    rw [hch] at h1
    exact Nat.lt_of_lt_of_le h1 (Nat.le_trans (Nat.pow_le_pow_right (by omega) (show e - (e - 4) ≤ 4 by omega)) (by decide))
  refine ⟨hlt, by rw [List.length_append, h.len]; rfl, fun d hx => ?_, by have := h.pos; omega, ?_⟩
  · rcases List.mem_append.1 hx with hx | hx
    · exact h.lt d hx
    · rw [List.mem_singleton.1 hx]; exact hlt
  · have e1 : l.take e = l.take (e - 4) ++ (l.drop (e - 4)).take (e - (e - 4)) := by
      have := List.take_add (l := l) (i := e - 4) (j := e - (e - 4))
      rw [show e - 4 + (e - (e - 4)) = e by omega] at this
      exact this
    have e2 := h.eq
    rw [e1, dval_append, hch] at e2
    rw [tv_snoc, h.len, Nat.pow_succ]
    generalize dval ((l.drop (e - 4)).take (e - (e - 4))) = d at *
    rcases Nat.lt_or_ge e 4 with h4 | h4
    · have h0 : dval (l.take (e - 4)) = 0 := by rw [show e - 4 = 0 by omega, List.take_zero, dval_nil]
      rw [h0, Nat.zero_mul, Nat.zero_add] at e2
      rw [h0, Nat.mul_zero]; omega
    · rw [show e - (e - 4) = 4 by omega] at e2
      rw [Nat.mul_add, Nat.mul_comm (dval _) (10 ^ 4), ← Nat.mul_assoc, show (10 : Nat) ^ 4 = 10000 by rfl] at e2
      omega
theorem PS.start (l : List UInt8) : PS l [] 0 l.length := ⟨rfl, (fun d hd => by cases hd), by omega, by rw [tv_nil, List.take_length]; simp⟩

set_option maxHeartbeats 4000000 in
set_option maxRecDepth 100000 in
theorem rparse_any (l : List UInt8) (h : l.length ≤ 4096) (w : World) :
    Calls Tryz.prog 72 #[.string (st l)] w fun e w' =>
      ((isDec l ∧ ∃ v, e = .returned (.tuple #[v, .int .i64 0]) ∧ Rn w' v (dval l)) ∨ (¬ isDec l ∧ e = .returned (.tuple #[.slice none 0 0, .int .i64 4]))) ∧ Below w.heap.size w w' := by
  obtain ⟨i0, hi, hz0, hz1, hz2⟩ := info_parts Tryz.infoI
  have h1 : decide ((4096 : Int) < ((st l).size : Int)) = false := decide_eq_false (by rw [st_size]; omega)
  have h2 : decide (4096 < (st l).size) = false := decide_eq_false (by rw [st_size]; omega)
  have bad : ¬ isDec l → ∀ e, e = Ending.returned (.tuple #[.slice none 0 0, .int .i64 4]) → ∀ w', Below w.heap.size w w' →
      ((isDec l ∧ ∃ v, e = .returned (.tuple #[v, .int .i64 0]) ∧ Rn w' v (dval l)) ∨ (¬ isDec l ∧ e = .returned (.tuple #[.slice none 0 0, .int .i64 4]))) ∧ Below w.heap.size w w' := fun hb e he w' hw => ⟨.inr ⟨hb, he⟩, hw⟩
  have good : isDec l → ∀ e v, e = Ending.returned (.tuple #[v, .int .i64 0]) → ∀ w', Rn w' v (dval l) → Below w.heap.size w w' →
      ((isDec l ∧ ∃ v, e = .returned (.tuple #[v, .int .i64 0]) ∧ Rn w' v (dval l)) ∨ (¬ isDec l ∧ e = .returned (.tuple #[.slice none 0 0, .int .i64 4]))) ∧ Below w.heap.size w w' := fun hb e v he w' hv hw => ⟨.inl ⟨hb, v, he, hv⟩, hw⟩
  replace bad := Lib.hid bad
  replace good := Lib.hid good
  have hcase : l = [] ∨ (∃ m c, l = 48 :: c :: m) ∨ (l ≠ [] ∧ (l = [48] ∨ l.head? ≠ some 48)) := by
    match l with
    | [] => exact .inl rfl
    | [c] =>
      refine .inr (.inr ⟨by simp, ?_⟩)
      by_cases hc : c = 48
      · exact .inl (by rw [hc])
      · exact .inr (by simpa using hc)
    | c :: d :: m =>
      by_cases hc : c = 48
      · exact .inr (.inl ⟨m, d, by rw [hc]⟩)
      · exact .inr (.inr ⟨by simp, .inr (by simpa using hc)⟩)
  rcases hcase with rfl | ⟨m, c, rfl⟩ | ⟨hne, hhd⟩
  · have hb := Lib.hid (bad.out (fun h => by rcases h.2 with h | h; · cases h
                                             · exact h.1 rfl))
    have h3 : (((st []).size : Int) == 0) = true := rfl
    have h4 : ((st []).size == 0) = true := rfl
    go_enter Tryz.func72, Tryz.ntmps72
    go_wp2_with fail
    exact bodyPost_ret (v := .tuple #[.slice none 0 0, .int .i64 4]) (by simp [results, Tryz.results72, go_sem]) rfl (hb.out _ rfl _ (Below.refl _ _))
  · have hb := Lib.hid (bad.out (fun h => by rcases h.2 with h | ⟨-, h⟩; · simp at h
                                             · exact h rfl))
    have hlt : 0 < (st (48 :: c :: m)).size := by rw [st_size]; simp
    have hget : (st (48 :: c :: m))[0]'hlt = 48 := rfl
    have h3 : (((st (48 :: c :: m)).size : Int) == 0) = false := beq_eq_false_iff_ne.2 (by omega)
    have h4 : ((st (48 :: c :: m)).size == 0) = false := beq_eq_false_iff_ne.2 (by omega)
    have h5 : decide ((1 : Int) < ((st (48 :: c :: m)).size : Int)) = true := decide_eq_true (by rw [st_size]; simp; omega)
    have h6 : decide (1 < (st (48 :: c :: m)).size) = true := decide_eq_true (by rw [st_size]; simp)
    generalize st (48 :: c :: m) = s at *
    go_enter Tryz.func72, Tryz.ntmps72
    go_wp2_with fail
    exact bodyPost_ret (v := .tuple #[.slice none 0 0, .int .i64 4]) (by simp [results, Tryz.results72, go_sem]) rfl (hb.out _ rfl _ (Below.refl _ _))
  · have hpos : 0 < l.length := List.length_pos_iff.2 hne
    obtain ⟨n, hn⟩ : ∃ n, n = l.length := ⟨_, rfl⟩
    have hsz : (st l).size = n := by rw [st_size, hn]
    have hlt0 : 0 < (st l).size := by rw [hsz, hn]; exact hpos
    have hfirst : (((((st l)[0]'hlt0).toNat : Int) == 48) = false) ∨ (((((st l)[0]'hlt0).toNat : Int) == 48) = true ∧ decide ((1 : Int) < (n : Int)) = false ∧ decide (1 < n) = false) := by
      rcases hhd with rfl | hh
      · exact .inr ⟨rfl, by rw [hn]; rfl, by rw [hn]; rfl⟩
      · refine .inl (beq_eq_false_iff_ne.2 fun e => hh ?_)
        have h48 : (st l)[0]'hlt0 = 48 := UInt8.toNat_inj.1 (by show _ = 48; omega)
        have h49 : l[0]'hpos = 48 := h48
        rw [List.head?_eq_getElem?, List.getElem?_eq_getElem hpos, h49]
    have h3 : ((n : Int) == 0) = false := beq_eq_false_iff_ne.2 (by omega)
    have h4 : (n == 0) = false := beq_eq_false_iff_ne.2 (by omega)
    have hD : (∀ c ∈ l, isDig c) → isDec l := fun hd => ⟨hd, by rcases hhd with h | h; · exact .inl h
                                                                · exact .inr ⟨hne, h⟩⟩
    have hnd : ∀ c ∈ l, ¬ isDig c → ¬ isDec l := fun c hc hx hh => hx (hh.1 c hc)
    have hcell : ∀ (i : Nat) (hi : i < n), ∃ c, c ∈ l ∧ l.take (i + 1) = l.take i ++ [c] ∧ (st l)[i]'(by rw [hsz]; exact hi) = c ∧ (∀ m, m ≤ i → (l.drop m).take (i + 1 - m) = (l.drop m).take (i - m) ++ [c]) := fun i hi => by
      have hil : i < l.length := by omega
      refine ⟨l[i], List.getElem_mem hil, by rw [List.take_add_one, List.getElem?_eq_getElem hil]; rfl, rfl, fun m hm => ?_⟩
      rw [show i + 1 - m = (i - m) + 1 by omega, List.take_add_one, List.getElem?_drop, show m + (i - m) = i by omega, List.getElem?_eq_getElem hil]; rfl
    have hn4 : n ≤ 4096 := by omega
    have hst := PS.start l
    rw [← hn] at hst
    have hstep := fun S t e (h : PS l S t e) hd he => h.step hd he
    have hend := fun S t (h : PS l S t 0) => h.eq
    rw [hsz] at h1 h2
    generalize st l = s at *
    have HN := Lib.hid hn
    clear hhd hne hn h
    replace hD := Lib.hid hD
    replace hnd := Lib.hid hnd
    replace hcell := Lib.hid hcell
    replace hst := Lib.hid hst
    replace hstep := Lib.hid hstep
    replace hend := Lib.hid hend
    go_enter Tryz.func72, Tryz.ntmps72
    rcases hfirst with hf | ⟨hf, hf2, hf3⟩
    all_goals (
      go_wp2_with fail
      clear hf
      go_loopw [5] (fun z wx => ∃ i : Nat, i ≤ n ∧ z = .int .i64 (i : Int) ∧ (∀ c ∈ l.take i, isDig c) ∧ w = wx) (fun z _ => n - (intOf z).toNat)
      case atStart => exact ⟨0, Nat.zero_le _, rfl, by simp, rfl⟩
      case round =>
        obtain ⟨i, hin, rfl, hd, rfl⟩ := hrel
        rcases Nat.lt_or_eq_of_le hin with hlt | hie
        · obtain ⟨c, hmem, htk, hget, -⟩ := hcell.out i hlt
          have hls : i < s.size := by rw [hsz]; exact hlt
          have k1 : (i : Int) < (n : Int) := by omega
          have hib : (i : Int) ≤ 4096 := by omega
          replace htk := Lib.hid htk
          by_cases hdg : isDig c
          · have g1 : decide ((c.toNat : Int) < 48) = false := decide_eq_false (by unfold isDig at hdg; omega)
            have g2 : decide (57 < (c.toNat : Int)) = false := decide_eq_false (by unfold isDig at hdg; omega)
            have g3 : (48 : Int) ≤ (c.toNat : Int) := by unfold isDig at hdg; omega
            have g4 : (c.toNat : Int) ≤ 57 := by unfold isDig at hdg; omega
            have HC := Lib.hid (⟨hd, hdg⟩ : (∀ c ∈ l.take i, isDig c) ∧ isDig c)
            clear hd hdg hmem
            go_wp2_with fail
            go_roundw
            case rel =>
              refine ⟨i + 1, hlt, rfl, fun x hx => ?_, trivial⟩
              rw [htk.out] at hx
              rcases List.mem_append.1 hx with hx | hx
              · exact HC.out.1 x hx
              · rw [List.mem_singleton.1 hx]; exact HC.out.2
            case measure => simp [intOf]; omega
          · have hb := Lib.hid (bad.out (hnd.out c hmem hdg))
            have g5 : (c.toNat : Int) < 48 ∨ 57 < (c.toNat : Int) := by unfold isDig at hdg; omega
            clear hd hdg hmem
            rcases g5 with g5 | g5
            · have g1 : decide ((c.toNat : Int) < 48) = true := decide_eq_true g5
              go_wp2_with fail
              exact bodyPost_ret (v := .tuple #[.slice none 0 0, .int .i64 4]) (by simp [results, Tryz.results72, go_sem]) rfl (hb.out _ rfl _ (Below.refl _ _))
            · have g1 : decide ((c.toNat : Int) < 48) = false := decide_eq_false (by omega)
              have g2 : decide (57 < (c.toNat : Int)) = true := decide_eq_true g5
              go_wp2_with fail
              exact bodyPost_ret (v := .tuple #[.slice none 0 0, .int .i64 4]) (by simp [results, Tryz.results72, go_sem]) rfl (hb.out _ rfl _ (Below.refl _ _))
        · have k1 : ¬ (i : Int) < (n : Int) := by omega
          have hda : ∀ c ∈ l, isDig c := fun c hc => hd c (by rw [List.take_of_length_le (by have := HN.out; omega)]; exact hc)
          have hok := Lib.hid (good.out (hD.out hda))
          replace hda := Lib.hid hda
          clear hd bad hnd hD hie
          go_wp2_with fail
          go_loopw [4, 6] (fun v z wx => ∃ (t e : Nat) (S : List Nat) (zi : Int), z = .int .i64 zi ∧ (zi = (e : Int) ∨ (zi ≤ 0 ∧ e = 0)) ∧ -4 ≤ zi ∧ e ≤ n ∧ t ≤ n ∧ PS l S t e ∧ wx.ownsRow w.heap.size 3 1 v t (S.map iv) ∧ Below w.heap.size w wx) (fun _ z _ => (intOf z + 4).toNat)
          case atStart => exact ⟨0, n, [], n, rfl, .inl rfl, by omega, Nat.le_refl _, Nat.zero_le _, hst.out, World.ownsRow_nil _ _ _ _, Below.refl _ _⟩
          case round =>
            obtain ⟨t, e, S, zi, rfl, hze, hz4, hen, htn, hS, hown, hbl⟩ := hrel
            rcases Nat.eq_zero_or_pos e with he | he
            · subst he
              have k2 : ¬ (0 : Int) < zi := by omega
              have hT : tv S = dval l := by
                have := hend.out S t hS
                rw [List.take_zero, dval_nil, Nat.mul_zero, Nat.add_zero] at this
                exact this
              have HT := trim_any u4 S hS.lt (by rw [hS.len]; omega) wr (Sl.owned hown hS.len.symm)
              rw [hT] at HT
              replace HT := Lib.hid HT
              clear hT hS hown hze
              go_wp2_with fail
              with_reducible refine Calls.mono HT.out ?_
              rintro e w1 ⟨v', rfl, hv, rfl⟩
              replace hv := Lib.hid hv
              go_wp2_with fail
              exact bodyPost_ret (v := .tuple #[v', .int .i64 0]) (by simp [results, Tryz.results72, go_sem]) rfl (hok.out _ _ rfl _ hv.out hbl)
            · obtain rfl : zi = (e : Int) := by omega
              obtain ⟨hdl, hnx⟩ := hstep.out S t e hS hda.out he
              have k2 : (0 : Int) < (e : Int) := by omega
              have heb : (e : Int) ≤ 4096 := by omega
              have htb : (t : Int) ≤ 4096 := by omega
              replace hnx := Lib.hid hnx
              have htl : t + 1 ≤ n := by have := hS.pos; have := HN.out; omega
              clear hze hS
              obtain ⟨m, hm⟩ : ∃ m, m = e - 4 := ⟨_, rfl⟩
              rw [← hm] at hdl hnx
              have hmx : ((e : Int) - 4 ≤ 0 ∧ m = 0) ∨ (0 < (e : Int) - 4 ∧ (e : Int) - 4 = (m : Int)) := by omega
              replace hm := Lib.hid hm
              have hmax : max (0 : Int) ((e : Int) - 4) = (m : Int) := by omega
              clear hmx
              go_wp2_with fail
              go_loopw [7, 8] (fun dv jv wx => ∃ i : Nat, m ≤ i ∧ i ≤ e ∧ jv = .int .i64 (i : Int) ∧ dv = .int .i64 ((dval ((l.drop m).take (i - m)) : Nat) : Int) ∧ wx.ownsRow w.heap.size 3 1 u4 t (S.map iv) ∧ Below w.heap.size w wx) (fun _ jv _ => e - (intOf jv).toNat)
              case atStart => exact ⟨m, Nat.le_refl _, by have := hm.out; omega, by first | rfl | go_num, by rw [Nat.sub_self, List.take_zero]; rfl, hown, hbl⟩
              case round =>
                obtain ⟨j, hmj, hje, rfl, rfl, hown2, hbl2⟩ := hrel
                rcases Nat.lt_or_ge j e with hlt | hge
                · obtain ⟨c, hmem, -, hget, hpre⟩ := hcell.out j (by omega)
                  have hls : j < s.size := by rw [hsz]; omega
                  have hnext := hpre m hmj
                  have hdg := hda.out c hmem
                  have hnv : dval ((l.drop m).take (j + 1 - m)) = dval ((l.drop m).take (j - m)) * 10 + (c.toNat - 48) := by rw [hnext, dval_snoc]
                  have hDb : dval ((l.drop m).take (j - m)) < 10000 := by
                    have h1 := dval_lt (l := (l.drop m).take (j - m)) fun c hc => hda.out c (List.mem_of_mem_drop (List.mem_of_mem_take hc))
                    exact Nat.lt_of_lt_of_le h1 (Nat.le_trans (Nat.pow_le_pow_right (by omega) (show _ ≤ 4 by rw [List.length_take]; have := hm.out; omega)) (by decide))
                  have g3 : (48 : Int) ≤ (c.toNat : Int) := by unfold isDig at hdg; omega
                  have g4 : (c.toNat : Int) ≤ 57 := by unfold isDig at hdg; omega
                  generalize dval ((l.drop m).take (j - m)) = D at *
                  replace hnv := Lib.hid hnv
                  clear hpre hnext hdg hmem hdl
                  have k3 : (j : Int) < (e : Int) := by omega
                  have hjb : (j : Int) ≤ 4096 := by omega
                  go_wp2_with fail
                  go_roundw
                  case rel => exact ⟨j + 1, by omega, by omega, by first | rfl | go_num, (by rw [hnv.out]; go_num), hown2, hbl2⟩
                  case measure => simp [intOf]; omega
                · obtain rfl : j = e := by omega
                  have k3 : ¬ (j : Int) < (j : Int) := by omega
                  generalize dval ((l.drop m).take (j - m)) = D at *
                  go_wp2_with (at_builtin; refine wpList_append_own _ rfl _ _ 42 rfl w.heap.size 3 i0 (.int .i64 0) 1 8 Tryz.underlying42 hi hz0 hz1 hz2 rfl (by decide) _ _ _ rfl (hown2.alloc _) ⟨wr.heap.size, 0, none⟩ 1 1 [.int .i64 (D : Int)] rfl rfl (app_c1 _ _ _) (app_c2 _ _) (by unfold maxLen; omega) (by omega) (by have := hbl2.size; simp; omega) ?_)
                  intro v' w1 hown' hgrow _
                  have hn' := Lib.hid (own_snoc (d := D) rfl hown')
                  have hb' := Lib.hid (below_app hbl2 hbl2.size hown2 hgrow)
                  clear hown' hgrow hown2 hbl2 hown hbl
                  go_wp2_with fail
                  go_roundw
                  case rel => exact ⟨t + 1, m, _, (j : Int) - 4, by first | rfl | go_num, (by have := hm.out; omega), by omega, (by have := hm.out; omega), htl, hnx.out, hn'.out, hb'.out⟩
                  case measure => simp [intOf]; omega)
end Go.Proofs.YthehcjfmokabfaaGreatDoor.Rx

/-
  Layer 1, law H: NatsReads.
-/
namespace Go.Proofs.YthehcjfmokabfaaGreatDoor
open Go.RowKit
attribute [local irreducible] lo hs sm s64 c64 d64 b64 mh ml pd pc qd qc val hiB str cmpI srD lz nb isq decB txt

theorem dval_digs {l : List UInt8} (h : ∀ c ∈ l, isDig c) : (digs (dval l)).length ≤ l.length :=
  digs_length_iff.2 (Nat.lt_of_lt_of_le (dval_lt h) (Nat.pow_le_pow_left (by unfold Bs; decide) _))
theorem dval_td {l : List UInt8} (h : ∀ c ∈ l, isDig c) : (Rx.td (dval l)).length ≤ l.length :=
  Rx.td_length.2 (Nat.lt_of_lt_of_le (dval_lt h) (Nat.pow_le_pow_left (by decide) _))
theorem dval_txt {l : List UInt8} (h : isDec l) : txt (dval l) = st l := by rw [txt_st, dec_dval h]

set_option maxHeartbeats 4000000 in
set_option maxRecDepth 100000 in
theorem reads_big (l : List UInt8) (h : 4200 < l.length) (w : World) (htab : Tab w) :
    Calls Tryz.prog 14 #[.string (st l)] w fun e w' => e = .returned (.bool true) ∧ Below w.heap.size w w' := by
  have k1 : decide ((4200 : Int) < ((st l).size : Int)) = true := decide_eq_true (by rw [st_size]; omega)
  have k2 : decide (4200 < (st l).size) = true := decide_eq_true (by rw [st_size]; omega)
  have HW := Lib.hid (works_any w htab)
  have hL0 : NL w w [] := NL.start w
  generalize st l = s at *
  go_enter Tryz.func14, Tryz.ntmps14
  go_wp2_with fail
  with_reducible refine Calls.mono HW.out ?_
  rintro e x1 ⟨rfl, hb⟩
  replace hL0 := hL0.call hb
  clear hb HW
  go_wp2_with fail
  exact bodyPost_ret (v := .bool true) (by simp [results, Tryz.results14, go_sem]) rfl ⟨rfl, hL0.bl⟩

set_option maxHeartbeats 4000000 in
set_option maxRecDepth 100000 in
theorem reads_long (l : List UInt8) (h : 4096 < l.length) (h2 : l.length ≤ 4200) (w : World) (htab : Tab w) :
    Calls Tryz.prog 14 #[.string (st l)] w fun e w' => e = .returned (.bool true) ∧ Below w.heap.size w w' := by
  have P := fun w => parse_long l h (by omega) w
  have R := fun w => Rx.rparse_long l h (by omega) w
  have k1 : decide ((4200 : Int) < ((st l).size : Int)) = false := decide_eq_false (by rw [st_size]; omega)
  have k2 : decide (4200 < (st l).size) = false := decide_eq_false (by rw [st_size]; omega)
  generalize st l = s at *
  replace P := Lib.hid P
  replace R := Lib.hid R
  clear h
  have HW := Lib.hid (fun w h => works_any w h)
  have z1 : (((lo 0 : Nat) : Int) == 0) = true := by rw [lo_zero]; rfl
  have z2 : ((hs 0).toList == []) = true := by rw [hs_zero, ByteArray.toList_eq]; rfl
  have hL0 : NL w w [] := NL.start w
  go_enter Tryz.func14, Tryz.ntmps14
  go_wp2_with fail
  with_reducible refine Calls.mono (P.out _) ?_
  rintro e x1 ⟨rfl, hb⟩
  replace hL0 := hL0.call hb
  clear hb P
  replace hL0 := (hL0.new rfl 0 32)
  generalize hweq : (x1.alloc (.cells #[.int .u64 ((lo 0 : Nat) : Int), .string (hs 0)] 32)) = x2 at hL0
  go_wp2_with fail
  with_reducible refine Calls.mono (R.out _) ?_
  rintro e x3 ⟨rfl, hb⟩
  replace hL0 := hL0.call hb
  clear hb R hweq
  obtain ⟨p1, r1⟩ := hL0.get (x1.heap.size) 0 (by (repeat (first | with_reducible exact List.mem_cons_self | with_reducible refine List.mem_cons_of_mem _ ?_)))
  go_wp2_with fail
  with_reducible refine Calls.mono (HW.out _ (htab.below hL0.bl)) ?_
  rintro e x4 ⟨rfl, hb⟩
  replace hL0 := hL0.call hb
  clear hb HW
  go_wp2_with fail
  exact bodyPost_ret (v := .bool true) (by simp [results, Tryz.results14, go_sem]) rfl ⟨rfl, hL0.bl⟩

set_option maxHeartbeats 4000000 in
set_option maxRecDepth 100000 in
theorem reads_bad (l : List UInt8) (h : l.length ≤ 4096) (hd : ¬ isDec l) (w : World) (htab : Tab w) :
    Calls Tryz.prog 14 #[.string (st l)] w fun e w' => e = .returned (.bool true) ∧ Below w.heap.size w w' := by
  have P := fun w => parse_form l h hd w
  have R : ∀ w, Calls Tryz.prog 72 #[.string (st l)] w fun e w' => e = .returned (.tuple #[.slice none 0 0, .int .i64 4]) ∧ Below w.heap.size w w' := fun w => (Rx.rparse_any l h w).mono fun e w' ⟨h1, h2⟩ => by
    rcases h1 with ⟨h1, -⟩ | ⟨-, h1⟩
    · exact absurd h1 hd
    · exact ⟨h1, h2⟩
  have k1 : decide ((4200 : Int) < ((st l).size : Int)) = false := decide_eq_false (by rw [st_size]; omega)
  have k2 : decide (4200 < (st l).size) = false := decide_eq_false (by rw [st_size]; omega)
  generalize st l = s at *
  replace P := Lib.hid P
  replace R := Lib.hid R
  clear h hd
  have HW := Lib.hid (fun w h => works_any w h)
  have z1 : (((lo 0 : Nat) : Int) == 0) = true := by rw [lo_zero]; rfl
  have z2 : ((hs 0).toList == []) = true := by rw [hs_zero, ByteArray.toList_eq]; rfl
  have hL0 : NL w w [] := NL.start w
  go_enter Tryz.func14, Tryz.ntmps14
  go_wp2_with fail
  with_reducible refine Calls.mono (P.out _) ?_
  rintro e x1 ⟨rfl, hb⟩
  replace hL0 := hL0.call hb
  clear hb P
  replace hL0 := (hL0.new rfl 0 32)
  generalize hweq : (x1.alloc (.cells #[.int .u64 ((lo 0 : Nat) : Int), .string (hs 0)] 32)) = x2 at hL0
  go_wp2_with fail
  with_reducible refine Calls.mono (R.out _) ?_
  rintro e x3 ⟨rfl, hb⟩
  replace hL0 := hL0.call hb
  clear hb R hweq
  obtain ⟨p2, r2⟩ := hL0.get (x1.heap.size) 0 (by (repeat (first | with_reducible exact List.mem_cons_self | with_reducible refine List.mem_cons_of_mem _ ?_)))
  go_wp2_with fail
  with_reducible refine Calls.mono (HW.out _ (htab.below hL0.bl)) ?_
  rintro e x4 ⟨rfl, hb⟩
  replace hL0 := hL0.call hb
  clear hb HW
  go_wp2_with fail
  exact bodyPost_ret (v := .bool true) (by simp [results, Tryz.results14, go_sem]) rfl ⟨rfl, hL0.bl⟩

set_option maxHeartbeats 4000000 in
set_option maxRecDepth 100000 in
theorem reads_good (l : List UInt8) (h : l.length ≤ 4096) (hd : isDec l) (w : World) (htab : Tab w) :
    Calls Tryz.prog 14 #[.string (st l)] w fun e w' => e = .returned (.bool true) ∧ Below w.heap.size w w' := by
  have P := fun w => parse_ok l h hd w
  have R : ∀ w, Calls Tryz.prog 72 #[.string (st l)] w fun e w' => ∃ v, e = .returned (.tuple #[v, .int .i64 0]) ∧ Rx.Rn w' v (dval l) ∧ Below w.heap.size w w' := fun w => (Rx.rparse_any l h w).mono fun e w' ⟨h1, h2⟩ => by
    rcases h1 with ⟨-, v, h3, h4⟩ | ⟨h1, -⟩
    · exact ⟨v, h3, h4, h2⟩
    · exact absurd hd h1
  have T := fun w ht => text_any (dval l) (Nat.le_trans (dval_digs hd.1) (by omega)) w ht
  have U := fun v w hv => Rx.rtext_any v (dval l) (Nat.le_trans (dval_td hd.1) (by omega)) w hv
  rw [dval_txt hd] at T U
  have k1 : decide ((4200 : Int) < ((st l).size : Int)) = false := decide_eq_false (by rw [st_size]; omega)
  have k2 : decide (4200 < (st l).size) = false := decide_eq_false (by rw [st_size]; omega)
  generalize dval l = d at *
  generalize st l = s at *
  replace P := Lib.hid P
  replace R := Lib.hid R
  replace T := Lib.hid T
  replace U := Lib.hid U
  clear h hd
  have HW := Lib.hid (fun w h => works_any w h)
  have hL0 : NL w w [] := NL.start w
  go_enter Tryz.func14, Tryz.ntmps14
  go_wp2_with fail
  with_reducible refine Calls.mono (P.out _) ?_
  rintro e x1 ⟨rfl, hb⟩
  replace hL0 := hL0.call hb
  clear hb P
  replace hL0 := (hL0.new rfl d 32)
  generalize hweq : (x1.alloc (.cells #[.int .u64 ((lo d : Nat) : Int), .string (hs d)] 32)) = x2 at hL0
  go_wp2_with fail
  with_reducible refine Calls.mono (R.out _) ?_
  rintro e x3 ⟨v5, rfl, h5, hb⟩
  replace hL0 := hL0.call hb
  clear hb R hweq
  replace h5 := Lib.hid h5
  obtain ⟨p3, r3⟩ := hL0.get (x1.heap.size) d (by (repeat (first | with_reducible exact List.mem_cons_self | with_reducible refine List.mem_cons_of_mem _ ?_)))
  go_wp2_with fail
  with_reducible refine Calls.mono (T.out _ (htab.below hL0.bl)) ?_
  rintro e x4 ⟨rfl, hb⟩
  replace hL0 := hL0.call hb
  replace h5 := Lib.hid (h5.out.below hb)
  clear hb T
  go_wp2_with fail
  with_reducible refine Calls.mono (U.out _ _ h5.out) ?_
  rintro e x5 ⟨rfl, hb⟩
  replace hL0 := hL0.call hb
  replace h5 := Lib.hid (h5.out.below hb)
  clear hb U
  go_wp2_with fail
  with_reducible refine Calls.mono (HW.out _ (htab.below hL0.bl)) ?_
  rintro e x6 ⟨rfl, hb⟩
  replace hL0 := hL0.call hb
  replace h5 := Lib.hid (h5.out.below hb)
  clear hb HW
  go_wp2_with fail
  exact bodyPost_ret (v := .bool true) (by simp [results, Tryz.results14, go_sem]) rfl ⟨rfl, hL0.bl⟩

theorem reads_any (s : ByteArray) (w : World) (htab : Tab w) :
    Calls Tryz.prog 14 #[.string s] w fun e w' => e = .returned (.bool true) ∧ Below w.heap.size w w' := by
  obtain ⟨l, rfl⟩ : ∃ l, s = st l := ⟨s.data.toList, by cases s; rfl⟩
  rcases Nat.lt_or_ge 4200 l.length with h1 | h1
  · exact reads_big l h1 w htab
  · rcases Nat.lt_or_ge 4096 l.length with h2 | h2
    · exact reads_long l h2 h1 w htab
    · by_cases hd : isDec l
      · exact reads_good l h2 hd w htab
      · exact reads_bad l h2 hd w htab
end Go.Proofs.YthehcjfmokabfaaGreatDoor

/-
  The reference of layer 1, walks J: Pow, Bits.
-/
namespace Go.Proofs.YthehcjfmokabfaaGreatDoor.Rx
open Go.RowKit
attribute [local irreducible] tv dg cmpI txt decB nb

theorem td_one : (td 1).length = 1 := by rw [td_pos (by omega), show 1 / 10000 = 0 by rfl, td_zero]; rfl
theorem td_pow_le {a K : Nat} (ha : (td a).length ≤ K) : ∀ i, (td (a ^ i)).length ≤ K * i + 1
  | 0 => by rw [Nat.pow_zero, td_one]; omega
  | i + 1 => by
    have := td_mul_le (td_pow_le ha i) ha
    rw [Nat.pow_succ, Nat.mul_succ]; omega

set_option maxHeartbeats 4000000 in
set_option maxRecDepth 100000 in
theorem rpow_any (v : Value) (a n K : Nat) (hK : (td a).length ≤ K) (hb : K * n + 1 ≤ 1000000) (hK2 : K ≤ 1000000) (hn : n ≤ 1000000) (w : World) (ha : Rn w v a) :
    Calls Tryz.prog 71 #[v, .int .i64 (n : Int)] w fun e w' => ∃ v', e = .returned v' ∧ Rn w' v' (a ^ n) ∧ Below w.heap.size w w' := by
  have O1 := Lib.hid (fun w => rof_val 1 1 rfl (by omega) w)
  have ht := fun i => td_pow_le hK i
  have hbi : ∀ i, i ≤ n → K * i + 1 ≤ 1000000 := fun i hi => Nat.le_trans (Nat.succ_le_succ (Nat.mul_le_mul_left K hi)) hb
  have M := Lib.hid (fun i (hi : i ≤ n) vx w' (hx : Rn w' vx (a ^ i)) (hv : Rn w' v a) => rmul_any vx v (a ^ i) a (Nat.le_trans (ht i) (hbi i hi)) (by omega) w' hx hv)
  replace ha := Lib.hid ha
  clear ht hbi
  go_enter Tryz.func71, Tryz.ntmps71
  go_wp2_with fail
  with_reducible refine Calls.mono (O1.out _) ?_
  rintro e w1 ⟨v1, rfl, hv1, hb1⟩
  have hv1' := Lib.hid hv1
  clear hv1
  go_wp2_with fail
  go_loopw [5, 6] (fun u j wr => ∃ i : Nat, i ≤ n ∧ j = .int .i64 (i : Int) ∧ Rn wr u (a ^ i) ∧ Below w.heap.size w wr) (fun _ j _ => n - (intOf j).toNat)
  case atStart => exact ⟨0, Nat.zero_le _, rfl, by rw [Nat.pow_zero]; exact hv1'.out, hb1⟩
  case round =>
    obtain ⟨i, hi, rfl, hu, hbl⟩ := hrel
    rcases Nat.lt_or_ge i n with hlt | hge
    · have k1 : (i : Int) < (n : Int) := by omega
      have hib : (i : Int) ≤ 1000000 := by omega
      replace hu := Lib.hid hu
      go_wp2_with fail
      with_reducible refine Calls.mono (M.out i hi _ _ hu.out (ha.out.below hbl)) ?_
      rintro e w2 ⟨v2, rfl, hv2, hb2⟩
      replace hv2 := Lib.hid hv2
      go_wp2_with fail
      go_roundw
      case rel => exact ⟨i + 1, hlt, by first | rfl | go_num, by rw [Nat.pow_succ]; exact hv2.out, hbl.trans (hb2.mono hbl.size)⟩
      case measure => simp [intOf]; omega
    · have k1 : ¬ (i : Int) < (n : Int) := by omega
      obtain rfl : i = n := by omega
      replace hu := Lib.hid hu
      go_wp2_with fail
      go_ret
      exact ⟨_, rfl, hu.out, hbl⟩

set_option maxHeartbeats 4000000 in
set_option maxRecDepth 100000 in
theorem rbits_any (v : Value) (a : Nat) (hl : (td a).length ≤ 1000) (hnb : nb a ≤ 1000000) (w : World) (ha : Rn w v a) :
    Calls Tryz.prog 70 #[v] w fun e w' => e = .returned (.int .i64 ((nb a : Nat) : Int)) ∧ Below w.heap.size w w' := by
  have O1 := Lib.hid (fun w => rof_val 1 1 rfl (by omega) w)
  have ht : ∀ i, i ≤ nb a → (td (2 ^ i)).length ≤ 1001 := fun i hi => by
    rcases Nat.eq_zero_or_pos i with h0 | h0
    · rw [h0, Nat.pow_zero, td_one]; omega
    · have hne : a ≠ 0 := fun e => by rw [e, nb_zero] at hi; omega
      obtain ⟨k, h1, h2, -⟩ := nb_spec hne
      have h3 : 2 ^ i ≤ a + a := by
        have : 2 ^ i ≤ 2 ^ (k + 1) := Nat.pow_le_pow_right (by omega) (by omega)
        rw [Nat.pow_succ] at this; omega
      exact Nat.le_trans (td_mono h3) (td_add_le hl hl)
  have A := Lib.hid (fun i (hi : i ≤ nb a) vx w' (hx : Rn w' vx (2 ^ i)) => radd_any vx vx (2 ^ i) (2 ^ i) (Nat.le_trans (ht i hi) (by omega)) (Nat.le_trans (ht i hi) (by omega)) w' hx hx)
  have C := Lib.hid (fun i (hi : i ≤ nb a) vx w' (hx : Rn w' vx (2 ^ i)) (hv : Rn w' v a) => rcmp_any vx v (2 ^ i) a (Nat.le_trans (ht i hi) (by omega)) (by omega) w' hx hv)
  have hlow : ∀ i, i < nb a → 2 ^ i ≤ a := fun i hi => by
    have hne : a ≠ 0 := fun e => by rw [e, nb_zero] at hi; omega
    obtain ⟨k, h1, h2, -⟩ := nb_spec hne
    exact Nat.le_trans (Nat.pow_le_pow_right (by omega) (show i ≤ k by omega)) h2
  have hhigh := nb_lt a
  replace hlow := Lib.hid hlow
  replace hhigh := Lib.hid hhigh
  replace ha := Lib.hid ha
  clear ht
  obtain ⟨n, hn⟩ : ∃ n, n = nb a := ⟨_, rfl⟩
  rw [← hn] at A C hlow hhigh hnb ⊢
  clear hn
  go_enter Tryz.func70, Tryz.ntmps70
  go_wp2_with fail
  with_reducible refine Calls.mono (O1.out _) ?_
  rintro e w1 ⟨v1, rfl, hv1, hb1⟩
  have hv1' := Lib.hid hv1
  clear hv1
  go_wp2_with fail
  go_loopw [3, 4] (fun j u wr => ∃ i : Nat, i ≤ n ∧ j = .int .i64 (i : Int) ∧ Rn wr u (2 ^ i) ∧ Below w.heap.size w wr) (fun j _ _ => n - (intOf j).toNat)
  case atStart => exact ⟨0, Nat.zero_le _, rfl, by rw [Nat.pow_zero]; exact hv1'.out, hb1⟩
  case round =>
    obtain ⟨i, hi, rfl, hu, hbl⟩ := hrel
    replace hu := Lib.hid hu
    have hib : (i : Int) ≤ 1000000 := by omega
    rcases Nat.lt_or_ge i n with hlt | hge
    · have k1 : decide (cmpI (2 ^ i) a ≤ 0) = true := decide_eq_true (by have := hlow.out i hlt; unfold cmpI; split <;> (try split) <;> omega)
      have C1 := Lib.hid (fun vx w' hx hv => C.out i hi vx w' hx hv)
      generalize cmpI (2 ^ i) a = z at *
      go_wp2_with fail
      with_reducible refine Calls.mono (C1.out _ _ hu.out (ha.out.below hbl)) ?_
      rintro e w2 ⟨rfl, hb2⟩
      have hu2 := Lib.hid (hu.out.below hb2)
      have hbl2 := hbl.trans (hb2.mono hbl.size)
      clear hb2
      go_wp2_with fail
      with_reducible refine Calls.mono (A.out i hi _ _ hu2.out) ?_
      rintro e w3 ⟨v3, rfl, hv3, hb3⟩
      replace hv3 := Lib.hid hv3
      go_wp2_with fail
      go_roundw
      case rel => exact ⟨i + 1, hlt, by first | rfl | go_num, by rw [Nat.pow_succ, Nat.mul_two]; exact hv3.out, hbl2.trans (hb3.mono hbl2.size)⟩
      case measure => simp [intOf]; omega
    · obtain rfl : i = n := by omega
      have k1 : decide (cmpI (2 ^ i) a ≤ 0) = false := decide_eq_false (by rw [cmpI_gt hhigh.out]; omega)
      have C1 := Lib.hid (fun vx w' hx hv => C.out i hi vx w' hx hv)
      generalize cmpI (2 ^ i) a = z at *
      go_wp2_with fail
      with_reducible refine Calls.mono (C1.out _ _ hu.out (ha.out.below hbl)) ?_
      rintro e w2 ⟨rfl, hb2⟩
      have hbl2 := hbl.trans (hb2.mono hbl.size)
      clear hb2
      go_wp2_with fail
      go_ret
      exact ⟨rfl, hbl2⟩
end Go.Proofs.YthehcjfmokabfaaGreatDoor.Rx

/-
  The reference of layer 1, walks K: Sqrt.
-/
namespace Go.Proofs.YthehcjfmokabfaaGreatDoor.Rx
open Go.RowKit
attribute [local irreducible] tv dg cmpI txt decB nb isq

/-- What the root's digits so far are good for. -/
structure SqS (a j : Nat) (X : List Nat) : Prop where
  lt : ∀ d ∈ X, d < 10000
  zero : ∀ (k : Nat) (h : k < X.length), k < j → X[k] = 0
  low : tv X * tv X ≤ a
  high : a < (tv X + 10000 ^ j) * (tv X + 10000 ^ j)
theorem SqS.start (a m : Nat) (h : (td a).length ≤ 2 * m) : SqS a m (List.replicate m 0) := by
  refine ⟨fun d hd => by rw [(List.mem_replicate.1 hd).2]; omega, fun k h _ => by simp, by rw [tv_zeros]; omega, ?_⟩
  have := td_length.1 h
  rwa [tv_zeros, Nat.zero_add, ← Nat.pow_add, ← Nat.two_mul]
theorem tv_set0 {X : List Nat} {i : Nat} (h : i < X.length) (h0 : X[i] = 0) (d : Nat) : tv (X.set i d) = tv X + 10000 ^ i * d := by
  have := tv_set h d
  rw [h0, Nat.mul_zero, Nat.add_zero] at this
  exact this
theorem SqS.set {a i : Nat} {X : List Nat} (h : SqS a (i + 1) X) (hi : i < X.length) {d : Nat} (hd : d < 10000) (h1 : (tv X + 10000 ^ i * d) * (tv X + 10000 ^ i * d) ≤ a) (h2 : a < (tv X + 10000 ^ i * (d + 1)) * (tv X + 10000 ^ i * (d + 1))) :
    SqS a i (X.set i d) := by
  have e := tv_set0 hi (h.zero i hi (by omega)) d
  refine ⟨fun x hx => ?_, fun k hk hki => ?_, by rw [e]; exact h1, ?_⟩
  · rcases List.mem_or_eq_of_mem_set hx with hx | hx
    · exact h.lt x hx
    · rw [hx]; exact hd
  · rw [List.getElem_set_ne (by omega)]
    exact h.zero k (by rw [List.length_set] at hk; exact hk) (by omega)
  · rw [e, Nat.add_assoc, ← Nat.mul_succ]
    exact h2
theorem SqS.done {a : Nat} {X : List Nat} (h : SqS a 0 X) : tv X = isq a := isq_uniq h.low (by have := h.high; rwa [Nat.pow_zero] at this)

set_option maxHeartbeats 8000000 in
set_option maxRecDepth 100000 in
theorem rsqrt_any (v : Value) (a : Nat) (hl : (td a).length ≤ 1000) (w : World) (ha : Rn w v a) :
    Calls Tryz.prog 69 #[v] w fun e w' => ∃ v', e = .returned v' ∧ Rn w' v' (isq a) ∧ Below w.heap.size w w' := by
  obtain ⟨i0, hi, hz0, hz1, hz2⟩ := info_parts Tryz.infoI
  obtain ⟨ao, ca, ea⟩ := ha.form
  subst ea
  obtain ⟨L, hL⟩ : ∃ L, L = (td a).length := ⟨_, rfl⟩
  obtain ⟨m, hm⟩ : ∃ m, m = (L + 1) / 2 := ⟨_, rfl⟩
  have hst := SqS.start a m (by omega)
  rw [← hL] at hl ha ⊢
  have hmk : ∀ w, (Instr.makeSlice 42 (.int .i64 (((L : Int) + 1) / 2)) (.int .i64 (((L : Int) + 1) / 2))).run Tryz.prog w = .ok (.slice (some ⟨w.heap.size, 0, none⟩) m m) (w.alloc (zobjI m)) :=
    fun w => makeN w _ m (by omega) (by omega)
  have hz := Lib.hid (IB.zeros w m)
  have hmL : m ≤ 501 := by omega
  have hta : (td a).length ≤ 1000 := by rw [← hL]; exact hl
  replace hst := Lib.hid hst
  replace ha := Lib.hid ha
  replace hL := Lib.hid hL
  replace hm := Lib.hid hm
  replace hta := Lib.hid hta
  go_enter Tryz.func69, Tryz.ntmps69
  go_wp2_with fail
  go_loopw [4] (fun z wr => ∃ (j : Nat) (X : List Nat), z = .int .i64 ((j : Int) - 1) ∧ j ≤ m ∧ X.length = m ∧ SqS a j X ∧ IB wr w.heap.size X ∧ Below w.heap.size w wr) (fun z _ => (intOf z + 1).toNat)
  case atStart => exact ⟨m, _, by first | rfl | go_num, Nat.le_refl _, List.length_replicate, hst.out, hz.out, (Below.refl _ _).alloc (Nat.le_refl _) _⟩
  case round =>
    obtain ⟨j, X, rfl, hj, hXl, hS, hX, hbl⟩ := hrel
    clear hmk hz hst
    cases j with
    | zero =>
      have HT := trim_any _ X hS.lt (by rw [hXl]; omega) wr (hX.sl m (by omega))
      rw [hS.done, hXl] at HT
      replace HT := Lib.hid HT
      clear hS hX hXl
      go_wp2_with fail
      with_reducible refine Calls.mono HT.out ?_
      rintro e w1 ⟨v', rfl, hv, rfl⟩
      replace hv := Lib.hid hv
      go_wp2_with fail
      go_ret
      exact ⟨_, rfl, hv.out, hbl⟩
    | succ i =>
      have him : i < m := by omega
      have e1 : (((i + 1 : Nat) : Int) - 1) = (i : Int) := by omega
      have k1 : (i : Int) < (m : Int) := by omega
      have hib : (i : Int) ≤ 501 := by omega
      rw [e1]
      replace hXl := Lib.hid hXl
      have hlo : (tv X + 10000 ^ i * 0) * (tv X + 10000 ^ i * 0) ≤ a := by rw [Nat.mul_zero, Nat.add_zero]; exact hS.low
      have hhi : a < (tv X + 10000 ^ i * (9999 + 1)) * (tv X + 10000 ^ i * (9999 + 1)) := by have := hS.high; rwa [Nat.pow_succ] at this
      replace hS := Lib.hid hS
      replace hX := Lib.hid hX
      replace hlo := Lib.hid hlo
      replace hhi := Lib.hid hhi
      go_wp2_with fail
      go_loopw [5, 6] (fun lv hv wx => ∃ (l h : Nat), lv = .int .i64 (l : Int) ∧ hv = .int .i64 (h : Int) ∧ l ≤ h ∧ h ≤ 9999 ∧ (tv X + 10000 ^ i * l) * (tv X + 10000 ^ i * l) ≤ a ∧ a < (tv X + 10000 ^ i * (h + 1)) * (tv X + 10000 ^ i * (h + 1)) ∧ IB wx w.heap.size X ∧ Below w.heap.size w wx) (fun lv hv _ => (intOf hv - intOf lv).toNat)
      case atStart => exact ⟨0, 9999, rfl, rfl, by omega, Nat.le_refl _, hlo.out, hhi.out, hX.out, hbl⟩
      case round =>
        obtain ⟨l, h, rfl, rfl, hlh, hh9, hq1, hq2, hXb, hbl2⟩ := hrel
        replace hq1 := Lib.hid hq1
        replace hq2 := Lib.hid hq2
        have hcf := hXb.frozen i
        have hcc := hXb.cell i (by rw [hXl.out]; exact him)
        rcases Nat.lt_or_ge l h with hlt | hge
        · have k2 : (l : Int) < (h : Int) := by omega
          obtain ⟨mid, hmid⟩ : ∃ mid, mid = (l + h + 1) / 2 := ⟨_, rfl⟩
          have hmv : ((l : Int) + (h : Int) + 1) / 2 = (mid : Int) := by omega
          have hm1 : l < mid := by omega
          have hm2 : mid ≤ h := by omega
          replace hmid := Lib.hid hmid
          have hnews : ∀ (j : Nat) (u : Value), (X.map iv)[j]? = some u → (wr.alloc (.cells #[] 3)).cell? ((⟨w.heap.size, 0, none⟩ : Addr).add j) = some u := by
            intro j u hju
            rw [List.getElem?_map] at hju
            obtain ⟨x, hx, rfl⟩ := Option.map_eq_some_iff.1 hju
            obtain ⟨hjl, rfl⟩ := List.getElem?_eq_some_iff.1 hx
            rw [add0, World.cell?_alloc_lt _ _ _ hXb.lt]
            exact hXb.cell j hjl
          have hone : ∀ u ∈ X.map iv, u.oneCell' = true := fun u hu => by
            obtain ⟨x, -, rfl⟩ := List.mem_map.1 hu
            rfl
          have hlen : (X.map iv).length = m * 1 := by rw [List.length_map, hXl.out, Nat.mul_one]
          have hXi0 : X[i]'(by rw [hXl.out]; exact him) = 0 := hS.out.zero i (by rw [hXl.out]; exact him) (by omega)
          have hyv : tv (X.set i mid) = tv X + 10000 ^ i * mid := tv_set0 (by rw [hXl.out]; exact him) hXi0 mid
          have hXm : ∀ d ∈ X.set i mid, d < 10000 := fun x hx => by
            rcases List.mem_or_eq_of_mem_set hx with hx | hx
            · exact hS.out.lt x hx
            · omega
          have hsl : (X.set i mid).length = m := by rw [List.length_set]; exact hXl.out
          have htdy : (td (tv (X.set i mid))).length ≤ m := td_length.2 (by have := tv_lt hXm; rwa [hsl] at this)
          have hmap : (X.map iv).set i (.int .i64 (mid : Int)) = (X.set i mid).map iv := by rw [List.map_set]
          have hci : (X.map iv)[i]? = some (.int .i64 0) := by rw [List.getElem?_map, List.getElem?_eq_getElem (by rw [hXl.out]; exact him), Option.map_some, hXi0]; rfl
          obtain ⟨y, hy⟩ : ∃ y, y = tv X + 10000 ^ i * mid := ⟨_, rfl⟩
          rw [hyv, ← hy] at htdy
          rw [← hy] at hyv
          have T := Lib.hid (fun (g' cap : Nat) (wx : World) (h : Sl wx (.slice (some ⟨g', 0, none⟩) (X.set i mid).length cap) (X.set i mid)) => trim_any (.slice (some ⟨g', 0, none⟩) (X.set i mid).length cap) (X.set i mid) hXm (by rw [hsl]; omega) wx h)
          rw [hyv, hsl] at T
          have M := Lib.hid (fun vx wx (h : Rn wx vx y) => rmul_any vx vx y y (by omega) (by omega) wx h h)
          have C := Lib.hid (fun vx wx (h : Rn wx vx (y * y)) (h2 : Rn wx (.slice ao L ca) a) => rcmp_any vx (.slice ao L ca) (y * y) a (Nat.le_trans (td_mul_le htdy htdy) (by omega)) (Nat.le_trans hta.out (by omega)) wx h h2)
          have hmidy : mid = (mid - 1) + 1 := by omega
          replace hnews := Lib.hid hnews
          replace hone := Lib.hid hone
          replace hlen := Lib.hid hlen
          replace hmap := Lib.hid hmap
          replace hy := Lib.hid hy
          replace hmidy := Lib.hid hmidy
          have hsl' := Lib.hid hsl
          have hlt8 := hXb.lt
          replace hXb := Lib.hid hXb
          clear hXi0 hyv hXm hsl htdy hcf hcc
          replace hci := Lib.hid hci
          replace hmv := Lib.hid hmv
          go_wp2_with (at_builtin; refine wpList_append_own _ rfl _ _ 42 rfl wr.heap.size 3 i0 (.int .i64 0) 1 8 Tryz.underlying42 hi hz0 hz1 hz2 rfl (by decide) _ _ _ rfl (World.ownsRow_made wr #[] 0 (Nat.le_refl _) (Nat.zero_le _) rfl) ⟨w.heap.size, 0, none⟩ m m (X.map iv) rfl hlen.out hnews.out hone.out (by unfold maxLen; omega) (by omega) (by simp) ?_)
          rw [hmv.out]
          intro v' w1 hown' hgrow _
          try simp only [Nat.zero_add, List.nil_append] at hown'
          have hw1 : Below wr.heap.size wr w1 := ((Below.refl _ _).alloc (Nat.le_refl _) _).grown hgrow (by simp) (fun j hj => by simp [Value.ownBlock] at hj; omega)
          rcases hown'.2 with ⟨-, h0⟩ | ⟨g', cap', cur, rfl, hg', -⟩
          · omega
          have hc1 := (hown'.cellAt i (by omega)).trans hci.out
          have hf1 := hown'.frozenAt i
          have hst := (hown'.stored i (.int .i64 (mid : Int))).1
          rw [hmap.out] at hst
          have hsx := Lib.hid (Sl.owned hst hsl'.out.symm)
          have hb1 := hw1.setCell (p := ⟨g', i, none⟩) hg' (.int .i64 (mid : Int))
          generalize hW : w1.setCell ⟨g', i, none⟩ (.int .i64 (mid : Int)) = W at hsx hb1
          clear hst hown' hgrow hw1
          go_wp2_with fail
          with_reducible refine Calls.mono (T.out g' cap' W hsx.out) ?_
          rintro e w2 ⟨v2, rfl, hv2, rfl⟩
          replace hv2 := Lib.hid hv2
          clear hW hc1 hf1
          go_wp2_with fail
          with_reducible refine Calls.mono (M.out _ _ hv2.out) ?_
          rintro e w3 ⟨v3, rfl, hv3, hb3⟩
          replace hv3 := Lib.hid hv3
          have hB3 := hb1.trans (hb3.mono hb1.size)
          have hD3 := hbl2.trans (hB3.mono hbl2.size)
          by_cases hle : y * y ≤ a
          · have k3 : decide (cmpI (y * y) a ≤ 0) = true := decide_eq_true (by unfold cmpI; split <;> (try split) <;> omega)
            have C1 := Lib.hid (fun vx wx h h2 => C.out vx wx h h2)
            replace hle := Lib.hid hle
            generalize cmpI (y * y) a = z at *
            go_wp2_with fail
            with_reducible refine Calls.mono (C1.out _ _ hv3.out (ha.out.below hD3)) ?_
            rintro e w4 ⟨rfl, hb4⟩
            have hB4 := hB3.trans (hb4.mono hB3.size)
            have hD4 := hD3.trans (hb4.mono hD3.size)
            clear hb4 hb3 hB3 hD3 hb1
            go_wp2_with fail
            go_roundw
            case rel => exact ⟨mid, h, rfl, rfl, hm2, hh9, (by rw [← hy.out]; exact hle.out), hq2.out, hXb.out.below hB4 hlt8, hD4⟩
            case measure => simp [intOf]; omega
          · have k3 : decide (cmpI (y * y) a ≤ 0) = false := decide_eq_false (by rw [cmpI_gt (by omega)]; omega)
            have C1 := Lib.hid (fun vx wx h h2 => C.out vx wx h h2)
            replace hle := Lib.hid hle
            generalize cmpI (y * y) a = z at *
            go_wp2_with fail
            with_reducible refine Calls.mono (C1.out _ _ hv3.out (ha.out.below hD3)) ?_
            rintro e w4 ⟨rfl, hb4⟩
            have hB4 := hB3.trans (hb4.mono hB3.size)
            have hD4 := hD3.trans (hb4.mono hD3.size)
            clear hb4 hb3 hB3 hD3 hb1
            go_wp2_with fail
            go_roundw
            case rel => exact ⟨l, mid - 1, rfl, by first | rfl | go_num, by omega, by omega, hq1.out, (by rw [← hmidy.out, ← hy.out]; have := hle.out; omega), hXb.out.below hB4 hlt8, hD4⟩
            case measure => simp [intOf]; omega
        · obtain rfl : l = h := by omega
          have k2 : ¬ (l : Int) < (l : Int) := by omega
          have hnx := Lib.hid (hS.out.set (by rw [hXl.out]; exact him) (by omega) hq1.out hq2.out)
          have hXs := Lib.hid (hXb.set i l)
          clear hXb hq1 hq2
          go_wp2_with fail
          go_roundw
          case rel => exact ⟨i, X.set i l, by first | rfl | go_num, by omega, by rw [List.length_set]; exact hXl.out, hnx.out, hXs.out, hbl2.setCell (Nat.le_refl _) _⟩
          case measure => simp [intOf]
end Go.Proofs.YthehcjfmokabfaaGreatDoor.Rx
