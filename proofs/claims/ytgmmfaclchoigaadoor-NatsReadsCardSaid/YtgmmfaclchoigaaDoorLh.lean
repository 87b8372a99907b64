/-
  Layer 1, law H: NatsReads.
-/
import Derived.Test.YtgmmfaclchoigaaDoorRk
import Derived.Test.YtgmmfaclchoigaaDoorLf
set_option linter.unusedVariables false
set_option linter.unusedSimpArgs false
namespace Go.Proofs.YtgmmfaclchoigaaDoor
open Go.RowKit
attribute [local irreducible] lo hs sm s64 c64 d64 b64 mh ml pd pc qd qc val hiB str cmpI srD lz nb isq decB txt

theorem dval_digs {l : List UInt8} (h : ∀ c ∈ l, isDig c) : (digs (dval l)).length ≤ l.length :=
  digs_length_iff.2 (Nat.lt_of_lt_of_le (dval_lt h) (Nat.pow_le_pow_left (by unfold Bs; decide) _))
theorem dval_td {l : List UInt8} (h : ∀ c ∈ l, isDig c) : (Rx.td (dval l)).length ≤ l.length :=
  Rx.td_length.2 (Nat.lt_of_lt_of_le (dval_lt h) (Nat.pow_le_pow_left (by decide) _))
theorem dval_txt {l : List UInt8} (h : isDec l) : txt (dval l) = st l := by rw [txt_st, dec_dval h]

set_option maxHeartbeats 4000000 in
set_option maxRecDepth 100000 in
theorem reads_big (l : List UInt8) (h : 4200 < l.length) (w : World) (htab : Tab w) :
    Calls Tryd.prog 6 #[.string (st l)] w fun e w' => e = .returned (.bool true) ∧ Below w.heap.size w w' := by
  have k1 : decide ((4200 : Int) < ((st l).size : Int)) = true := decide_eq_true (by rw [st_size]; omega)
  have k2 : decide (4200 < (st l).size) = true := decide_eq_true (by rw [st_size]; omega)
  have HW := Lib.hid (works_any w htab)
  have hL0 : NL w w [] := NL.start w
  generalize st l = s at *
  go_enter Tryd.func6, Tryd.ntmps6
  go_wp2_with fail
  with_reducible refine Calls.mono HW.out ?_
  rintro e x1 ⟨rfl, hb⟩
  replace hL0 := hL0.call hb
  clear hb HW
  go_wp2_with fail
  exact bodyPost_ret (v := .bool true) (by simp [results, Tryd.results6, go_sem]) rfl ⟨rfl, hL0.bl⟩

set_option maxHeartbeats 4000000 in
set_option maxRecDepth 100000 in
theorem reads_long (l : List UInt8) (h : 4096 < l.length) (h2 : l.length ≤ 4200) (w : World) (htab : Tab w) :
    Calls Tryd.prog 6 #[.string (st l)] w fun e w' => e = .returned (.bool true) ∧ Below w.heap.size w w' := by
  have P := fun w => parse_long l h (by omega) w
  have R := fun w => Rx.rparse_long l h (by omega) w
  have k1 : decide ((4200 : Int) < ((st l).size : Int)) = false := decide_eq_false (by rw [st_size]; omega)
  have k2 : decide (4200 < (st l).size) = false := decide_eq_false (by rw [st_size]; omega)
  generalize st l = s at *
  replace P := Lib.hid P
  replace R := Lib.hid R
  clear h
  have HW := Lib.hid (fun w h => works_any w h)
  have z1 : (((lo 0 : Nat) : Int) == 0) = true := by rw [lo_zero]; rfl
  have z2 : ((hs 0).toList == []) = true := by rw [hs_zero, ByteArray.toList_eq]; rfl
  have hL0 : NL w w [] := NL.start w
  go_enter Tryd.func6, Tryd.ntmps6
  go_wp2_with fail
  with_reducible refine Calls.mono (P.out _) ?_
  rintro e x1 ⟨rfl, hb⟩
  replace hL0 := hL0.call hb
  clear hb P
  replace hL0 := (hL0.new rfl 0 26)
  generalize hweq : (x1.alloc (.cells #[.int .u64 ((lo 0 : Nat) : Int), .string (hs 0)] 26)) = x2 at hL0
  go_wp2_with fail
  with_reducible refine Calls.mono (R.out _) ?_
  rintro e x3 ⟨rfl, hb⟩
  replace hL0 := hL0.call hb
  clear hb R hweq
  obtain ⟨p1, r1⟩ := hL0.get (x1.heap.size) 0 (by (first | with_reducible exact List.mem_cons_self | with_reducible exact (List.mem_cons_of_mem _ List.mem_cons_self) | with_reducible exact (List.mem_cons_of_mem _ (List.mem_cons_of_mem _ List.mem_cons_self)) | with_reducible exact (List.mem_cons_of_mem _ (List.mem_cons_of_mem _ (List.mem_cons_of_mem _ List.mem_cons_self))) | with_reducible exact (List.mem_cons_of_mem _ (List.mem_cons_of_mem _ (List.mem_cons_of_mem _ (List.mem_cons_of_mem _ List.mem_cons_self)))) | with_reducible exact (List.mem_cons_of_mem _ (List.mem_cons_of_mem _ (List.mem_cons_of_mem _ (List.mem_cons_of_mem _ (List.mem_cons_of_mem _ List.mem_cons_self))))) | with_reducible exact (List.mem_cons_of_mem _ (List.mem_cons_of_mem _ (List.mem_cons_of_mem _ (List.mem_cons_of_mem _ (List.mem_cons_of_mem _ (List.mem_cons_of_mem _ List.mem_cons_self)))))) | with_reducible exact (List.mem_cons_of_mem _ (List.mem_cons_of_mem _ (List.mem_cons_of_mem _ (List.mem_cons_of_mem _ (List.mem_cons_of_mem _ (List.mem_cons_of_mem _ (List.mem_cons_of_mem _ List.mem_cons_self))))))) | with_reducible exact (List.mem_cons_of_mem _ (List.mem_cons_of_mem _ (List.mem_cons_of_mem _ (List.mem_cons_of_mem _ (List.mem_cons_of_mem _ (List.mem_cons_of_mem _ (List.mem_cons_of_mem _ (List.mem_cons_of_mem _ List.mem_cons_self)))))))) | with_reducible exact (List.mem_cons_of_mem _ (List.mem_cons_of_mem _ (List.mem_cons_of_mem _ (List.mem_cons_of_mem _ (List.mem_cons_of_mem _ (List.mem_cons_of_mem _ (List.mem_cons_of_mem _ (List.mem_cons_of_mem _ (List.mem_cons_of_mem _ List.mem_cons_self))))))))) | with_reducible exact (List.mem_cons_of_mem _ (List.mem_cons_of_mem _ (List.mem_cons_of_mem _ (List.mem_cons_of_mem _ (List.mem_cons_of_mem _ (List.mem_cons_of_mem _ (List.mem_cons_of_mem _ (List.mem_cons_of_mem _ (List.mem_cons_of_mem _ (List.mem_cons_of_mem _ List.mem_cons_self)))))))))) | with_reducible exact (List.mem_cons_of_mem _ (List.mem_cons_of_mem _ (List.mem_cons_of_mem _ (List.mem_cons_of_mem _ (List.mem_cons_of_mem _ (List.mem_cons_of_mem _ (List.mem_cons_of_mem _ (List.mem_cons_of_mem _ (List.mem_cons_of_mem _ (List.mem_cons_of_mem _ (List.mem_cons_of_mem _ List.mem_cons_self)))))))))))))
  go_wp2_with fail
  with_reducible refine Calls.mono (HW.out _ (htab.below hL0.bl)) ?_
  rintro e x4 ⟨rfl, hb⟩
  replace hL0 := hL0.call hb
  clear hb HW
  go_wp2_with fail
  exact bodyPost_ret (v := .bool true) (by simp [results, Tryd.results6, go_sem]) rfl ⟨rfl, hL0.bl⟩

set_option maxHeartbeats 4000000 in
set_option maxRecDepth 100000 in
theorem reads_bad (l : List UInt8) (h : l.length ≤ 4096) (hd : ¬ isDec l) (w : World) (htab : Tab w) :
    Calls Tryd.prog 6 #[.string (st l)] w fun e w' => e = .returned (.bool true) ∧ Below w.heap.size w w' := by
  have P := fun w => parse_form l h hd w
  have R : ∀ w, Calls Tryd.prog 34 #[.string (st l)] w fun e w' => e = .returned (.tuple #[.slice none 0 0, .int .i64 4]) ∧ Below w.heap.size w w' := fun w => (Rx.rparse_any l h w).mono fun e w' ⟨h1, h2⟩ => by
    rcases h1 with ⟨h1, -⟩ | ⟨-, h1⟩
    · exact absurd h1 hd
    · exact ⟨h1, h2⟩
  have k1 : decide ((4200 : Int) < ((st l).size : Int)) = false := decide_eq_false (by rw [st_size]; omega)
  have k2 : decide (4200 < (st l).size) = false := decide_eq_false (by rw [st_size]; omega)
  generalize st l = s at *
  replace P := Lib.hid P
  replace R := Lib.hid R
  clear h hd
  have HW := Lib.hid (fun w h => works_any w h)
  have z1 : (((lo 0 : Nat) : Int) == 0) = true := by rw [lo_zero]; rfl
  have z2 : ((hs 0).toList == []) = true := by rw [hs_zero, ByteArray.toList_eq]; rfl
  have hL0 : NL w w [] := NL.start w
  go_enter Tryd.func6, Tryd.ntmps6
  go_wp2_with fail
  with_reducible refine Calls.mono (P.out _) ?_
  rintro e x1 ⟨rfl, hb⟩
  replace hL0 := hL0.call hb
  clear hb P
  replace hL0 := (hL0.new rfl 0 26)
  generalize hweq : (x1.alloc (.cells #[.int .u64 ((lo 0 : Nat) : Int), .string (hs 0)] 26)) = x2 at hL0
  go_wp2_with fail
  with_reducible refine Calls.mono (R.out _) ?_
  rintro e x3 ⟨rfl, hb⟩
  replace hL0 := hL0.call hb
  clear hb R hweq
  obtain ⟨p2, r2⟩ := hL0.get (x1.heap.size) 0 (by (first | with_reducible exact List.mem_cons_self | with_reducible exact (List.mem_cons_of_mem _ List.mem_cons_self) | with_reducible exact (List.mem_cons_of_mem _ (List.mem_cons_of_mem _ List.mem_cons_self)) | with_reducible exact (List.mem_cons_of_mem _ (List.mem_cons_of_mem _ (List.mem_cons_of_mem _ List.mem_cons_self))) | with_reducible exact (List.mem_cons_of_mem _ (List.mem_cons_of_mem _ (List.mem_cons_of_mem _ (List.mem_cons_of_mem _ List.mem_cons_self)))) | with_reducible exact (List.mem_cons_of_mem _ (List.mem_cons_of_mem _ (List.mem_cons_of_mem _ (List.mem_cons_of_mem _ (List.mem_cons_of_mem _ List.mem_cons_self))))) | with_reducible exact (List.mem_cons_of_mem _ (List.mem_cons_of_mem _ (List.mem_cons_of_mem _ (List.mem_cons_of_mem _ (List.mem_cons_of_mem _ (List.mem_cons_of_mem _ List.mem_cons_self)))))) | with_reducible exact (List.mem_cons_of_mem _ (List.mem_cons_of_mem _ (List.mem_cons_of_mem _ (List.mem_cons_of_mem _ (List.mem_cons_of_mem _ (List.mem_cons_of_mem _ (List.mem_cons_of_mem _ List.mem_cons_self))))))) | with_reducible exact (List.mem_cons_of_mem _ (List.mem_cons_of_mem _ (List.mem_cons_of_mem _ (List.mem_cons_of_mem _ (List.mem_cons_of_mem _ (List.mem_cons_of_mem _ (List.mem_cons_of_mem _ (List.mem_cons_of_mem _ List.mem_cons_self)))))))) | with_reducible exact (List.mem_cons_of_mem _ (List.mem_cons_of_mem _ (List.mem_cons_of_mem _ (List.mem_cons_of_mem _ (List.mem_cons_of_mem _ (List.mem_cons_of_mem _ (List.mem_cons_of_mem _ (List.mem_cons_of_mem _ (List.mem_cons_of_mem _ List.mem_cons_self))))))))) | with_reducible exact (List.mem_cons_of_mem _ (List.mem_cons_of_mem _ (List.mem_cons_of_mem _ (List.mem_cons_of_mem _ (List.mem_cons_of_mem _ (List.mem_cons_of_mem _ (List.mem_cons_of_mem _ (List.mem_cons_of_mem _ (List.mem_cons_of_mem _ (List.mem_cons_of_mem _ List.mem_cons_self)))))))))) | with_reducible exact (List.mem_cons_of_mem _ (List.mem_cons_of_mem _ (List.mem_cons_of_mem _ (List.mem_cons_of_mem _ (List.mem_cons_of_mem _ (List.mem_cons_of_mem _ (List.mem_cons_of_mem _ (List.mem_cons_of_mem _ (List.mem_cons_of_mem _ (List.mem_cons_of_mem _ (List.mem_cons_of_mem _ List.mem_cons_self)))))))))))))
  go_wp2_with fail
  with_reducible refine Calls.mono (HW.out _ (htab.below hL0.bl)) ?_
  rintro e x4 ⟨rfl, hb⟩
  replace hL0 := hL0.call hb
  clear hb HW
  go_wp2_with fail
  exact bodyPost_ret (v := .bool true) (by simp [results, Tryd.results6, go_sem]) rfl ⟨rfl, hL0.bl⟩

set_option maxHeartbeats 4000000 in
set_option maxRecDepth 100000 in
theorem reads_good (l : List UInt8) (h : l.length ≤ 4096) (hd : isDec l) (w : World) (htab : Tab w) :
    Calls Tryd.prog 6 #[.string (st l)] w fun e w' => e = .returned (.bool true) ∧ Below w.heap.size w w' := by
  have P := fun w => parse_ok l h hd w
  have R : ∀ w, Calls Tryd.prog 34 #[.string (st l)] w fun e w' => ∃ v, e = .returned (.tuple #[v, .int .i64 0]) ∧ Rx.Rn w' v (dval l) ∧ Below w.heap.size w w' := fun w => (Rx.rparse_any l h w).mono fun e w' ⟨h1, h2⟩ => by
    rcases h1 with ⟨-, v, h3, h4⟩ | ⟨h1, -⟩
    · exact ⟨v, h3, h4, h2⟩
    · exact absurd hd h1
  have T := fun w ht => text_any (dval l) (Nat.le_trans (dval_digs hd.1) (by omega)) w ht
  have U := fun v w hv => Rx.rtext_any v (dval l) (Nat.le_trans (dval_td hd.1) (by omega)) w hv
  rw [dval_txt hd] at T U
  have k1 : decide ((4200 : Int) < ((st l).size : Int)) = false := decide_eq_false (by rw [st_size]; omega)
  have k2 : decide (4200 < (st l).size) = false := decide_eq_false (by rw [st_size]; omega)
  generalize dval l = d at *
  generalize st l = s at *
  replace P := Lib.hid P
  replace R := Lib.hid R
  replace T := Lib.hid T
  replace U := Lib.hid U
  clear h hd
  have HW := Lib.hid (fun w h => works_any w h)
  have hL0 : NL w w [] := NL.start w
  go_enter Tryd.func6, Tryd.ntmps6
  go_wp2_with fail
  with_reducible refine Calls.mono (P.out _) ?_
  rintro e x1 ⟨rfl, hb⟩
  replace hL0 := hL0.call hb
  clear hb P
  replace hL0 := (hL0.new rfl d 26)
  generalize hweq : (x1.alloc (.cells #[.int .u64 ((lo d : Nat) : Int), .string (hs d)] 26)) = x2 at hL0
  go_wp2_with fail
  with_reducible refine Calls.mono (R.out _) ?_
  rintro e x3 ⟨v5, rfl, h5, hb⟩
  replace hL0 := hL0.call hb
  clear hb R hweq
  replace h5 := Lib.hid h5
  obtain ⟨p3, r3⟩ := hL0.get (x1.heap.size) d (by (first | with_reducible exact List.mem_cons_self | with_reducible exact (List.mem_cons_of_mem _ List.mem_cons_self) | with_reducible exact (List.mem_cons_of_mem _ (List.mem_cons_of_mem _ List.mem_cons_self)) | with_reducible exact (List.mem_cons_of_mem _ (List.mem_cons_of_mem _ (List.mem_cons_of_mem _ List.mem_cons_self))) | with_reducible exact (List.mem_cons_of_mem _ (List.mem_cons_of_mem _ (List.mem_cons_of_mem _ (List.mem_cons_of_mem _ List.mem_cons_self)))) | with_reducible exact (List.mem_cons_of_mem _ (List.mem_cons_of_mem _ (List.mem_cons_of_mem _ (List.mem_cons_of_mem _ (List.mem_cons_of_mem _ List.mem_cons_self))))) | with_reducible exact (List.mem_cons_of_mem _ (List.mem_cons_of_mem _ (List.mem_cons_of_mem _ (List.mem_cons_of_mem _ (List.mem_cons_of_mem _ (List.mem_cons_of_mem _ List.mem_cons_self)))))) | with_reducible exact (List.mem_cons_of_mem _ (List.mem_cons_of_mem _ (List.mem_cons_of_mem _ (List.mem_cons_of_mem _ (List.mem_cons_of_mem _ (List.mem_cons_of_mem _ (List.mem_cons_of_mem _ List.mem_cons_self))))))) | with_reducible exact (List.mem_cons_of_mem _ (List.mem_cons_of_mem _ (List.mem_cons_of_mem _ (List.mem_cons_of_mem _ (List.mem_cons_of_mem _ (List.mem_cons_of_mem _ (List.mem_cons_of_mem _ (List.mem_cons_of_mem _ List.mem_cons_self)))))))) | with_reducible exact (List.mem_cons_of_mem _ (List.mem_cons_of_mem _ (List.mem_cons_of_mem _ (List.mem_cons_of_mem _ (List.mem_cons_of_mem _ (List.mem_cons_of_mem _ (List.mem_cons_of_mem _ (List.mem_cons_of_mem _ (List.mem_cons_of_mem _ List.mem_cons_self))))))))) | with_reducible exact (List.mem_cons_of_mem _ (List.mem_cons_of_mem _ (List.mem_cons_of_mem _ (List.mem_cons_of_mem _ (List.mem_cons_of_mem _ (List.mem_cons_of_mem _ (List.mem_cons_of_mem _ (List.mem_cons_of_mem _ (List.mem_cons_of_mem _ (List.mem_cons_of_mem _ List.mem_cons_self)))))))))) | with_reducible exact (List.mem_cons_of_mem _ (List.mem_cons_of_mem _ (List.mem_cons_of_mem _ (List.mem_cons_of_mem _ (List.mem_cons_of_mem _ (List.mem_cons_of_mem _ (List.mem_cons_of_mem _ (List.mem_cons_of_mem _ (List.mem_cons_of_mem _ (List.mem_cons_of_mem _ (List.mem_cons_of_mem _ List.mem_cons_self)))))))))))))
  go_wp2_with fail
  with_reducible refine Calls.mono (T.out _ (htab.below hL0.bl)) ?_
  rintro e x4 ⟨rfl, hb⟩
  replace hL0 := hL0.call hb
  replace h5 := Lib.hid (h5.out.below hb)
  clear hb T
  go_wp2_with fail
  with_reducible refine Calls.mono (U.out _ _ h5.out) ?_
  rintro e x5 ⟨rfl, hb⟩
  replace hL0 := hL0.call hb
  replace h5 := Lib.hid (h5.out.below hb)
  clear hb U
  go_wp2_with fail
  with_reducible refine Calls.mono (HW.out _ (htab.below hL0.bl)) ?_
  rintro e x6 ⟨rfl, hb⟩
  replace hL0 := hL0.call hb
  replace h5 := Lib.hid (h5.out.below hb)
  clear hb HW
  go_wp2_with fail
  exact bodyPost_ret (v := .bool true) (by simp [results, Tryd.results6, go_sem]) rfl ⟨rfl, hL0.bl⟩

theorem reads_any (s : ByteArray) (w : World) (htab : Tab w) :
    Calls Tryd.prog 6 #[.string s] w fun e w' => e = .returned (.bool true) ∧ Below w.heap.size w w' := by
  obtain ⟨l, rfl⟩ : ∃ l, s = st l := ⟨s.data.toList, by cases s; rfl⟩
  rcases Nat.lt_or_ge 4200 l.length with h1 | h1
  · exact reads_big l h1 w htab
  · rcases Nat.lt_or_ge 4096 l.length with h2 | h2
    · exact reads_long l h2 h1 w htab
    · by_cases hd : isDec l
      · exact reads_good l h2 hd w htab
      · exact reads_bad l h2 hd w htab
end Go.Proofs.YtgmmfaclchoigaaDoor
