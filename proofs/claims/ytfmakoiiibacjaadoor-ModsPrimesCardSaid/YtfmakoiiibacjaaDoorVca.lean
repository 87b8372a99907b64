/-
  The law answers true at every input, and leaves its arguments as they were: a part of the proof. CONDITIONS: the package-level tables start as the program's text lays them (the card ties them).
-/
import Derived.Test.YtfmakoiiibacjaaDoorZaf
set_option linter.unusedVariables false
set_option linter.unusedSimpArgs false
namespace Go.Proofs.YtfmakoiiibacjaaDoor
/-- What the reference's loop has found. -/
theorem pr_by_trial {n d : Nat} (h1 : 1 < n) (hlo : ∀ i, 2 ≤ i → i < d → ¬ i ∣ n) (hd : n < d * d) : isPr n := by
  refine ⟨h1, fun c hc => ?_⟩
  by_cases k1 : c = 1
  · exact .inl k1
  by_cases kn : c = n
  · exact .inr kn
  exfalso
  obtain ⟨e, he⟩ := hc
  have hc0 : 0 < c := by rcases Nat.eq_zero_or_pos c with rfl | g; · omega
                         · exact g
  have he1 : e ≠ 1 := by rintro rfl; omega
  have he0 : 0 < e := by rcases Nat.eq_zero_or_pos e with rfl | g; · omega
                         · exact g
  rcases Nat.lt_or_ge c d with g | g
  · exact hlo c (by omega) g ⟨e, he⟩
  · rcases Nat.lt_or_ge e d with k | k
    · exact hlo e (by omega) k ⟨c, by rw [Nat.mul_comm]; exact he⟩
    · have := Nat.mul_le_mul g k; omega
noncomputable def nextQ (n : Nat) : Nat := (IsNext.ex n).choose.1
noncomputable def nextE (n : Nat) : Int := (IsNext.ex n).choose.2
theorem next_is (n : Nat) : IsNext n (nextQ n) (nextE n) := (IsNext.ex n).choose_spec
end Go.Proofs.YtfmakoiiibacjaaDoor
namespace Go.Proofs.YtfmakoiiibacjaaDoor
open Go.RowKit
attribute [local irreducible] rsd subN invV invB prB nextQ nextE
theorem next_any (n : Nat) (hn : n < 4294967296) (w : World) (hT : T32 w) :
  Calls Tryd.prog 8 #[.int .u32 (n : Int)] w fun e w' => e = .returned (.tuple #[.int .u32 ((nextQ n : Nat) : Int), .int .i64 (nextE n)]) ∧ Below w.heap.size w w' := next_is_any n _ _ hn (next_is n) w hT
end Go.Proofs.YtfmakoiiibacjaaDoor
namespace Go.Proofs.YtfmakoiiibacjaaDoor
open Go.RowKit
attribute [local irreducible] subN invV invB prB nextQ nextE
attribute [local irreducible] rsd
set_option maxHeartbeats 4000000 in
set_option maxRecDepth 100000 in
theorem rprime_any (n : Nat) (hn : n < 4294967296) (w : World) :
  Calls Tryd.prog 11 #[.int .u32 (n : Int)] w fun e w' => e = .returned (.bool (prB n)) ∧ Below w.heap.size w w' := by
 have h1 : (n : Int) % 18446744073709551616 = (n : Int) := by omega
 go_enter Tryd.func11, Tryd.ntmps11
 go_wp2_with fail
 go_loopw [3] (fun dv wr => ∃ d : Nat, dv = .int .u64 (d : Int) ∧ 2 ≤ d ∧ d ≤ 65536 ∧ (∀ i, 2 ≤ i → i < d → ¬ i ∣ n) ∧ Below w.heap.size w wr) (fun dv _ => 65537 - (intOf dv).toNat)
 case atStart => exact ⟨2, rfl, Nat.le_refl _, by omega, fun i g1 g2 => by omega, Below.refl _ _⟩
 case round =>
  obtain ⟨d, rfl, h2, hd, hlo, hbl⟩ := hrel
  have hq : (d : Int) * (d : Int) = ((d * d : Nat) : Int) := by push_cast; rfl
  have hm := Nat.mul_le_mul hd hd
  have hql : ((d * d : Nat) : Int) % 18446744073709551616 = ((d * d : Nat) : Int) := by omega
  rcases Nat.lt_or_ge n (d * d) with hlt | hge
  ·have hr : decide ((1 : Int) < (n : Int)) = prB n := by
    rcases Nat.lt_or_ge 1 n with g | g
    ·rw [prB_of (pr_by_trial g hlo hlt)]; exact decide_eq_true (by omega)
    ·rw [prB_no (fun h => by have := h.1; omega)]; exact decide_eq_false (by omega)
   have k1 : ¬ ((d * d : Nat) : Int) ≤ (n : Int) := by omega
   replace hr := Lib.hid hr
   replace hlo := Lib.hid hlo
   generalize d * d = q at *
   go_wp2_with fail
   go_ret
   exact ⟨by rw [← hr.out]; rfl, hbl⟩
  ·have k1 : ((d * d : Nat) : Int) ≤ (n : Int) := by omega
   have hds : d < 65536 := by
    rcases Nat.lt_or_ge d 65536 with g | g
    ·exact g
    ·have := Nat.mul_le_mul g g; omega
   have hdn : d < n := by have := Nat.mul_le_mul h2 (Nat.le_refl d); omega
   have hr : (n : Int) % (d : Int) = ((n % d : Nat) : Int) := by push_cast; rfl
   have e3 : ((d : Int) == 0) = false := by simp; omega
   have e5 : (d : Int) ≠ 0 := by omega
   by_cases hdv : d ∣ n
   ·have hz : n % d = 0 := Nat.mod_eq_zero_of_dvd hdv
    have hp := prB_no (not_pr_dvd hdv h2 hdn)
    rw [hz] at hr
    replace hlo := Lib.hid hlo
    replace hdv := Lib.hid hdv
    replace hp := Lib.hid hp
    clear hz
    generalize d * d = q at *
    go_wp2_with fail
    go_ret
    exact ⟨by rw [hp.out]; rfl, hbl⟩
   ·have hnz : n % d ≠ 0 := fun g => hdv (Nat.dvd_of_mod_eq_zero g)
    have hlo2 : ∀ i, 2 ≤ i → i < d + 1 → ¬ i ∣ n := fun i g1 g2 => by
     rcases Nat.lt_or_ge i d with g | g
     ·exact hlo i g1 g
     ·obtain rfl : i = d := by omega
      exact hdv
    generalize n % d = r at *
    have e6 : ((r : Int) == 0) = false := by simp; omega
    have e7 : (d : Int) + 1 = ((d + 1 : Nat) : Int) := by omega
    have e8 : ((d + 1 : Nat) : Int) % 18446744073709551616 = ((d + 1 : Nat) : Int) := by omega
    have e9 : 2 ≤ d + 1 ∧ d + 1 ≤ 65536 ∧ 65537 - (d + 1) < 65537 - d := by omega
    replace hlo2 := Lib.hid hlo2
    replace hdv := Lib.hid hdv
    replace e9 := Lib.hid e9
    clear hlo
    generalize d * d = q at *
    generalize d + 1 = d1 at *
    go_wp2_with fail
    go_roundw
    case rel => exact ⟨d1, rfl, e9.out.1, e9.out.2.1, hlo2.out, hbl⟩
    case measure => simp [intOf]; exact e9.out.2.2
set_option maxHeartbeats 4000000 in
set_option maxRecDepth 100000 in
theorem rnext_is_any (n q : Nat) (c : Int) (hn : n < 4294967296) (hi : IsNext n q c) (w : World) :
  Calls Tryd.prog 9 #[.int .u32 (n : Int)] w fun e w' => e = .returned (.tuple #[.int .u32 (q : Int), .int .i64 c]) ∧ Below w.heap.size w w' := by
 have HPr := Lib.hid (fun (m : Nat) (hm : m < 4294967296) w => rprime_any m hm w)
 have h1 : (n : Int) % 18446744073709551616 = (n : Int) := by omega
 have h2 : (n : Int) + 1 = ((n + 1 : Nat) : Int) := by omega
 have h3 : ((n + 1 : Nat) : Int) % 18446744073709551616 = ((n + 1 : Nat) : Int) := by omega
 generalize hs : n + 1 = s at *
 replace hs := Lib.hid hs
 replace hi := Lib.hid hi
 go_enter Tryd.func9, Tryd.ntmps9
 go_wp2_with fail
 go_loopw [4] (fun qv wr => ∃ Q : Nat, qv = .int .u64 (Q : Int) ∧ n < Q ∧ Q ≤ 4294967296 ∧ (∀ i, n < i → i < Q → ¬ isPr i) ∧ Below w.heap.size w wr) (fun qv _ => 4294967296 - (intOf qv).toNat)
 case atStart => exact ⟨s, rfl, by rw [← hs.out]; omega, by rw [← hs.out]; omega, fun i g1 g2 => by rw [← hs.out] at g2; omega, Below.refl _ _⟩
 case round =>
  obtain ⟨Q, rfl, hnQ, hQb, hno, hbl⟩ := hrel
  replace hno := Lib.hid hno
  clear h1 h2 h3
  rcases Nat.lt_or_ge Q 2147483648 with hlt | hge
  ·have k1 : (Q : Int) < 2147483648 := by omega
   have k2 : (Q : Int) % 4294967296 = (Q : Int) := by omega
   have H := Lib.hid (HPr.out Q (by omega) wr)
   by_cases hp : isPr Q
   ·have hb := prB_of hp
    obtain ⟨rfl, rfl⟩ := hi.out.uniq (show IsNext n Q 0 from .inl ⟨rfl, hnQ, hlt, hp, hno.out⟩)
    rw [hb] at H
    replace hp := Lib.hid hp
    clear hb
    go_wp2_with fail
    with_reducible refine Calls.mono H.out ?_
    rintro e w2 ⟨rfl, hb2⟩
    go_wp2_with fail
    exact bodyPost_ret (v := .tuple #[.int .u32 (q : Int), .int .i64 0]) (by simp [results, Tryd.results9, go_sem]) rfl ⟨rfl, hbl.trans (hb2.mono hbl.size)⟩
   ·have hb := prB_no hp
    have hno2 : ∀ i, n < i → i < Q + 1 → ¬ isPr i := fun i g1 g2 => by
     rcases Nat.lt_or_ge i Q with g | g
     ·exact hno.out i g1 g
     ·obtain rfl : i = Q := by omega
      exact hp
    rw [hb] at H
    replace hno2 := Lib.hid hno2
    clear hb hp
    go_wp2_with fail
    with_reducible refine Calls.mono H.out ?_
    rintro e w2 ⟨rfl, hb2⟩
    have k3 : (Q : Int) + 1 = ((Q + 1 : Nat) : Int) := by omega
    have k4 : ((Q + 1 : Nat) : Int) % 18446744073709551616 = ((Q + 1 : Nat) : Int) := by omega
    generalize hs2 : Q + 1 = Q1 at *
    replace hs2 := Lib.hid hs2
    go_wp2_with fail
    go_roundw
    case rel => exact ⟨Q1, rfl, by rw [← hs2.out]; omega, by rw [← hs2.out]; omega, hno2.out, hbl.trans (hb2.mono hbl.size)⟩
    case measure => simp [intOf]; have := hs2.out; omega
  ·have k1 : ¬ (Q : Int) < 2147483648 := by omega
   obtain ⟨rfl, rfl⟩ := hi.out.uniq (show IsNext n 0 3 from .inr ⟨rfl, rfl, fun i g1 g2 => hno.out i g1 (by omega)⟩)
   go_wp2_with fail
   exact bodyPost_ret (v := .tuple #[.int .u32 ((0 : Nat) : Int), .int .i64 3]) (by simp [results, Tryd.results9, go_sem]) rfl ⟨rfl, hbl⟩
theorem rnext_any (n : Nat) (hn : n < 4294967296) (w : World) :
  Calls Tryd.prog 9 #[.int .u32 (n : Int)] w fun e w' => e = .returned (.tuple #[.int .u32 ((nextQ n : Nat) : Int), .int .i64 (nextE n)]) ∧ Below w.heap.size w w' := rnext_is_any n _ _ hn (next_is n) w
end Go.Proofs.YtfmakoiiibacjaaDoor
namespace Go.Proofs.YtfmakoiiibacjaaDoor
open Go.RowKit
attribute [local irreducible] lo hs sm s64 c64 d64 b64 mh ml pd pc qd qc val hiB str cmpI srD lz nb zl zh zs rsd subN invV invB prB nextQ nextE
set_option maxHeartbeats 4000000 in
set_option maxRecDepth 100000 in
theorem mprimes_w (n q c : Int) (b : Bool) (KT : World → Prop) (hKT : Keeps KT) (H1 : ∀ w, KT w → Calls Tryd.prog 8 #[.int .u32 n] w fun xe w' => xe = .returned (.tuple #[.int .u32 q, .int .i64 c]) ∧ Below w.heap.size w w') (H2 : ∀ w, Calls Tryd.prog 9 #[.int .u32 n] w fun xe w' => xe = .returned (.tuple #[.int .u32 q, .int .i64 c]) ∧ Below w.heap.size w w') (H3 : ∀ w, KT w → Calls Tryd.prog 10 #[.int .u32 n] w fun xe w' => xe = .returned (.bool b) ∧ Below w.heap.size w w') (H4 : ∀ w, Calls Tryd.prog 11 #[.int .u32 n] w fun xe w' => xe = .returned (.bool b) ∧ Below w.heap.size w w') (HW : ∀ w, KT w → Calls Tryd.prog 12 #[] w fun xe w' => xe = .returned (.bool true) ∧ Below w.heap.size w w') (w : World) (kKT : KT w) :
  Calls Tryd.prog 3 #[.int .u32 n] w fun xe w' => xe = .returned (.bool true) ∧ Below w.heap.size w w' := by
 have hL0 : GL w w [] := GL.start w
 replace hKT := Lib.hid hKT
 replace H1 := Lib.hid H1
 replace H2 := Lib.hid H2
 replace H3 := Lib.hid H3
 replace H4 := Lib.hid H4
 replace HW := Lib.hid HW
 go_enter Tryd.func3, Tryd.ntmps3
 go_wp2_with fail
 with_reducible refine Calls.mono (H1.out _ (hKT.out.at hL0.bl kKT)) ?_
 rintro e x1 ⟨rfl, hb⟩
 replace hL0 := hL0.call hb
 clear hb
 go_wp2_with fail
 with_reducible refine Calls.mono (H2.out _) ?_
 rintro e x2 ⟨rfl, hb⟩
 replace hL0 := hL0.call hb
 clear hb
 go_wp2_with fail
 with_reducible refine Calls.mono (H3.out _ (hKT.out.at hL0.bl kKT)) ?_
 rintro e x3 ⟨rfl, hb⟩
 replace hL0 := hL0.call hb
 clear hb
 go_wp2_with fail
 with_reducible refine Calls.mono (H4.out _) ?_
 rintro e x4 ⟨rfl, hb⟩
 replace hL0 := hL0.call hb
 clear hb
 go_wp2_with fail
 with_reducible refine Calls.mono (HW.out _ (hKT.out.at hL0.bl kKT)) ?_
 rintro e x5 ⟨rfl, hb⟩
 replace hL0 := hL0.call hb
 clear hb
 go_wp2_with fail
 exact bodyPost_ret (v := .bool true) (by simp [results, Tryd.results3, go_sem]) rfl ⟨rfl, hL0.bl⟩
theorem mprimes_any (n : Nat) (hn : n < 4294967296) (w : World) (hT : T32 w) :
  Calls Tryd.prog 3 #[.int .u32 (n : Int)] w fun e w' => e = .returned (.bool true) ∧ Below w.heap.size w w' :=
 mprimes_w n ((nextQ n : Nat) : Int) (nextE n) (prB n) T32 Keeps.t32 (fun w hT => next_any n hn w hT) (fun w => rnext_any n hn w) (fun w hT => prime_any n hn w hT) (fun w => rprime_any n hn w) mworks_any w hT
end Go.Proofs.YtfmakoiiibacjaaDoor
namespace Go.Proofs.YtfmakoiiibacjaaDoor.modsPrimes
open Go.ChangeShapes Go.WideShapes Go.ChangeAt Go.RowKit
set_option maxRecDepth 100000 in
theorem contract (H : Type) (enc : TypeId × Value → H) (W : World) (base : Nat) (args : Array Value) (ds gs : List (DataW H)) (before : List MemPlace)
  (hval : ∀ (j : Nat) t v, Tryd.f3.params[j]? = some t → args[j]? = some v → Value.okWide Tryd.prog W .any base t v)
  (hW : DataW.Whole enc Tryd.prog Tryd.f3.params.toList Rows.modsPrimesSpec.vars false W args.toList ds gs before) (hL : laidMetH Tryd.prog Rows.modsPrimesRow.laid W) (hSh : W.ShapedOpen Tryd.prog) :
  Calls Tryd.prog 3 args W fun e W' => ∃ v, e = .returned v ∧ Rows.modsPrimesSpec.post enc Tryd.prog Tryd.f3 false true false false W args v W' := by
 have hW' := hW
 obtain ⟨p, q, hA0, hV, rfl, _, _⟩ := hW
 have hA : DataW.TrodAll enc Tryd.prog W 0 (fun _ => true) true Tryd.f3.params.toList args.toList ds p := hA0
 rw [Tryd.params3] at hA hval
 obtain ⟨v0, e0, rfl, rfl, h0⟩ := trodAll_one hA
 obtain ⟨rfl, rfl⟩ := trodVars_none hV
 clear hA0
 simp only [List.append_nil] at hW'
 have hlt : ∀ x ∈ p, x.block < W.heap.size := fun x hx => by simpa using hW'.lt x hx
 obtain ⟨z0, rfl, rfl, rfl, f0⟩ := open_int Tryd.underlying22 (hval 0 22 v0 rfl rfl) h0
 have b0 := bounds_u32 f0
 obtain ⟨n0, rfl⟩ : ∃ n : Nat, z0 = (n : Int) := ⟨z0.toNat, by omega⟩
 refine (mprimes_any n0 (by omega) W (t32_of hL)).mono fun e W' ⟨he, hb⟩ => ?_
 subst he
 refine ⟨_, rfl, _, _, _, [], [], [], hW', ?_, ?_, rfl, hb.frame _, fun h => by cases h⟩
 ·exact trodAll_mk1 (shut_bool Tryd.underlying4 _)
 ·exact trodAll_mk1 (shut_int Tryd.underlying22 f0)
/-- A world for the witness: the settled one, the tables as their initialisers lay them. -/
noncomputable def laidWorld (os : Os) : World := World.laidAll Tryd.prog os Rows.modsPrimesRow.laid
theorem laid_met (os : Os) : laidMet Tryd.prog Rows.modsPrimesRow.laid ((laidWorld os).forCall (fun _ _ => 0) ⟨#[], #[.int .u32 0], []⟩).memory :=
 laidMet_laidAll _ (by kernel_rfl) (by kernel_rfl)
theorem reads (os : Os) {H : Type} (enc : TypeId × Value → H) : ∃ places, DataW.whole enc Tryd.prog ((laidWorld os).forCall (fun _ _ => 0) ⟨#[], #[.int .u32 0], []⟩).memory Tryd.f3.params.toList Rows.modsPrimesSpec.vars false (#[.int .u32 0] : Array Value).toList 8 = some ([.lit (.int .u32 0)], [], places) :=
 ⟨[], by kernel_rfl⟩
set_option maxRecDepth 100000 in
theorem lifted (os : Os) (started : os.Started) (H : Type) (enc : TypeId × Value → H) (F : Stop.Interp) :
  ReturnsInHanded {} Tryd.checked os 3 .any ((OpenSpec.ofChange Rows.modsPrimesSpec).preRow enc Tryd.prog Tryd.f3 Rows.modsPrimesRow.domain false Rows.modsPrimesRow.laid) (((OpenSpec.ofChange Rows.modsPrimesSpec).at F).post enc Tryd.prog Tryd.f3 false true false false) := by
 obtain ⟨places, hx⟩ := reads os enc
 refine returnsInHanded_of_row (C := Tryd.checked) (s := OpenSpec.ofChange Rows.modsPrimesSpec) own started (by kernel_rfl) Tryd.func3
  (witness_row_at (enc := enc) (C := Tryd.checked) false (laidWorld os) #[.int .u32 0] (World.laidAll_os _ _ _) (by kernel_rfl) (by kernel_rfl) (by kernel_rfl)
   (OpenSpec.preRow_of_cond 8 hx (by kernel_rfl) (fun k hk => by cases hk) (by kernel_rfl) (laid_met os))) ?_
 intro W base args ds gs before hval hW _ _ _ hL hSh _
 exact contract H enc W base args ds gs before hval hW hL hSh
theorem said : Rows.ModsPrimesSaid :=
 OpenClaim.holds_of_cond 3 Tryd.f3 rfl rfl rfl rfl rfl rfl rfl ⟨rfl, rfl, rfl, rfl, rfl⟩ rfl rfl rfl rfl rfl (by kernel_rfl) Tryd.func3 (by kernel_rfl)
  (of_decide_eq_true (by kernel_rfl)) (by unfold Func.isWrapper; first | (rw [if_pos (by decide +kernel)]; kernel_rfl) | (rw [if_neg (by decide +kernel)]; exact ⟨rfl, rfl⟩))
  (fun os started H enc _ F => by rw [OpenClaim.pre_eq_preRow]; exact lifted os started H enc F)
theorem plain (f : FuncId) (fn : Func) (hf : Tryd.pinned.checked.prog.funcNamed "gusset/gussetlaw06.ModsPrimes" = some f) (hfn : Tryd.pinned.checked.prog.funcs[f]? = some fn) :
  false = Tryd.pinned.checked.prog.looks [] ∧ ∀ (j : Nat) t, fn.params[j]? = some t → Tryd.pinned.checked.prog.wantsStandIn t = false := by
 obtain rfl : f = 3 := Option.some.inj ((show Tryd.prog.funcNamed "gusset/gussetlaw06.ModsPrimes" = some 3 by kernel_rfl).symm.trans hf) |>.symm
 obtain rfl : fn = Tryd.f3 := (Option.some.inj (Tryd.func3.symm.trans hfn)).symm
 refine ⟨by kernel_rfl, fun j t ht => ?_⟩
 rw [Tryd.params3] at ht
 have hm := Array.mem_of_getElem? ht
 simp only [List.mem_toArray, List.mem_cons, List.not_mem_nil, or_false] at hm
 rcases hm with rfl
 ·exact (show Tryd.prog.wantsStandIn 22 = false by kernel_rfl)
end Go.Proofs.YtfmakoiiibacjaaDoor.modsPrimes
namespace Go.Proofs.YtfmakoiiibacjaaDoor
open Go.ChangeShapes Go.WideShapes Go.ChangeAt Go.RowKit
/-- THE CARD -/
theorem modsPrimesProved : Rows.ModsPrimesCardSaid :=
 Claim7.holds_tied_plain_at .later [] _ _ _ _ modsPrimes.said (fun _ h => by cases h) (by kernel_rfl) (fun _ h => by cases h) modsPrimes_row_tie rfl ⟨rfl, rfl⟩ (by kernel_rfl) rfl modsPrimes.plain (by kernel_rfl)
end Go.Proofs.YtfmakoiiibacjaaDoor
