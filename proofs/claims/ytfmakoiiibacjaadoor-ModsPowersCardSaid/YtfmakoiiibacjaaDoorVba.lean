/-
  The law answers true at every input, and leaves its arguments as they were: a part of the proof. CONDITIONS: the package-level tables start as the program's text lays them (the card ties them).
-/
import Derived.Test.YtfmakoiiibacjaaDoorZaf
import Derived.Test.YtfmakoiiibacjaaDoorRows
import Derived.Test.YtfmakoiiibacjaaDoorTie
import Derived.Test.YtfmakoiiibacjaaDoorCards
set_option linter.unusedVariables false
set_option linter.unusedSimpArgs false
namespace Go.Proofs.YtfmakoiiibacjaaDoor
open Go.RowKit
attribute [local irreducible] lo hs sm s64 c64 d64 b64 mh ml pd pc qd qc val hiB str cmpI srD lz nb zl zh zs rsd subN invV invB
set_option maxHeartbeats 4000000 in
set_option maxRecDepth 100000 in
theorem mpowers_w (a b p m n k l j h o x y z f g d : Int) (P1 : ∀ w, Calls Tryd.prog 20 #[.int .u32 a, .int .u64 j, .int .u32 p] w fun xe w' => xe = .returned (.int .u32 x) ∧ Below w.heap.size w w') (P2 : ∀ w, Calls Tryd.prog 20 #[.int .u32 a, .int .u64 k, .int .u32 p] w fun xe w' => xe = .returned (.int .u32 y) ∧ Below w.heap.size w w') (P3 : ∀ w, Calls Tryd.prog 20 #[.int .u32 a, .int .u64 l, .int .u32 p] w fun xe w' => xe = .returned (.int .u32 z) ∧ Below w.heap.size w w') (M1 : ∀ w, Calls Tryd.prog 19 #[.int .u32 y, .int .u32 z, .int .u32 p] w fun xe w' => xe = .returned (.int .u32 x) ∧ Below w.heap.size w w') (M2 : ∀ w, Calls Tryd.prog 19 #[.int .u32 a, .int .u32 b, .int .u32 p] w fun xe w' => xe = .returned (.int .u32 f) ∧ Below w.heap.size w w') (P4 : ∀ w, Calls Tryd.prog 20 #[.int .u32 f, .int .u64 k, .int .u32 p] w fun xe w' => xe = .returned (.int .u32 g) ∧ Below w.heap.size w w') (P5 : ∀ w, Calls Tryd.prog 20 #[.int .u32 b, .int .u64 k, .int .u32 p] w fun xe w' => xe = .returned (.int .u32 d) ∧ Below w.heap.size w w') (M3 : ∀ w, Calls Tryd.prog 19 #[.int .u32 y, .int .u32 d, .int .u32 p] w fun xe w' => xe = .returned (.int .u32 g) ∧ Below w.heap.size w w') (P6 : ∀ w, Calls Tryd.prog 20 #[.int .u32 y, .int .u64 l, .int .u32 p] w fun xe w' => xe = .returned (.int .u32 h) ∧ Below w.heap.size w w') (P7 : ∀ w, Calls Tryd.prog 20 #[.int .u32 a, .int .u64 o, .int .u32 p] w fun xe w' => xe = .returned (.int .u32 h) ∧ Below w.heap.size w w') (KT : World → Prop) (hKT : Keeps KT) (HW : ∀ w, KT w → Calls Tryd.prog 12 #[] w fun xe w' => xe = .returned (.bool true) ∧ Below w.heap.size w w') (hk0 : m / 2 = k) (hk : k % 4294967296 = k) (hk1 : k % 18446744073709551616 = k) (hl0 : n / 2 = l) (hl : l % 4294967296 = l) (hl1 : l % 18446744073709551616 = l) (hj : k + l = j) (hj1 : j % 18446744073709551616 = j) (ho : k * l = o) (ho1 : o % 18446744073709551616 = o) (w : World) (kKT : KT w) :
  Calls Tryd.prog 6 #[.int .u32 a, .int .u32 b, .int .u32 p, .int .u32 m, .int .u32 n] w fun xe w' => xe = .returned (.bool true) ∧ Below w.heap.size w w' := by
 have hL0 : GL w w [] := GL.start w
 replace P1 := Lib.hid P1
 replace P2 := Lib.hid P2
 replace P3 := Lib.hid P3
 replace M1 := Lib.hid M1
 replace M2 := Lib.hid M2
 replace P4 := Lib.hid P4
 replace P5 := Lib.hid P5
 replace M3 := Lib.hid M3
 replace P6 := Lib.hid P6
 replace P7 := Lib.hid P7
 replace hKT := Lib.hid hKT
 replace HW := Lib.hid HW
 go_enter Tryd.func6, Tryd.ntmps6
 go_wp2_with fail
 with_reducible refine Calls.mono (P1.out _) ?_
 rintro e x1 ⟨rfl, hb⟩
 replace hL0 := hL0.call hb
 clear hb
 go_wp2_with fail
 with_reducible refine Calls.mono (P2.out _) ?_
 rintro e x2 ⟨rfl, hb⟩
 replace hL0 := hL0.call hb
 clear hb
 go_wp2_with fail
 with_reducible refine Calls.mono (P3.out _) ?_
 rintro e x3 ⟨rfl, hb⟩
 replace hL0 := hL0.call hb
 clear hb
 go_wp2_with fail
 with_reducible refine Calls.mono (M1.out _) ?_
 rintro e x4 ⟨rfl, hb⟩
 replace hL0 := hL0.call hb
 clear hb
 go_wp2_with fail
 with_reducible refine Calls.mono (M2.out _) ?_
 rintro e x5 ⟨rfl, hb⟩
 replace hL0 := hL0.call hb
 clear hb
 go_wp2_with fail
 with_reducible refine Calls.mono (P4.out _) ?_
 rintro e x6 ⟨rfl, hb⟩
 replace hL0 := hL0.call hb
 clear hb
 go_wp2_with fail
 with_reducible refine Calls.mono (P2.out _) ?_
 rintro e x7 ⟨rfl, hb⟩
 replace hL0 := hL0.call hb
 clear hb
 go_wp2_with fail
 with_reducible refine Calls.mono (P5.out _) ?_
 rintro e x8 ⟨rfl, hb⟩
 replace hL0 := hL0.call hb
 clear hb
 go_wp2_with fail
 with_reducible refine Calls.mono (M3.out _) ?_
 rintro e x9 ⟨rfl, hb⟩
 replace hL0 := hL0.call hb
 clear hb
 go_wp2_with fail
 with_reducible refine Calls.mono (P2.out _) ?_
 rintro e x10 ⟨rfl, hb⟩
 replace hL0 := hL0.call hb
 clear hb
 go_wp2_with fail
 with_reducible refine Calls.mono (P6.out _) ?_
 rintro e x11 ⟨rfl, hb⟩
 replace hL0 := hL0.call hb
 clear hb
 go_wp2_with fail
 with_reducible refine Calls.mono (P7.out _) ?_
 rintro e x12 ⟨rfl, hb⟩
 replace hL0 := hL0.call hb
 clear hb
 go_wp2_with fail
 with_reducible refine Calls.mono (HW.out _ (hKT.out.at hL0.bl kKT)) ?_
 rintro e x13 ⟨rfl, hb⟩
 replace hL0 := hL0.call hb
 clear hb
 go_wp2_with fail
 exact bodyPost_ret (v := .bool true) (by simp [results, Tryd.results6, go_sem]) rfl ⟨rfl, hL0.bl⟩
end Go.Proofs.YtfmakoiiibacjaaDoor
namespace Go.Proofs.YtfmakoiiibacjaaDoor
open Go.RowKit
theorem mpowers_any (a b p m n : Nat) (ha : a < 4294967296) (hb : b < 4294967296) (hp : p < 4294967296) (hm : m < 4294967296) (hn : n < 4294967296) (w : World) (hT : T32 w) :
  Calls Tryd.prog 6 #[.int .u32 (a : Int), .int .u32 (b : Int), .int .u32 (p : Int), .int .u32 (m : Int), .int .u32 (n : Int)] w fun e w' => e = .returned (.bool true) ∧ Below w.heap.size w w' := by
 have L := fun n => rsd_lt32 n hp
 obtain ⟨k, hk⟩ : ∃ k, k = m / 2 := ⟨_, rfl⟩
 obtain ⟨l, hl⟩ : ∃ l, l = n / 2 := ⟨_, rfl⟩
 have hkl : k < 2147483648 := by omega
 have hll : l < 2147483648 := by omega
 have hol : k * l < 18446744073709551616 := by
  have := Nat.mul_le_mul (show k ≤ 2147483648 by omega) (show l ≤ 2147483648 by omega); omega
 have ho : (k : Int) * (l : Int) = ((k * l : Nat) : Int) := by push_cast; rfl
 have P1 := poM hp ha (n := k + l) (by omega) (r := rsd (a ^ (k + l)) p) rfl
 have P2 := poM hp ha (n := k) (by omega) (r := rsd (a ^ k) p) rfl
 have P3 := poM hp ha (n := l) (by omega) (r := rsd (a ^ l) p) rfl
 have M1 := muM hp (L (a ^ k)) (L (a ^ l)) (r := rsd (a ^ (k + l)) p) (by rw [rsd_mul_l, rsd_mul_r, Nat.pow_add])
 have M2 := muM hp ha hb (r := rsd (a * b) p) rfl
 have P4 := poM hp (L (a * b)) (n := k) (by omega) (r := rsd ((a * b) ^ k) p) (rsd_pow _ _ _)
 have P5 := poM hp hb (n := k) (by omega) (r := rsd (b ^ k) p) rfl
 have M3 := muM hp (L (a ^ k)) (L (b ^ k)) (r := rsd ((a * b) ^ k) p) (by rw [rsd_mul_l, rsd_mul_r, Nat.mul_pow])
 have P6 := poM hp (L (a ^ k)) (n := l) (by omega) (r := rsd (a ^ (k * l)) p) (by rw [rsd_pow, Nat.pow_mul])
 have P7 := poM hp ha (n := k * l) hol (r := rsd (a ^ (k * l)) p) rfl
 generalize k * l = o at *
 exact mpowers_w a b p m n k l ((k + l : Nat) : Int) _ o _ _ _ _ _ _ P1 P2 P3 M1 M2 P4 P5 M3 P6 P7 T32 Keeps.t32 mworks_any
  (by omega) (by omega) (by omega) (by omega) (by omega) (by omega) (by omega) (by omega) ho (by omega) w hT
end Go.Proofs.YtfmakoiiibacjaaDoor
namespace Go.Proofs.YtfmakoiiibacjaaDoor
open Go.ChangeShapes Go.WideShapes Go.ChangeAt Go.RowKit
section
variable {H : Type} {enc : TypeId × Value → H} {P : Program} {w : World} {base : Nat} {spare : Nat → Bool} {held : Bool}
theorem trodAll_five {t t1 t2 t3 t4 : TypeId} {args : Array Value} {ds : List (DataW H)} {ps : List MemPlace} (h : DataW.TrodAll enc P w base spare held [t, t1, t2, t3, t4] args.toList ds ps) :
  ∃ v v1 v2 v3 v4 d d1 d2 d3 d4 p p1 p2 p3 p4, args = #[v, v1, v2, v3, v4] ∧ ds = [d, d1, d2, d3, d4] ∧ ps = p ++ p1 ++ p2 ++ p3 ++ p4 ∧ DataW.Trod enc P w base spare held t v d p ∧ DataW.Trod enc P w base spare held t1 v1 d1 p1 ∧ DataW.Trod enc P w base spare held t2 v2 d2 p2 ∧ DataW.Trod enc P w base spare held t3 v3 d3 p3 ∧ DataW.Trod enc P w base spare held t4 v4 d4 p4 := by
 obtain ⟨v, vs, d, ds1, p, q, hargs, rfl, rfl, hd, hr⟩ := trodAll_cons h
 obtain ⟨v1, vs1, d1, ds2, p1, q1, rfl, rfl, rfl, hd1, hr1⟩ := trodAll_cons hr
 obtain ⟨v2, vs2, d2, ds3, p2, q2, rfl, rfl, rfl, hd2, hr2⟩ := trodAll_cons hr1
 obtain ⟨v3, vs3, d3, ds4, p3, q3, rfl, rfl, rfl, hd3, hr3⟩ := trodAll_cons hr2
 obtain ⟨v4, vs4, d4, ds5, p4, q4, rfl, rfl, rfl, hd4, hr4⟩ := trodAll_cons hr3
 obtain ⟨rfl, rfl, rfl⟩ := trodAll_nil hr4
 exact ⟨v, v1, v2, v3, v4, d, d1, d2, d3, d4, p, p1, p2, p3, p4, by cases args; simp_all, rfl, by simp, hd, hd1, hd2, hd3, hd4⟩
theorem trodAll_mk5 {t t1 t2 t3 t4 : TypeId} {v v1 v2 v3 v4 : Value} {d d1 d2 d3 d4 : DataW H} {p p1 p2 p3 p4 : List MemPlace} (h : DataW.Trod enc P w base spare held t v d p) (h1 : DataW.Trod enc P w base spare held t1 v1 d1 p1)
  (h2 : DataW.Trod enc P w base spare held t2 v2 d2 p2) (h3 : DataW.Trod enc P w base spare held t3 v3 d3 p3) (h4 : DataW.Trod enc P w base spare held t4 v4 d4 p4) : DataW.TrodAll enc P w base spare held [t, t1, t2, t3, t4] [v, v1, v2, v3, v4] [d, d1, d2, d3, d4] (p ++ (p1 ++ (p2 ++ (p3 ++ p4)))) := ⟨p, p1 ++ (p2 ++ (p3 ++ p4)), h, trodAll_mk4 h1 h2 h3 h4, rfl⟩
end
end Go.Proofs.YtfmakoiiibacjaaDoor
namespace Go.Proofs.YtfmakoiiibacjaaDoor.modsPowers
open Go.ChangeShapes Go.WideShapes Go.ChangeAt Go.RowKit
set_option maxRecDepth 100000 in
theorem contract (H : Type) (enc : TypeId × Value → H) (W : World) (base : Nat) (args : Array Value) (ds gs : List (DataW H)) (before : List MemPlace)
  (hval : ∀ (j : Nat) t v, Tryd.f6.params[j]? = some t → args[j]? = some v → Value.okWide Tryd.prog W .any base t v)
  (hW : DataW.Whole enc Tryd.prog Tryd.f6.params.toList Rows.modsPowersSpec.vars false W args.toList ds gs before) (hL : laidMetH Tryd.prog Rows.modsPowersRow.laid W) (hSh : W.ShapedOpen Tryd.prog) :
  Calls Tryd.prog 6 args W fun e W' => ∃ v, e = .returned v ∧ Rows.modsPowersSpec.post enc Tryd.prog Tryd.f6 false true false false W args v W' := by
 have hW' := hW
 obtain ⟨p, q, hA0, hV, rfl, _, _⟩ := hW
 have hA : DataW.TrodAll enc Tryd.prog W 0 (fun _ => true) true Tryd.f6.params.toList args.toList ds p := hA0
 rw [Tryd.params6] at hA hval
 obtain ⟨v0, v1, v2, v3, v4, e0, e1, e2, e3, e4, p0, p1, p2, p3, p4, rfl, rfl, rfl, h0, h1, h2, h3, h4⟩ := trodAll_five hA
 obtain ⟨rfl, rfl⟩ := trodVars_none hV
 clear hA0
 simp only [List.append_nil] at hW'
 have hlt : ∀ x ∈ p0 ++ p1 ++ p2 ++ p3 ++ p4, x.block < W.heap.size := fun x hx => by simpa using hW'.lt x hx
 obtain ⟨z0, rfl, rfl, rfl, f0⟩ := open_int Tryd.underlying22 (hval 0 22 v0 rfl rfl) h0
 have b0 := bounds_u32 f0
 obtain ⟨n0, rfl⟩ : ∃ n : Nat, z0 = (n : Int) := ⟨z0.toNat, by omega⟩
 obtain ⟨z1, rfl, rfl, rfl, f1⟩ := open_int Tryd.underlying22 (hval 1 22 v1 rfl rfl) h1
 have b1 := bounds_u32 f1
 obtain ⟨n1, rfl⟩ : ∃ n : Nat, z1 = (n : Int) := ⟨z1.toNat, by omega⟩
 obtain ⟨z2, rfl, rfl, rfl, f2⟩ := open_int Tryd.underlying22 (hval 2 22 v2 rfl rfl) h2
 have b2 := bounds_u32 f2
 obtain ⟨n2, rfl⟩ : ∃ n : Nat, z2 = (n : Int) := ⟨z2.toNat, by omega⟩
 obtain ⟨z3, rfl, rfl, rfl, f3⟩ := open_int Tryd.underlying22 (hval 3 22 v3 rfl rfl) h3
 have b3 := bounds_u32 f3
 obtain ⟨n3, rfl⟩ : ∃ n : Nat, z3 = (n : Int) := ⟨z3.toNat, by omega⟩
 obtain ⟨z4, rfl, rfl, rfl, f4⟩ := open_int Tryd.underlying22 (hval 4 22 v4 rfl rfl) h4
 have b4 := bounds_u32 f4
 obtain ⟨n4, rfl⟩ : ∃ n : Nat, z4 = (n : Int) := ⟨z4.toNat, by omega⟩
 refine (mpowers_any n0 n1 n2 n3 n4 (by omega) (by omega) (by omega) (by omega) (by omega) W (t32_of hL)).mono fun e W' ⟨he, hb⟩ => ?_
 subst he
 refine ⟨_, rfl, _, _, _, [], ?pl, [], hW', ?_, ?_, rfl, hb.frame _, fun h => by cases h⟩
 rotate_left
 ·exact trodAll_mk1 (shut_bool Tryd.underlying4 _)
 ·exact trodAll_mk5 (shut_int Tryd.underlying22 f0) (shut_int Tryd.underlying22 f1) (shut_int Tryd.underlying22 f2) (shut_int Tryd.underlying22 f3) (shut_int Tryd.underlying22 f4)
/-- A world for the witness: the settled one, the tables as their initialisers lay them. -/
noncomputable def laidWorld (os : Os) : World := World.laidAll Tryd.prog os Rows.modsPowersRow.laid
theorem laid_met (os : Os) : laidMet Tryd.prog Rows.modsPowersRow.laid ((laidWorld os).forCall (fun _ _ => 0) ⟨#[], #[.int .u32 0, .int .u32 0, .int .u32 0, .int .u32 0, .int .u32 0], []⟩).memory :=
 laidMet_laidAll _ (by kernel_rfl) (by kernel_rfl)
theorem reads (os : Os) {H : Type} (enc : TypeId × Value → H) : ∃ places, DataW.whole enc Tryd.prog ((laidWorld os).forCall (fun _ _ => 0) ⟨#[], #[.int .u32 0, .int .u32 0, .int .u32 0, .int .u32 0, .int .u32 0], []⟩).memory Tryd.f6.params.toList Rows.modsPowersSpec.vars false (#[.int .u32 0, .int .u32 0, .int .u32 0, .int .u32 0, .int .u32 0] : Array Value).toList 8 = some ([.lit (.int .u32 0), .lit (.int .u32 0), .lit (.int .u32 0), .lit (.int .u32 0), .lit (.int .u32 0)], [], places) :=
 ⟨[], by kernel_rfl⟩
set_option maxRecDepth 100000 in
theorem lifted (os : Os) (started : os.Started) (H : Type) (enc : TypeId × Value → H) (F : Stop.Interp) :
  ReturnsInHanded {} Tryd.checked os 6 .any ((OpenSpec.ofChange Rows.modsPowersSpec).preRow enc Tryd.prog Tryd.f6 Rows.modsPowersRow.domain false Rows.modsPowersRow.laid) (((OpenSpec.ofChange Rows.modsPowersSpec).at F).post enc Tryd.prog Tryd.f6 false true false false) := by
 obtain ⟨places, hx⟩ := reads os enc
 refine returnsInHanded_of_row (C := Tryd.checked) (s := OpenSpec.ofChange Rows.modsPowersSpec) own started (by kernel_rfl) Tryd.func6
  (witness_row_at (enc := enc) (C := Tryd.checked) false (laidWorld os) #[.int .u32 0, .int .u32 0, .int .u32 0, .int .u32 0, .int .u32 0] (World.laidAll_os _ _ _) (by kernel_rfl) (by kernel_rfl) (by kernel_rfl)
   (OpenSpec.preRow_of_cond 8 hx (by kernel_rfl) (fun k hk => by cases hk) (by kernel_rfl) (laid_met os))) ?_
 intro W base args ds gs before hval hW _ _ _ hL hSh _
 exact contract H enc W base args ds gs before hval hW hL hSh
theorem said : Rows.ModsPowersSaid :=
 OpenClaim.holds_of_cond 6 Tryd.f6 rfl rfl rfl rfl rfl rfl rfl ⟨rfl, rfl, rfl, rfl, rfl⟩ rfl rfl rfl rfl rfl (by kernel_rfl) Tryd.func6 (by kernel_rfl)
  (of_decide_eq_true (by kernel_rfl)) (by unfold Func.isWrapper; first | (rw [if_pos (by decide +kernel)]; kernel_rfl) | (rw [if_neg (by decide +kernel)]; exact ⟨rfl, rfl⟩))
  (fun os started H enc _ F => by rw [OpenClaim.pre_eq_preRow]; exact lifted os started H enc F)
theorem plain (f : FuncId) (fn : Func) (hf : Tryd.pinned.checked.prog.funcNamed "gusset/gussetlaw06.ModsPowers" = some f) (hfn : Tryd.pinned.checked.prog.funcs[f]? = some fn) :
  false = Tryd.pinned.checked.prog.looks [] ∧ ∀ (j : Nat) t, fn.params[j]? = some t → Tryd.pinned.checked.prog.wantsStandIn t = false := by
 obtain rfl : f = 6 := Option.some.inj ((show Tryd.prog.funcNamed "gusset/gussetlaw06.ModsPowers" = some 6 by kernel_rfl).symm.trans hf) |>.symm
 obtain rfl : fn = Tryd.f6 := (Option.some.inj (Tryd.func6.symm.trans hfn)).symm
 refine ⟨by kernel_rfl, fun j t ht => ?_⟩
 rw [Tryd.params6] at ht
 have hm := Array.mem_of_getElem? ht
 simp only [List.mem_toArray, List.mem_cons, List.not_mem_nil, or_false] at hm
 rcases hm with rfl | rfl | rfl | rfl | rfl
 ·exact (show Tryd.prog.wantsStandIn 22 = false by kernel_rfl)
 ·exact (show Tryd.prog.wantsStandIn 22 = false by kernel_rfl)
 ·exact (show Tryd.prog.wantsStandIn 22 = false by kernel_rfl)
 ·exact (show Tryd.prog.wantsStandIn 22 = false by kernel_rfl)
 ·exact (show Tryd.prog.wantsStandIn 22 = false by kernel_rfl)
end Go.Proofs.YtfmakoiiibacjaaDoor.modsPowers
namespace Go.Proofs.YtfmakoiiibacjaaDoor
open Go.ChangeShapes Go.WideShapes Go.ChangeAt Go.RowKit
/-- THE CARD -/
theorem modsPowersProved : Rows.ModsPowersCardSaid :=
 Claim7.holds_tied_plain_at .later [] _ _ _ _ modsPowers.said (fun _ h => by cases h) (by kernel_rfl) (fun _ h => by cases h) modsPowers_row_tie rfl ⟨rfl, rfl⟩ (by kernel_rfl) rfl modsPowers.plain (by kernel_rfl)
end Go.Proofs.YtfmakoiiibacjaaDoor
