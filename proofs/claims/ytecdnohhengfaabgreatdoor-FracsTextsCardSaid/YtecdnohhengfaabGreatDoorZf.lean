/-
  Layer 3, the law package: works.
-/
import Derived.Test.YtecdnohhengfaabGreatDoorZe
import Derived.Test.YtecdnohhengfaabGreatDoorZd
import Derived.Still
import Derived.Test.YtecdnohhengfaabGreatDoorZc
import Derived.Test.YtecdnohhengfaabGreatDoorCards
import Derived.Test.YtecdnohhengfaabGreatDoorTie
import Derived.ProofKit
import Derived.OpenShut
import Derived.ChangeSlices
import Derived.Carry
import Derived.Lay
import Derived.MakeChecks
import Derived.LaidSub
import Derived.Lib.LaidTab
import Derived.Deep.DeepHandedRow
import Derived.Lib.SmallJoins
set_option linter.unusedVariables false
set_option linter.unusedSimpArgs false
namespace Go.Proofs.YtecdnohhengfaabGreatDoor
open Go.RowKit
attribute [local irreducible] lo hs sm s64 c64 d64 b64 mh ml pd pc qd qc val hiB str cmpI srD lz nb isq decB zl zh zs

theorem ip_dig (d : Nat) (hd : d < 10) (w : World) : Calls Tryz.prog 39 #[.string ⟨#[dch d]⟩] w fun xe w' => xe = .returned (.tuple #[intV (d : Int), .int .i64 0]) ∧ Below w.heap.size w w' := by
  have h := parse_ztxt (d : Int) (Nat.le_trans (dI_lit (by omega)) (by omega)) w
  rw [zt_pos d hd] at h
  exact h
theorem ip_neg (d : Nat) (hd : d < 10) (h0 : 0 < d) (w : World) : Calls Tryz.prog 39 #[.string ⟨#[45, dch d]⟩] w fun xe w' => xe = .returned (.tuple #[intV (-(d : Int)), .int .i64 0]) ∧ Below w.heap.size w w' := by
  have h := parse_ztxt (-(d : Int)) (Nat.le_trans (dI_lit (by omega)) (by omega)) w
  rw [zt_neg d hd h0] at h
  exact h
theorem np_dig (d : Nat) (hd : d < 10) (w : World) : Calls Tryz.prog 41 #[.string ⟨#[dch d]⟩] w fun xe w' => xe = .returned (.tuple #[natV d, .int .i64 0]) ∧ Below w.heap.size w w' := by
  have h := parse_ok (Lib.decDigits d) (by rw [dec_small hd]; exact (by decide : 1 ≤ 4096)) (dec_isDec d) w
  rw [dval_dec, dec_small hd] at h
  exact h
theorem np_bad (l : List UInt8) (hl : l.length ≤ 4096) (hd : ¬ isDec l) (w : World) : Calls Tryz.prog 41 #[.string (st l)] w fun xe w' => xe = .returned (.tuple #[natV 0, .int .i64 4]) ∧ Below w.heap.size w w' := parse_form l hl hd w
theorem ip_nil (w : World) : Calls Tryz.prog 39 #[.string ⟨#[]⟩] w fun xe w' => xe = .returned (.tuple #[intV 0, .int .i64 4]) ∧ Below w.heap.size w w' := by
  have h := iparse_p_form [] (by decide) (fun h => by rcases h.2 with h | h; exact absurd h (by decide); exact h.1 rfl) (by decide) w
  exact h
theorem parse_w0 (w : World) (hm : MaxL w) : Calls Tryz.prog 8 #[.string (ByteArray.mk #[45, 54, 47, 52])] w fun xe w' => xe = .returned (.tuple #[fracV (mkRat (-3) 2), .int .i64 0]) ∧ Below w.heap.size w w' := by
  have HC := cutF (ByteArray.mk #[45, 54, 47, 52]) (by decide) (ByteArray.mk #[45, 54]) (ByteArray.mk #[52]) true (by kernel_rfl)
  have HF := fun w => fromF (-6) 4 (by decide) (Nat.le_trans (dI_lit (by decide)) (by omega)) (Nat.le_trans (dI_lit (z := 4) (by decide)) (by omega)) w
  rw [show mkRat (-6) 4 = (mkRat (-3) 2) from by decide +kernel] at HF
  exact fparse_part _ _ _ (-6) _ 4 _ 0 MaxL MaxL.keeps HC (ip_neg 6 (by decide) (by decide)) (np_dig 4 (by decide)) HF w hm
theorem parse_w1 (w : World) (hm : MaxL w) : Calls Tryz.prog 8 #[.string (ByteArray.mk #[49, 47, 48])] w fun xe w' => xe = .returned (.tuple #[.agg #[.int .u64 0, .string ⟨#[]⟩, .bool false, .int .u64 0, .string ⟨#[]⟩], .int .i64 5]) ∧ Below w.heap.size w w' := by
  have HC := cutF (ByteArray.mk #[49, 47, 48]) (by decide) (ByteArray.mk #[49]) (ByteArray.mk #[48]) true (by kernel_rfl)
  rw [← frV_q0]
  exact fparse_part _ _ _ 1 _ 0 _ 5 MaxL MaxL.keeps HC (ip_dig 1 (by decide)) (np_dig 0 (by decide)) (fun w => from0F 1 w) w hm
theorem parse_w2 (w : World) (hm : MaxL w) : Calls Tryz.prog 8 #[.string (ByteArray.mk #[49, 47, 45, 50])] w fun xe w' => xe = .returned (.tuple #[.agg #[.int .u64 0, .string ⟨#[]⟩, .bool false, .int .u64 0, .string ⟨#[]⟩], .int .i64 4]) ∧ Below w.heap.size w w' := by
  have HC := cutF (ByteArray.mk #[49, 47, 45, 50]) (by decide) (ByteArray.mk #[49]) (ByteArray.mk #[45, 50]) true (by kernel_rfl)
  exact fparse_nat _ _ _ 1 0 4 MaxL MaxL.keeps HC (ip_dig 1 (by decide)) (fun w => np_bad [45, 50] (by decide) (by exact isDec_no (by decide)) w) (by decide) w hm
theorem parse_w3 (w : World) (hm : MaxL w) : Calls Tryz.prog 8 #[.string (ByteArray.mk #[49, 47, 50, 47, 51])] w fun xe w' => xe = .returned (.tuple #[.agg #[.int .u64 0, .string ⟨#[]⟩, .bool false, .int .u64 0, .string ⟨#[]⟩], .int .i64 4]) ∧ Below w.heap.size w w' := by
  have HC := cutF (ByteArray.mk #[49, 47, 50, 47, 51]) (by decide) (ByteArray.mk #[49]) (ByteArray.mk #[50, 47, 51]) true (by kernel_rfl)
  exact fparse_nat _ _ _ 1 0 4 MaxL MaxL.keeps HC (ip_dig 1 (by decide)) (fun w => np_bad [50, 47, 51] (by decide) (by exact isDec_no (by decide)) w) (by decide) w hm
theorem parse_w4 (w : World) (hm : MaxL w) : Calls Tryz.prog 8 #[.string (ByteArray.mk #[48, 47, 55])] w fun xe w' => xe = .returned (.tuple #[.agg #[.int .u64 0, .string ⟨#[]⟩, .bool false, .int .u64 0, .string ⟨#[]⟩], .int .i64 0]) ∧ Below w.heap.size w w' := by
  have HC := cutF (ByteArray.mk #[48, 47, 55]) (by decide) (ByteArray.mk #[48]) (ByteArray.mk #[55]) true (by kernel_rfl)
  rw [← frV_q0]
  have HF := fun w => fromF (0) 7 (by decide) (Nat.le_trans (dI_lit (by decide)) (by omega)) (Nat.le_trans (dI_lit (z := 7) (by decide)) (by omega)) w
  rw [show mkRat (0) 7 = (0 : Rat) from by decide +kernel] at HF
  exact fparse_part _ _ _ (0) _ 7 _ 0 MaxL MaxL.keeps HC (ip_dig 0 (by decide)) (np_dig 7 (by decide)) HF w hm
theorem parse_w5 (w : World) (hm : MaxL w) : Calls Tryz.prog 8 #[.string ⟨#[]⟩] w fun xe w' => xe = .returned (.tuple #[.agg #[.int .u64 0, .string ⟨#[]⟩, .bool false, .int .u64 0, .string ⟨#[]⟩], .int .i64 4]) ∧ Below w.heap.size w w' := by
  have HC := cutF (ByteArray.mk #[]) (by decide) (ByteArray.mk #[]) (ByteArray.mk #[]) false (by kernel_rfl)
  exact fparse_int _ _ _ 0 false 4 MaxL MaxL.keeps HC ip_nil (by decide) w hm
theorem parse_w6 (w : World) (hm : MaxL w) : Calls Tryz.prog 8 #[.string (ByteArray.mk #[49, 47])] w fun xe w' => xe = .returned (.tuple #[.agg #[.int .u64 0, .string ⟨#[]⟩, .bool false, .int .u64 0, .string ⟨#[]⟩], .int .i64 4]) ∧ Below w.heap.size w w' := by
  have HC := cutF (ByteArray.mk #[49, 47]) (by decide) (ByteArray.mk #[49]) (ByteArray.mk #[]) true (by kernel_rfl)
  exact fparse_nat _ _ _ 1 0 4 MaxL MaxL.keeps HC (ip_dig 1 (by decide)) (fun w => np_bad [] (by decide) (by exact isDec_no (by decide)) w) (by decide) w hm
set_option maxHeartbeats 16000000 in
set_option maxRecDepth 100000 in
theorem fworks_w  (r1 : Rat) (r2 : Rat) (r3 : Rat) (r4 : Rat) (r5 : Rat) (r6 : Rat) (r7 : Rat) (r8 : Rat) (r9 : Rat) (r10 : Rat) (z1 : Int) (z2 : Int) (r11 : Rat) (r12 : Rat) (KM : World → Prop) (hKM : Keeps KM) (P0 : ∀ w, KM w → Calls Tryz.prog 8 #[.string (ByteArray.mk #[45, 54, 47, 52])] w fun xe w' => xe = .returned (.tuple #[.agg #[.int .u64 ((zl r1.num : Nat) : Int), .string (zh r1.num), .bool (zs r1.num), .int .u64 ((lo (fe r1) : Nat) : Int), .string (hs (fe r1))], .int .i64 0]) ∧ Below w.heap.size w w') (P1 : ∀ w, KM w → Calls Tryz.prog 8 #[.string (ByteArray.mk #[49, 47, 48])] w fun xe w' => xe = .returned (.tuple #[.agg #[.int .u64 0, .string ⟨#[]⟩, .bool false, .int .u64 0, .string ⟨#[]⟩], .int .i64 5]) ∧ Below w.heap.size w w') (P2 : ∀ w, KM w → Calls Tryz.prog 8 #[.string (ByteArray.mk #[49, 47, 45, 50])] w fun xe w' => xe = .returned (.tuple #[.agg #[.int .u64 0, .string ⟨#[]⟩, .bool false, .int .u64 0, .string ⟨#[]⟩], .int .i64 4]) ∧ Below w.heap.size w w') (P3 : ∀ w, KM w → Calls Tryz.prog 8 #[.string (ByteArray.mk #[49, 47, 50, 47, 51])] w fun xe w' => xe = .returned (.tuple #[.agg #[.int .u64 0, .string ⟨#[]⟩, .bool false, .int .u64 0, .string ⟨#[]⟩], .int .i64 4]) ∧ Below w.heap.size w w') (P4 : ∀ w, KM w → Calls Tryz.prog 8 #[.string (ByteArray.mk #[48, 47, 55])] w fun xe w' => xe = .returned (.tuple #[.agg #[.int .u64 0, .string ⟨#[]⟩, .bool false, .int .u64 0, .string ⟨#[]⟩], .int .i64 0]) ∧ Below w.heap.size w w') (P5 : ∀ w, KM w → Calls Tryz.prog 8 #[.string ⟨#[]⟩] w fun xe w' => xe = .returned (.tuple #[.agg #[.int .u64 0, .string ⟨#[]⟩, .bool false, .int .u64 0, .string ⟨#[]⟩], .int .i64 4]) ∧ Below w.heap.size w w') (P6 : ∀ w, KM w → Calls Tryz.prog 8 #[.string (ByteArray.mk #[49, 47])] w fun xe w' => xe = .returned (.tuple #[.agg #[.int .u64 0, .string ⟨#[]⟩, .bool false, .int .u64 0, .string ⟨#[]⟩], .int .i64 4]) ∧ Below w.heap.size w w') (H1 : ∀ w, Calls Tryz.prog 25 #[.int .i64 6, .int .i64 (-4)] w fun xe w' => xe = .returned (.agg #[.int .u64 ((zl r1.num : Nat) : Int), .string (zh r1.num), .bool (zs r1.num), .int .u64 ((lo (fe r1) : Nat) : Int), .string (hs (fe r1))]) ∧ Below w.heap.size w w') (H2 : ∀ w, Calls Tryz.prog 25 #[.int .i64 0, .int .i64 (-5)] w fun xe w' => xe = .returned (.agg #[.int .u64 0, .string ⟨#[]⟩, .bool false, .int .u64 0, .string ⟨#[]⟩]) ∧ Below w.heap.size w w') (H3 : ∀ w, Calls Tryz.prog 26 #[.int .i64 1, .int .i64 0] w fun xe w' => xe = .returned (.tuple #[.agg #[.int .u64 0, .string ⟨#[]⟩, .bool false, .int .u64 0, .string ⟨#[]⟩], .int .i64 5]) ∧ Below w.heap.size w w') (H4 : ∀ w, Calls Tryz.prog 25 #[.int .i64 (-9223372036854775808), .int .i64 (-9223372036854775808)] w fun xe w' => xe = .returned (.agg #[.int .u64 ((zl r2.num : Nat) : Int), .string (zh r2.num), .bool (zs r2.num), .int .u64 ((lo (fe r2) : Nat) : Int), .string (hs (fe r2))]) ∧ Below w.heap.size w w') (H5 : ∀ w, Calls Tryz.prog 25 #[.int .i64 1, .int .i64 2] w fun xe w' => xe = .returned (.agg #[.int .u64 ((zl r3.num : Nat) : Int), .string (zh r3.num), .bool (zs r3.num), .int .u64 ((lo (fe r3) : Nat) : Int), .string (hs (fe r3))]) ∧ Below w.heap.size w w') (H6 : ∀ w, Calls Tryz.prog 25 #[.int .i64 (-1), .int .i64 4] w fun xe w' => xe = .returned (.agg #[.int .u64 ((zl r4.num : Nat) : Int), .string (zh r4.num), .bool (zs r4.num), .int .u64 ((lo (fe r4) : Nat) : Int), .string (hs (fe r4))]) ∧ Below w.heap.size w w') (H7 : ∀ w, Calls Tryz.prog 27 #[.agg #[.int .u64 ((zl r3.num : Nat) : Int), .string (zh r3.num), .bool (zs r3.num), .int .u64 ((lo (fe r3) : Nat) : Int), .string (hs (fe r3))], .agg #[.int .u64 ((zl r4.num : Nat) : Int), .string (zh r4.num), .bool (zs r4.num), .int .u64 ((lo (fe r4) : Nat) : Int), .string (hs (fe r4))]] w fun xe w' => xe = .returned (.tuple #[.agg #[.int .u64 ((zl r5.num : Nat) : Int), .string (zh r5.num), .bool (zs r5.num), .int .u64 ((lo (fe r5) : Nat) : Int), .string (hs (fe r5))], .int .i64 0]) ∧ Below w.heap.size w w') (H8 : ∀ w, Calls Tryz.prog 28 #[.int .i64 1] w fun xe w' => xe = .returned (.agg #[.int .u64 ((zl r2.num : Nat) : Int), .string (zh r2.num), .bool (zs r2.num), .int .u64 ((lo (fe r2) : Nat) : Int), .string (hs (fe r2))]) ∧ Below w.heap.size w w') (H9 : ∀ w, Calls Tryz.prog 27 #[.agg #[.int .u64 ((zl r2.num : Nat) : Int), .string (zh r2.num), .bool (zs r2.num), .int .u64 ((lo (fe r2) : Nat) : Int), .string (hs (fe r2))], .agg #[.int .u64 0, .string ⟨#[]⟩, .bool false, .int .u64 0, .string ⟨#[]⟩]] w fun xe w' => xe = .returned (.tuple #[.agg #[.int .u64 0, .string ⟨#[]⟩, .bool false, .int .u64 0, .string ⟨#[]⟩], .int .i64 5]) ∧ Below w.heap.size w w') (H10 : ∀ w, Tab w → Calls Tryz.prog 29 #[.agg #[.int .u64 ((zl r1.num : Nat) : Int), .string (zh r1.num), .bool (zs r1.num), .int .u64 ((lo (fe r1) : Nat) : Int), .string (hs (fe r1))], .string (ByteArray.mk #[45, 51, 47, 50])] w fun xe w' => xe = .returned (.bool true) ∧ Below w.heap.size w w') (H11 : ∀ w, Tab w → Calls Tryz.prog 29 #[.agg #[.int .u64 ((zl r2.num : Nat) : Int), .string (zh r2.num), .bool (zs r2.num), .int .u64 ((lo (fe r2) : Nat) : Int), .string (hs (fe r2))], .string (ByteArray.mk #[49])] w fun xe w' => xe = .returned (.bool true) ∧ Below w.heap.size w w') (H12 : ∀ w, Calls Tryz.prog 25 #[.int .i64 1, .int .i64 3] w fun xe w' => xe = .returned (.agg #[.int .u64 ((zl r6.num : Nat) : Int), .string (zh r6.num), .bool (zs r6.num), .int .u64 ((lo (fe r6) : Nat) : Int), .string (hs (fe r6))]) ∧ Below w.heap.size w w') (H13 : ∀ w, Calls Tryz.prog 30 #[.agg #[.int .u64 ((zl r3.num : Nat) : Int), .string (zh r3.num), .bool (zs r3.num), .int .u64 ((lo (fe r3) : Nat) : Int), .string (hs (fe r3))], .agg #[.int .u64 ((zl r6.num : Nat) : Int), .string (zh r6.num), .bool (zs r6.num), .int .u64 ((lo (fe r6) : Nat) : Int), .string (hs (fe r6))]] w fun xe w' => xe = .returned (.agg #[.int .u64 ((zl r7.num : Nat) : Int), .string (zh r7.num), .bool (zs r7.num), .int .u64 ((lo (fe r7) : Nat) : Int), .string (hs (fe r7))]) ∧ Below w.heap.size w w') (H14 : ∀ w, Tab w → Calls Tryz.prog 29 #[.agg #[.int .u64 ((zl r7.num : Nat) : Int), .string (zh r7.num), .bool (zs r7.num), .int .u64 ((lo (fe r7) : Nat) : Int), .string (hs (fe r7))], .string (ByteArray.mk #[53, 47, 54])] w fun xe w' => xe = .returned (.bool true) ∧ Below w.heap.size w w') (H15 : ∀ w, Calls Tryz.prog 31 #[.agg #[.int .u64 ((zl r3.num : Nat) : Int), .string (zh r3.num), .bool (zs r3.num), .int .u64 ((lo (fe r3) : Nat) : Int), .string (hs (fe r3))], .agg #[.int .u64 ((zl r3.num : Nat) : Int), .string (zh r3.num), .bool (zs r3.num), .int .u64 ((lo (fe r3) : Nat) : Int), .string (hs (fe r3))]] w fun xe w' => xe = .returned (.agg #[.int .u64 0, .string ⟨#[]⟩, .bool false, .int .u64 0, .string ⟨#[]⟩]) ∧ Below w.heap.size w w') (H16 : ∀ w, Tab w → Calls Tryz.prog 29 #[.agg #[.int .u64 0, .string ⟨#[]⟩, .bool false, .int .u64 0, .string ⟨#[]⟩], .string (ByteArray.mk #[48])] w fun xe w' => xe = .returned (.bool true) ∧ Below w.heap.size w w') (H17 : ∀ w, Calls Tryz.prog 25 #[.int .i64 2, .int .i64 3] w fun xe w' => xe = .returned (.agg #[.int .u64 ((zl r8.num : Nat) : Int), .string (zh r8.num), .bool (zs r8.num), .int .u64 ((lo (fe r8) : Nat) : Int), .string (hs (fe r8))]) ∧ Below w.heap.size w w') (H18 : ∀ w, Calls Tryz.prog 25 #[.int .i64 3, .int .i64 2] w fun xe w' => xe = .returned (.agg #[.int .u64 ((zl r9.num : Nat) : Int), .string (zh r9.num), .bool (zs r9.num), .int .u64 ((lo (fe r9) : Nat) : Int), .string (hs (fe r9))]) ∧ Below w.heap.size w w') (H19 : ∀ w, Calls Tryz.prog 32 #[.agg #[.int .u64 ((zl r8.num : Nat) : Int), .string (zh r8.num), .bool (zs r8.num), .int .u64 ((lo (fe r8) : Nat) : Int), .string (hs (fe r8))], .agg #[.int .u64 ((zl r9.num : Nat) : Int), .string (zh r9.num), .bool (zs r9.num), .int .u64 ((lo (fe r9) : Nat) : Int), .string (hs (fe r9))]] w fun xe w' => xe = .returned (.agg #[.int .u64 ((zl r2.num : Nat) : Int), .string (zh r2.num), .bool (zs r2.num), .int .u64 ((lo (fe r2) : Nat) : Int), .string (hs (fe r2))]) ∧ Below w.heap.size w w') (H20 : ∀ w, Tab w → Calls Tryz.prog 29 #[.agg #[.int .u64 ((zl r5.num : Nat) : Int), .string (zh r5.num), .bool (zs r5.num), .int .u64 ((lo (fe r5) : Nat) : Int), .string (hs (fe r5))], .string (ByteArray.mk #[45, 50])] w fun xe w' => xe = .returned (.bool true) ∧ Below w.heap.size w w') (H21 : ∀ w, Calls Tryz.prog 33 #[.agg #[.int .u64 ((zl r8.num : Nat) : Int), .string (zh r8.num), .bool (zs r8.num), .int .u64 ((lo (fe r8) : Nat) : Int), .string (hs (fe r8))], .int .i64 (-2)] w fun xe w' => xe = .returned (.tuple #[.agg #[.int .u64 ((zl r10.num : Nat) : Int), .string (zh r10.num), .bool (zs r10.num), .int .u64 ((lo (fe r10) : Nat) : Int), .string (hs (fe r10))], .int .i64 0]) ∧ Below w.heap.size w w') (H22 : ∀ w, Calls Tryz.prog 33 #[.agg #[.int .u64 0, .string ⟨#[]⟩, .bool false, .int .u64 0, .string ⟨#[]⟩], .int .i64 (-1)] w fun xe w' => xe = .returned (.tuple #[.agg #[.int .u64 0, .string ⟨#[]⟩, .bool false, .int .u64 0, .string ⟨#[]⟩], .int .i64 5]) ∧ Below w.heap.size w w') (H23 : ∀ w, Calls Tryz.prog 33 #[.agg #[.int .u64 0, .string ⟨#[]⟩, .bool false, .int .u64 0, .string ⟨#[]⟩], .int .i64 0] w fun xe w' => xe = .returned (.tuple #[.agg #[.int .u64 ((zl r2.num : Nat) : Int), .string (zh r2.num), .bool (zs r2.num), .int .u64 ((lo (fe r2) : Nat) : Int), .string (hs (fe r2))], .int .i64 0]) ∧ Below w.heap.size w w') (H24 : ∀ w, Calls Tryz.prog 34 #[.agg #[.int .u64 ((zl r1.num : Nat) : Int), .string (zh r1.num), .bool (zs r1.num), .int .u64 ((lo (fe r1) : Nat) : Int), .string (hs (fe r1))]] w fun xe w' => xe = .returned (.agg #[.int .u64 ((zl z1 : Nat) : Int), .string (zh z1), .bool (zs z1)]) ∧ Below w.heap.size w w') (H25 : ∀ w, Tab w → Calls Tryz.prog 15 #[.agg #[.int .u64 ((zl z1 : Nat) : Int), .string (zh z1), .bool (zs z1)]] w fun xe w' => xe = .returned (.string (ByteArray.mk #[45, 50])) ∧ Below w.heap.size w w') (H26 : ∀ w, Calls Tryz.prog 35 #[.agg #[.int .u64 ((zl r1.num : Nat) : Int), .string (zh r1.num), .bool (zs r1.num), .int .u64 ((lo (fe r1) : Nat) : Int), .string (hs (fe r1))]] w fun xe w' => xe = .returned (.agg #[.int .u64 ((zl z2 : Nat) : Int), .string (zh z2), .bool (zs z2)]) ∧ Below w.heap.size w w') (H27 : ∀ w, Tab w → Calls Tryz.prog 15 #[.agg #[.int .u64 ((zl z2 : Nat) : Int), .string (zh z2), .bool (zs z2)]] w fun xe w' => xe = .returned (.string (ByteArray.mk #[45, 49])) ∧ Below w.heap.size w w') (H28 : ∀ w, Tab w → Calls Tryz.prog 29 #[.agg #[.int .u64 ((zl r10.num : Nat) : Int), .string (zh r10.num), .bool (zs r10.num), .int .u64 ((lo (fe r10) : Nat) : Int), .string (hs (fe r10))], .string (ByteArray.mk #[57, 47, 52])] w fun xe w' => xe = .returned (.bool true) ∧ Below w.heap.size w w') (H29 : ∀ w, Calls Tryz.prog 36 #[.slice none 0 0] w fun xe w' => xe = .returned (.agg #[.int .u64 0, .string ⟨#[]⟩, .bool false, .int .u64 0, .string ⟨#[]⟩]) ∧ Below w.heap.size w w') (H30 : ∀ w, Calls Tryz.prog 28 #[.int .i64 (-1)] w fun xe w' => xe = .returned (.agg #[.int .u64 ((zl r11.num : Nat) : Int), .string (zh r11.num), .bool (zs r11.num), .int .u64 ((lo (fe r11) : Nat) : Int), .string (hs (fe r11))]) ∧ Below w.heap.size w w') (H31 : ∀ w, Calls Tryz.prog 25 #[.int .i64 (-1), .int .i64 2] w fun xe w' => xe = .returned (.agg #[.int .u64 ((zl r12.num : Nat) : Int), .string (zh r12.num), .bool (zs r12.num), .int .u64 ((lo (fe r12) : Nat) : Int), .string (hs (fe r12))]) ∧ Below w.heap.size w w') (H32 : ∀ g w, Hd w g [.int .u64 ((zl r11.num : Nat) : Int), .string (zh r11.num), .bool (zs r11.num), .int .u64 ((lo (fe r11) : Nat) : Int), .string (hs (fe r11)), .int .u64 ((zl r12.num : Nat) : Int), .string (zh r12.num), .bool (zs r12.num), .int .u64 ((lo (fe r12) : Nat) : Int), .string (hs (fe r12))] → Calls Tryz.prog 36 #[.slice (some ⟨g, 0, none⟩) 2 2] w fun xe w' => xe = .returned (.agg #[.int .u64 ((zl r12.num : Nat) : Int), .string (zh r12.num), .bool (zs r12.num), .int .u64 ((lo (fe r12) : Nat) : Int), .string (hs (fe r12))]) ∧ Below w.heap.size w w') (H33 : ∀ w, Tab w → Calls Tryz.prog 29 #[.agg #[.int .u64 ((zl r12.num : Nat) : Int), .string (zh r12.num), .bool (zs r12.num), .int .u64 ((lo (fe r12) : Nat) : Int), .string (hs (fe r12))], .string (ByteArray.mk #[45, 49, 47, 50])] w fun xe w' => xe = .returned (.bool true) ∧ Below w.heap.size w w') (w : World) (htab : Tab w) (kKM : KM w) :
    Calls Tryz.prog 6 #[] w fun xe w' => xe = .returned (.bool true) ∧ Below w.heap.size w w' := by
  have hL0 : GL w w [] := GL.start w
  replace hKM := Lib.hid hKM
  replace P0 := Lib.hid P0
  replace P1 := Lib.hid P1
  replace P2 := Lib.hid P2
  replace P3 := Lib.hid P3
  replace P4 := Lib.hid P4
  replace P5 := Lib.hid P5
  replace P6 := Lib.hid P6
  replace H1 := Lib.hid H1
  replace H2 := Lib.hid H2
  replace H3 := Lib.hid H3
  replace H4 := Lib.hid H4
  replace H5 := Lib.hid H5
  replace H6 := Lib.hid H6
  replace H7 := Lib.hid H7
  replace H8 := Lib.hid H8
  replace H9 := Lib.hid H9
  replace H10 := Lib.hid H10
  replace H11 := Lib.hid H11
  replace H12 := Lib.hid H12
  replace H13 := Lib.hid H13
  replace H14 := Lib.hid H14
  replace H15 := Lib.hid H15
  replace H16 := Lib.hid H16
  replace H17 := Lib.hid H17
  replace H18 := Lib.hid H18
  replace H19 := Lib.hid H19
  replace H20 := Lib.hid H20
  replace H21 := Lib.hid H21
  replace H22 := Lib.hid H22
  replace H23 := Lib.hid H23
  replace H24 := Lib.hid H24
  replace H25 := Lib.hid H25
  replace H26 := Lib.hid H26
  replace H27 := Lib.hid H27
  replace H28 := Lib.hid H28
  replace H29 := Lib.hid H29
  replace H30 := Lib.hid H30
  replace H31 := Lib.hid H31
  replace H32 := Lib.hid H32
  replace H33 := Lib.hid H33
  go_enter Tryz.func6, Tryz.ntmps6
  go_wp2_with fail
  with_reducible refine Calls.mono (H1.out _) ?_
  rintro e x1 ⟨rfl, hb⟩
  replace hL0 := hL0.call hb
  clear hb
  go_wp2_with fail
  with_reducible refine Calls.mono (H2.out _) ?_
  rintro e x2 ⟨rfl, hb⟩
  replace hL0 := hL0.call hb
  clear hb
  replace hL0 := ((hL0.new rfl [.int .u64 ((zl r1.num : Nat) : Int), .string (zh r1.num), .bool (zs r1.num), .int .u64 ((lo (fe r1) : Nat) : Int), .string (hs (fe r1))] 35).new (K := x2.heap.size + 1) (szA _ _) [.int .u64 0, .string ⟨#[]⟩, .bool false, .int .u64 0, .string ⟨#[]⟩] 35)
  generalize hweq : ((x2.alloc (.cells #[.int .u64 ((zl r1.num : Nat) : Int), .string (zh r1.num), .bool (zs r1.num), .int .u64 ((lo (fe r1) : Nat) : Int), .string (hs (fe r1))] 35)).alloc (.cells #[.int .u64 0, .string ⟨#[]⟩, .bool false, .int .u64 0, .string ⟨#[]⟩] 35)) = x3 at hL0
  have hA := hL0.fc
  simp only [fcG, cellsF, neK, and_true, ne_eq, Nat.zero_add, Nat.reduceAdd] at hA
  have hP := hL0.put 0 (x2.heap.size + 1) _ rfl [.int .u64 0, .string ⟨#[]⟩, .bool false, .int .u64 0, .string ⟨#[]⟩] rfl
  simp only [setAll, List.set_cons_zero, List.set_cons_succ] at hP
  generalize hput1 : (((((x3.setCell ⟨x2.heap.size + 1, 0, none⟩ (.int .u64 0)).setCell ⟨x2.heap.size + 1, 1, none⟩ (.string ⟨#[]⟩)).setCell ⟨x2.heap.size + 1, 2, none⟩ (.bool false)).setCell ⟨x2.heap.size + 1, 3, none⟩ (.int .u64 0)).setCell ⟨x2.heap.size + 1, 4, none⟩ (.string ⟨#[]⟩)) = x4 at hP
  have hB1 := hP.fc
  simp only [fcG, cellsF, neK, and_true, ne_eq, Nat.zero_add, Nat.reduceAdd] at hB1
  replace hL0 := hP
  go_wp2_with fail
  clear hA
  with_reducible refine Calls.mono (H3.out _) ?_
  rintro e x5 ⟨rfl, hb⟩
  replace hL0 := hL0.call hb
  clear hb hweq hput1 hB1
  replace hL0 := (hL0.new rfl [.int .u64 0, .string ⟨#[]⟩, .bool false, .int .u64 0, .string ⟨#[]⟩] 35)
  generalize hweq : (x5.alloc (.cells #[.int .u64 0, .string ⟨#[]⟩, .bool false, .int .u64 0, .string ⟨#[]⟩] 35)) = x6 at hL0
  have hA := hL0.fc
  simp only [fcG, cellsF, neK, and_true, ne_eq, Nat.zero_add, Nat.reduceAdd] at hA
  have hP := hL0.put 0 (x5.heap.size) _ rfl [.int .u64 0, .string ⟨#[]⟩, .bool false, .int .u64 0, .string ⟨#[]⟩] rfl
  simp only [setAll, List.set_cons_zero, List.set_cons_succ] at hP
  generalize hput2 : (((((x6.setCell ⟨x5.heap.size, 0, none⟩ (.int .u64 0)).setCell ⟨x5.heap.size, 1, none⟩ (.string ⟨#[]⟩)).setCell ⟨x5.heap.size, 2, none⟩ (.bool false)).setCell ⟨x5.heap.size, 3, none⟩ (.int .u64 0)).setCell ⟨x5.heap.size, 4, none⟩ (.string ⟨#[]⟩)) = x7 at hP
  have hB2 := hP.fc
  simp only [fcG, cellsF, neK, and_true, ne_eq, Nat.zero_add, Nat.reduceAdd] at hB2
  replace hL0 := hP
  go_wp2_with fail
  clear hA
  with_reducible refine Calls.mono (H4.out _) ?_
  rintro e x8 ⟨rfl, hb⟩
  replace hL0 := hL0.call hb
  clear hb hweq hput2 hB2
  replace hL0 := (hL0.new rfl [.int .u64 ((zl r2.num : Nat) : Int), .string (zh r2.num), .bool (zs r2.num), .int .u64 ((lo (fe r2) : Nat) : Int), .string (hs (fe r2))] 35)
  generalize hweq : (x8.alloc (.cells #[.int .u64 ((zl r2.num : Nat) : Int), .string (zh r2.num), .bool (zs r2.num), .int .u64 ((lo (fe r2) : Nat) : Int), .string (hs (fe r2))] 35)) = x9 at hL0
  go_wp2_with fail
  with_reducible refine Calls.mono (H5.out _) ?_
  rintro e x10 ⟨rfl, hb⟩
  replace hL0 := hL0.call hb
  clear hb hweq
  go_wp2_with fail
  with_reducible refine Calls.mono (H6.out _) ?_
  rintro e x11 ⟨rfl, hb⟩
  replace hL0 := hL0.call hb
  clear hb
  go_wp2_with fail
  with_reducible refine Calls.mono (H7.out _) ?_
  rintro e x12 ⟨rfl, hb⟩
  replace hL0 := hL0.call hb
  clear hb
  replace hL0 := (hL0.new rfl [.int .u64 ((zl r5.num : Nat) : Int), .string (zh r5.num), .bool (zs r5.num), .int .u64 ((lo (fe r5) : Nat) : Int), .string (hs (fe r5))] 35)
  generalize hweq : (x12.alloc (.cells #[.int .u64 ((zl r5.num : Nat) : Int), .string (zh r5.num), .bool (zs r5.num), .int .u64 ((lo (fe r5) : Nat) : Int), .string (hs (fe r5))] 35)) = x13 at hL0
  go_upto_region 5 with fail
  clear hweq
  refine region_gh (by kernel_rfl) (by kernel_rfl) ?_
  refine lex_seg (gl := []) 6 (by kernel_rfl) ?_
  intro α iα F hF1 hF2
  have hq := GL.seg hF1 hL0
  simp only [fcC, cellsC, and_true, Nat.zero_add, Nat.reduceAdd] at hq
  simp only [List.take_succ_cons, List.take_zero, List.drop_succ_cons, List.drop_zero, List.take_nil, List.drop_nil]
  repeat (go_big_quiet_step (first | fail | (go_at_call 28; with_reducible exact seg_call hF2 H8.out _) | (go_at_call 27; with_reducible exact seg_call hF2 H9.out _)))
  refine wpQuiet_nil ?_
  clear hq hF1 hF2 iα F α
  refine lex_new [.int .u64 0, .string ⟨#[]⟩, .bool false, .int .u64 0, .string ⟨#[]⟩] 8 35 35 rfl rfl (of_decide_eq_true (by kernel_rfl)) (by kernel_rfl) rfl new_frac ?_
  simp only [Act.put, List.setIfInBounds_toArray, List.set_cons_succ, List.set_cons_zero]
  refine lex_put [.int .u64 0, .string ⟨#[]⟩, .bool false, .int .u64 0, .string ⟨#[]⟩] [.int .u64 0, .string ⟨#[]⟩, .bool false, .int .u64 0, .string ⟨#[]⟩] 8 35 (.tmp 38) rfl (by kernel_rfl) (by simp [toG, upd]) rfl (fun w k h => put_frac _ _ _ _ _ _ _ _ _ _ w k h) ?_
  simp only [Act.put]
  refine lex_seg (gl := [(8, [.int .u64 0, .string ⟨#[]⟩, .bool false, .int .u64 0, .string ⟨#[]⟩], true), (8, [.int .u64 0, .string ⟨#[]⟩, .bool false, .int .u64 0, .string ⟨#[]⟩], false)]) 1 (by kernel_rfl) ?_
  intro α iα F hF1 hF2
  have hq := GL.seg hF1 hL0
  simp only [fcC, cellsC, and_true, Nat.zero_add, Nat.reduceAdd] at hq
  simp only [List.take_succ_cons, List.take_zero, List.drop_succ_cons, List.drop_zero, List.take_nil, List.drop_nil]
  repeat (go_big_quiet_step (first | fail | (go_at_call 28; with_reducible exact seg_call hF2 H8.out _) | (go_at_call 27; with_reducible exact seg_call hF2 H9.out _)))
  refine wpQuiet_nil ?_
  clear hq hF1 hF2 iα F α
  refine lexG_nil ?_
  intro κ x14 hS
  replace hL0 := hL0.ghs hS [(8, [.int .u64 0, .string ⟨#[]⟩, .bool false, .int .u64 0, .string ⟨#[]⟩])] (by simp) (by intro p hp; simp only [List.mem_cons, List.not_mem_nil, or_false] at hp; rcases hp with rfl <;> exact ⟨_, by simp only [toG, upd]; rfl⟩)
  simp only [List.map_cons, List.map_nil, List.cons_append, List.nil_append] at hL0
  simp only [over_toG, over_nil, Act.put, List.setIfInBounds_toArray, List.set_cons_succ, List.set_cons_zero]
  clear hS
  generalize κ 8 = k14_8 at *
  have hN0 := cells_of _ 0 [] rfl (hL0.get _ _ (List.mem_cons_of_mem _ (List.mem_cons_of_mem _ (List.mem_cons_of_mem _ (List.mem_cons_of_mem _ (List.mem_cons_of_mem _ List.mem_cons_self))))))
  simp only [cellsF, and_true, Nat.zero_add, Nat.reduceAdd] at hN0
  go_wp2_with fail
  clear hN0
  with_reducible refine Calls.mono (H10.out _ (htab.below hL0.bl)) ?_
  rintro e x15 ⟨rfl, hb⟩
  replace hL0 := hL0.call hb
  clear hb
  have hN0 := cells_of _ 0 [] rfl (hL0.get _ _ (List.mem_cons_of_mem _ (List.mem_cons_of_mem _ List.mem_cons_self)))
  simp only [cellsF, and_true, Nat.zero_add, Nat.reduceAdd] at hN0
  have hN1 := cells_of _ 0 [] rfl (hL0.get _ _ (List.mem_cons_of_mem _ (List.mem_cons_of_mem _ (List.mem_cons_of_mem _ (List.mem_cons_of_mem _ List.mem_cons_self)))))
  simp only [cellsF, and_true, Nat.zero_add, Nat.reduceAdd] at hN1
  go_wp2_with fail
  clear hN0 hN1
  with_reducible refine Calls.mono (H11.out _ (htab.below hL0.bl)) ?_
  rintro e x16 ⟨rfl, hb⟩
  replace hL0 := hL0.call hb
  clear hb
  go_wp2_with fail
  with_reducible refine Calls.mono (H5.out _) ?_
  rintro e x17 ⟨rfl, hb⟩
  replace hL0 := hL0.call hb
  clear hb
  go_wp2_with fail
  with_reducible refine Calls.mono (H12.out _) ?_
  rintro e x18 ⟨rfl, hb⟩
  replace hL0 := hL0.call hb
  clear hb
  go_wp2_with fail
  with_reducible refine Calls.mono (H13.out _) ?_
  rintro e x19 ⟨rfl, hb⟩
  replace hL0 := hL0.call hb
  clear hb
  go_wp2_with fail
  with_reducible refine Calls.mono (H14.out _ (htab.below hL0.bl)) ?_
  rintro e x20 ⟨rfl, hb⟩
  replace hL0 := hL0.call hb
  clear hb
  go_wp2_with fail
  with_reducible refine Calls.mono (H5.out _) ?_
  rintro e x21 ⟨rfl, hb⟩
  replace hL0 := hL0.call hb
  clear hb
  go_wp2_with fail
  with_reducible refine Calls.mono (H5.out _) ?_
  rintro e x22 ⟨rfl, hb⟩
  replace hL0 := hL0.call hb
  clear hb
  go_wp2_with fail
  with_reducible refine Calls.mono (H15.out _) ?_
  rintro e x23 ⟨rfl, hb⟩
  replace hL0 := hL0.call hb
  clear hb
  go_wp2_with fail
  with_reducible refine Calls.mono (H16.out _ (htab.below hL0.bl)) ?_
  rintro e x24 ⟨rfl, hb⟩
  replace hL0 := hL0.call hb
  clear hb
  go_wp2_with fail
  with_reducible refine Calls.mono (H17.out _) ?_
  rintro e x25 ⟨rfl, hb⟩
  replace hL0 := hL0.call hb
  clear hb
  go_wp2_with fail
  with_reducible refine Calls.mono (H18.out _) ?_
  rintro e x26 ⟨rfl, hb⟩
  replace hL0 := hL0.call hb
  clear hb
  go_wp2_with fail
  with_reducible refine Calls.mono (H19.out _) ?_
  rintro e x27 ⟨rfl, hb⟩
  replace hL0 := hL0.call hb
  clear hb
  go_wp2_with fail
  with_reducible refine Calls.mono (H11.out _ (htab.below hL0.bl)) ?_
  rintro e x28 ⟨rfl, hb⟩
  replace hL0 := hL0.call hb
  clear hb
  have hN0 := cells_of _ 0 [] rfl (hL0.get _ _ (List.mem_cons_of_mem _ List.mem_cons_self))
  simp only [cellsF, and_true, Nat.zero_add, Nat.reduceAdd] at hN0
  go_wp2_with fail
  clear hN0
  with_reducible refine Calls.mono (H20.out _ (htab.below hL0.bl)) ?_
  rintro e x29 ⟨rfl, hb⟩
  replace hL0 := hL0.call hb
  clear hb
  go_wp2_with fail
  with_reducible refine Calls.mono (H17.out _) ?_
  rintro e x30 ⟨rfl, hb⟩
  replace hL0 := hL0.call hb
  clear hb
  go_wp2_with fail
  with_reducible refine Calls.mono (H21.out _) ?_
  rintro e x31 ⟨rfl, hb⟩
  replace hL0 := hL0.call hb
  clear hb
  replace hL0 := (hL0.new rfl [.int .u64 ((zl r10.num : Nat) : Int), .string (zh r10.num), .bool (zs r10.num), .int .u64 ((lo (fe r10) : Nat) : Int), .string (hs (fe r10))] 35)
  generalize hweq : (x31.alloc (.cells #[.int .u64 ((zl r10.num : Nat) : Int), .string (zh r10.num), .bool (zs r10.num), .int .u64 ((lo (fe r10) : Nat) : Int), .string (hs (fe r10))] 35)) = x32 at hL0
  have hN0 := cells_of _ 0 [] rfl (hL0.get _ _ (List.mem_cons_of_mem _ (List.mem_cons_of_mem _ (List.mem_cons_of_mem _ (List.mem_cons_of_mem _ (List.mem_cons_of_mem _ List.mem_cons_self))))))
  simp only [cellsF, and_true, Nat.zero_add, Nat.reduceAdd] at hN0
  go_wp2_with fail
  clear hN0
  with_reducible refine Calls.mono (H22.out _) ?_
  rintro e x33 ⟨rfl, hb⟩
  replace hL0 := hL0.call hb
  clear hb hweq
  replace hL0 := (hL0.new rfl [.int .u64 0, .string ⟨#[]⟩, .bool false, .int .u64 0, .string ⟨#[]⟩] 35)
  generalize hweq : (x33.alloc (.cells #[.int .u64 0, .string ⟨#[]⟩, .bool false, .int .u64 0, .string ⟨#[]⟩] 35)) = x34 at hL0
  have hA := hL0.fc
  simp only [fcG, cellsF, neK, and_true, ne_eq, Nat.zero_add, Nat.reduceAdd] at hA
  have hP := hL0.put 0 (x33.heap.size) _ rfl [.int .u64 0, .string ⟨#[]⟩, .bool false, .int .u64 0, .string ⟨#[]⟩] rfl
  simp only [setAll, List.set_cons_zero, List.set_cons_succ] at hP
  generalize hput3 : (((((x34.setCell ⟨x33.heap.size, 0, none⟩ (.int .u64 0)).setCell ⟨x33.heap.size, 1, none⟩ (.string ⟨#[]⟩)).setCell ⟨x33.heap.size, 2, none⟩ (.bool false)).setCell ⟨x33.heap.size, 3, none⟩ (.int .u64 0)).setCell ⟨x33.heap.size, 4, none⟩ (.string ⟨#[]⟩)) = x35 at hP
  have hB3 := hP.fc
  simp only [fcG, cellsF, neK, and_true, ne_eq, Nat.zero_add, Nat.reduceAdd] at hB3
  replace hL0 := hP
  go_wp2_with fail
  clear hA
  with_reducible refine Calls.mono (H23.out _) ?_
  rintro e x36 ⟨rfl, hb⟩
  replace hL0 := hL0.call hb
  clear hb hweq hput3 hB3
  replace hL0 := (hL0.new rfl [.int .u64 ((zl r2.num : Nat) : Int), .string (zh r2.num), .bool (zs r2.num), .int .u64 ((lo (fe r2) : Nat) : Int), .string (hs (fe r2))] 35)
  generalize hweq : (x36.alloc (.cells #[.int .u64 ((zl r2.num : Nat) : Int), .string (zh r2.num), .bool (zs r2.num), .int .u64 ((lo (fe r2) : Nat) : Int), .string (hs (fe r2))] 35)) = x37 at hL0
  have hN0 := cells_of _ 0 [] rfl (hL0.get _ _ (List.mem_cons_of_mem _ (List.mem_cons_of_mem _ (List.mem_cons_of_mem _ (List.mem_cons_of_mem _ (List.mem_cons_of_mem _ (List.mem_cons_of_mem _ (List.mem_cons_of_mem _ (List.mem_cons_of_mem _ List.mem_cons_self)))))))))
  simp only [cellsF, and_true, Nat.zero_add, Nat.reduceAdd] at hN0
  go_wp2_with fail
  clear hN0
  with_reducible refine Calls.mono (H24.out _) ?_
  rintro e x38 ⟨rfl, hb⟩
  replace hL0 := hL0.call hb
  clear hb hweq
  go_wp2_with fail
  with_reducible refine Calls.mono (H25.out _ (htab.below hL0.bl)) ?_
  rintro e x39 ⟨rfl, hb⟩
  replace hL0 := hL0.call hb
  clear hb
  have hN0 := cells_of _ 0 [] rfl (hL0.get _ _ (List.mem_cons_of_mem _ (List.mem_cons_of_mem _ (List.mem_cons_of_mem _ (List.mem_cons_of_mem _ (List.mem_cons_of_mem _ (List.mem_cons_of_mem _ (List.mem_cons_of_mem _ (List.mem_cons_of_mem _ List.mem_cons_self)))))))))
  simp only [cellsF, and_true, Nat.zero_add, Nat.reduceAdd] at hN0
  go_wp2_with fail
  clear hN0
  with_reducible refine Calls.mono (H26.out _) ?_
  rintro e x40 ⟨rfl, hb⟩
  replace hL0 := hL0.call hb
  clear hb
  go_wp2_with fail
  with_reducible refine Calls.mono (H27.out _ (htab.below hL0.bl)) ?_
  rintro e x41 ⟨rfl, hb⟩
  replace hL0 := hL0.call hb
  clear hb
  have hN0 := cells_of _ 0 [] rfl (hL0.get _ _ (List.mem_cons_of_mem _ (List.mem_cons_of_mem _ List.mem_cons_self)))
  simp only [cellsF, and_true, Nat.zero_add, Nat.reduceAdd] at hN0
  go_wp2_with fail
  clear hN0
  with_reducible refine Calls.mono (H28.out _ (htab.below hL0.bl)) ?_
  rintro e x42 ⟨rfl, hb⟩
  replace hL0 := hL0.call hb
  clear hb
  have hN0 := cells_of _ 0 [] rfl (hL0.get _ _ List.mem_cons_self)
  simp only [cellsF, and_true, Nat.zero_add, Nat.reduceAdd] at hN0
  go_wp2_with fail
  clear hN0
  with_reducible refine Calls.mono (H11.out _ (htab.below hL0.bl)) ?_
  rintro e x43 ⟨rfl, hb⟩
  replace hL0 := hL0.call hb
  clear hb
  go_wp2_with fail
  with_reducible refine Calls.mono (H29.out _) ?_
  rintro e x44 ⟨rfl, hb⟩
  replace hL0 := hL0.call hb
  clear hb
  go_wp2_with fail
  with_reducible refine Calls.mono (H16.out _ (htab.below hL0.bl)) ?_
  rintro e x45 ⟨rfl, hb⟩
  replace hL0 := hL0.call hb
  clear hb
  go_wp2_with fail
  with_reducible refine Calls.mono (H30.out _) ?_
  rintro e x46 ⟨rfl, hb⟩
  replace hL0 := hL0.call hb
  clear hb
  go_wp2_with fail
  with_reducible refine Calls.mono (H31.out _) ?_
  rintro e x47 ⟨rfl, hb⟩
  replace hL0 := hL0.call hb
  clear hb
  replace hL0 := (hL0.new rfl [.int .u64 ((zl r11.num : Nat) : Int), .string (zh r11.num), .bool (zs r11.num), .int .u64 ((lo (fe r11) : Nat) : Int), .string (hs (fe r11)), .int .u64 ((zl r12.num : Nat) : Int), .string (zh r12.num), .bool (zs r12.num), .int .u64 ((lo (fe r12) : Nat) : Int), .string (hs (fe r12))] 35)
  generalize hweq : (x47.alloc (.cells #[.int .u64 ((zl r11.num : Nat) : Int), .string (zh r11.num), .bool (zs r11.num), .int .u64 ((lo (fe r11) : Nat) : Int), .string (hs (fe r11)), .int .u64 ((zl r12.num : Nat) : Int), .string (zh r12.num), .bool (zs r12.num), .int .u64 ((lo (fe r12) : Nat) : Int), .string (hs (fe r12))] 35)) = x48 at hL0
  go_wp2_with fail
  with_reducible refine Calls.mono (H32.out _ _ (hL0.get _ _ List.mem_cons_self)) ?_
  rintro e x49 ⟨rfl, hb⟩
  replace hL0 := hL0.call hb
  clear hb hweq
  go_wp2_with fail
  with_reducible refine Calls.mono (H33.out _ (htab.below hL0.bl)) ?_
  rintro e x50 ⟨rfl, hb⟩
  replace hL0 := hL0.call hb
  clear hb
  replace hL0 := ((hL0.new rfl [.string (ByteArray.mk #[45, 54, 47, 52]), .string (ByteArray.mk #[49, 47, 48]), .string (ByteArray.mk #[49, 47, 45, 50]), .string (ByteArray.mk #[49, 47, 50, 47, 51]), .string (ByteArray.mk #[48, 47, 55]), .string ⟨#[]⟩, .string (ByteArray.mk #[49, 47])] 9).new (K := x50.heap.size + 1) (szA _ _) [.int .i64 0, .int .i64 5, .int .i64 4, .int .i64 4, .int .i64 0, .int .i64 4, .int .i64 4] 37)
  generalize hweq : ((x50.alloc (.cells #[.string (ByteArray.mk #[45, 54, 47, 52]), .string (ByteArray.mk #[49, 47, 48]), .string (ByteArray.mk #[49, 47, 45, 50]), .string (ByteArray.mk #[49, 47, 50, 47, 51]), .string (ByteArray.mk #[48, 47, 55]), .string ⟨#[]⟩, .string (ByteArray.mk #[49, 47])] 9)).alloc (.cells #[.int .i64 0, .int .i64 5, .int .i64 4, .int .i64 4, .int .i64 0, .int .i64 4, .int .i64 4] 37)) = x51 at hL0
  go_wp2_with fail
  clear hweq
  go_loopw [18] (fun z wr => ∃ i : Nat, i ≤ 7 ∧ z = .int .i64 (i : Int) ∧ GL w wr [(x50.heap.size + 1, [.int .i64 0, .int .i64 5, .int .i64 4, .int .i64 4, .int .i64 0, .int .i64 4, .int .i64 4]), (x50.heap.size, [.string (ByteArray.mk #[45, 54, 47, 52]), .string (ByteArray.mk #[49, 47, 48]), .string (ByteArray.mk #[49, 47, 45, 50]), .string (ByteArray.mk #[49, 47, 50, 47, 51]), .string (ByteArray.mk #[48, 47, 55]), .string ⟨#[]⟩, .string (ByteArray.mk #[49, 47])]), (x47.heap.size, [.int .u64 ((zl r11.num : Nat) : Int), .string (zh r11.num), .bool (zs r11.num), .int .u64 ((lo (fe r11) : Nat) : Int), .string (hs (fe r11)), .int .u64 ((zl r12.num : Nat) : Int), .string (zh r12.num), .bool (zs r12.num), .int .u64 ((lo (fe r12) : Nat) : Int), .string (hs (fe r12))]), (x36.heap.size, [.int .u64 ((zl r2.num : Nat) : Int), .string (zh r2.num), .bool (zs r2.num), .int .u64 ((lo (fe r2) : Nat) : Int), .string (hs (fe r2))]), (x33.heap.size, [.int .u64 0, .string ⟨#[]⟩, .bool false, .int .u64 0, .string ⟨#[]⟩]), (x31.heap.size, [.int .u64 ((zl r10.num : Nat) : Int), .string (zh r10.num), .bool (zs r10.num), .int .u64 ((lo (fe r10) : Nat) : Int), .string (hs (fe r10))]), (k14_8, [.int .u64 0, .string ⟨#[]⟩, .bool false, .int .u64 0, .string ⟨#[]⟩]), (x12.heap.size, [.int .u64 ((zl r5.num : Nat) : Int), .string (zh r5.num), .bool (zs r5.num), .int .u64 ((lo (fe r5) : Nat) : Int), .string (hs (fe r5))]), (x8.heap.size, [.int .u64 ((zl r2.num : Nat) : Int), .string (zh r2.num), .bool (zs r2.num), .int .u64 ((lo (fe r2) : Nat) : Int), .string (hs (fe r2))]), (x5.heap.size, [.int .u64 0, .string ⟨#[]⟩, .bool false, .int .u64 0, .string ⟨#[]⟩]), (x2.heap.size + 1, [.int .u64 0, .string ⟨#[]⟩, .bool false, .int .u64 0, .string ⟨#[]⟩]), (x2.heap.size, [.int .u64 ((zl r1.num : Nat) : Int), .string (zh r1.num), .bool (zs r1.num), .int .u64 ((lo (fe r1) : Nat) : Int), .string (hs (fe r1))])]) (fun z _ => 7 - (intOf z).toNat)
  case atStart => exact ⟨0, by omega, rfl, hL0⟩
  case round =>
    clear hL0
    obtain ⟨i, hi, rfl, hL0⟩ := hrel
    rcases (show i = 0 ∨ i = 1 ∨ i = 2 ∨ i = 3 ∨ i = 4 ∨ i = 5 ∨ i = 6 ∨ i = 7 by omega) with rfl | rfl | rfl | rfl | rfl | rfl | rfl | rfl
    all_goals clear hi
    · skip
      have hN0 := cells_of _ 0 [] rfl (hL0.get _ _ (List.mem_cons_of_mem _ List.mem_cons_self))
      simp only [cellsF, and_true, Nat.zero_add, Nat.reduceAdd] at hN0
      go_wp2_with fail
      clear hN0
      with_reducible refine Calls.mono (P0.out _ (hKM.out.at hL0.bl kKM)) ?_
      rintro e x52 ⟨rfl, hb⟩
      replace hL0 := hL0.call hb
      clear hb
      replace hL0 := (hL0.new rfl [.int .u64 ((zl r1.num : Nat) : Int), .string (zh r1.num), .bool (zs r1.num), .int .u64 ((lo (fe r1) : Nat) : Int), .string (hs (fe r1))] 35)
      generalize hweq : (x52.alloc (.cells #[.int .u64 ((zl r1.num : Nat) : Int), .string (zh r1.num), .bool (zs r1.num), .int .u64 ((lo (fe r1) : Nat) : Int), .string (hs (fe r1))] 35)) = x53 at hL0
      have hN0 := cells_of _ 0 [] rfl (hL0.get _ _ List.mem_cons_self)
      simp only [cellsF, and_true, Nat.zero_add, Nat.reduceAdd] at hN0
      have hN1 := cells_of _ 0 [] rfl (hL0.get _ _ (List.mem_cons_of_mem _ List.mem_cons_self))
      simp only [cellsF, and_true, Nat.zero_add, Nat.reduceAdd] at hN1
      have hN2 := cells_of _ 0 [] rfl (hL0.get _ _ (List.mem_cons_of_mem _ (List.mem_cons_of_mem _ (List.mem_cons_of_mem _ (List.mem_cons_of_mem _ (List.mem_cons_of_mem _ (List.mem_cons_of_mem _ (List.mem_cons_of_mem _ (List.mem_cons_of_mem _ (List.mem_cons_of_mem _ (List.mem_cons_of_mem _ (List.mem_cons_of_mem _ (List.mem_cons_of_mem _ List.mem_cons_self)))))))))))))
      simp only [cellsF, and_true, Nat.zero_add, Nat.reduceAdd] at hN2
      go_wp2_with fail
      go_roundw
      case rel => exact ⟨0 + 1, by omega, by first | rfl | go_num, hL0.weak (List.Sublist.cons _ (List.Sublist.refl _))⟩
      case measure => simp [intOf]
    · skip
      have hN0 := cells_of _ 0 [] rfl (hL0.get _ _ (List.mem_cons_of_mem _ List.mem_cons_self))
      simp only [cellsF, and_true, Nat.zero_add, Nat.reduceAdd] at hN0
      go_wp2_with fail
      clear hN0
      with_reducible refine Calls.mono (P1.out _ (hKM.out.at hL0.bl kKM)) ?_
      rintro e x54 ⟨rfl, hb⟩
      replace hL0 := hL0.call hb
      clear hb
      replace hL0 := (hL0.new rfl [.int .u64 0, .string ⟨#[]⟩, .bool false, .int .u64 0, .string ⟨#[]⟩] 35)
      generalize hweq : (x54.alloc (.cells #[.int .u64 0, .string ⟨#[]⟩, .bool false, .int .u64 0, .string ⟨#[]⟩] 35)) = x55 at hL0
      have hA := hL0.fc
      simp only [fcG, cellsF, neK, and_true, ne_eq, Nat.zero_add, Nat.reduceAdd] at hA
      have hP := hL0.put 0 (x54.heap.size) _ rfl [.int .u64 0, .string ⟨#[]⟩, .bool false, .int .u64 0, .string ⟨#[]⟩] rfl
      simp only [setAll, List.set_cons_zero, List.set_cons_succ] at hP
      generalize hput4 : (((((x55.setCell ⟨x54.heap.size, 0, none⟩ (.int .u64 0)).setCell ⟨x54.heap.size, 1, none⟩ (.string ⟨#[]⟩)).setCell ⟨x54.heap.size, 2, none⟩ (.bool false)).setCell ⟨x54.heap.size, 3, none⟩ (.int .u64 0)).setCell ⟨x54.heap.size, 4, none⟩ (.string ⟨#[]⟩)) = x56 at hP
      have hB4 := hP.fc
      simp only [fcG, cellsF, neK, and_true, ne_eq, Nat.zero_add, Nat.reduceAdd] at hB4
      replace hL0 := hP
      go_wp2_with fail
      go_roundw
      case rel => exact ⟨1 + 1, by omega, by first | rfl | go_num, hL0.weak (List.Sublist.cons _ (List.Sublist.refl _))⟩
      case measure => simp [intOf]
    · skip
      have hN0 := cells_of _ 0 [] rfl (hL0.get _ _ (List.mem_cons_of_mem _ List.mem_cons_self))
      simp only [cellsF, and_true, Nat.zero_add, Nat.reduceAdd] at hN0
      go_wp2_with fail
      clear hN0
      with_reducible refine Calls.mono (P2.out _ (hKM.out.at hL0.bl kKM)) ?_
      rintro e x57 ⟨rfl, hb⟩
      replace hL0 := hL0.call hb
      clear hb
      replace hL0 := (hL0.new rfl [.int .u64 0, .string ⟨#[]⟩, .bool false, .int .u64 0, .string ⟨#[]⟩] 35)
      generalize hweq : (x57.alloc (.cells #[.int .u64 0, .string ⟨#[]⟩, .bool false, .int .u64 0, .string ⟨#[]⟩] 35)) = x58 at hL0
      have hA := hL0.fc
      simp only [fcG, cellsF, neK, and_true, ne_eq, Nat.zero_add, Nat.reduceAdd] at hA
      have hP := hL0.put 0 (x57.heap.size) _ rfl [.int .u64 0, .string ⟨#[]⟩, .bool false, .int .u64 0, .string ⟨#[]⟩] rfl
      simp only [setAll, List.set_cons_zero, List.set_cons_succ] at hP
      generalize hput5 : (((((x58.setCell ⟨x57.heap.size, 0, none⟩ (.int .u64 0)).setCell ⟨x57.heap.size, 1, none⟩ (.string ⟨#[]⟩)).setCell ⟨x57.heap.size, 2, none⟩ (.bool false)).setCell ⟨x57.heap.size, 3, none⟩ (.int .u64 0)).setCell ⟨x57.heap.size, 4, none⟩ (.string ⟨#[]⟩)) = x59 at hP
      have hB5 := hP.fc
      simp only [fcG, cellsF, neK, and_true, ne_eq, Nat.zero_add, Nat.reduceAdd] at hB5
      replace hL0 := hP
      go_wp2_with fail
      go_roundw
      case rel => exact ⟨2 + 1, by omega, by first | rfl | go_num, hL0.weak (List.Sublist.cons _ (List.Sublist.refl _))⟩
      case measure => simp [intOf]
    · skip
      have hN0 := cells_of _ 0 [] rfl (hL0.get _ _ (List.mem_cons_of_mem _ List.mem_cons_self))
      simp only [cellsF, and_true, Nat.zero_add, Nat.reduceAdd] at hN0
      go_wp2_with fail
      clear hN0
      with_reducible refine Calls.mono (P3.out _ (hKM.out.at hL0.bl kKM)) ?_
      rintro e x60 ⟨rfl, hb⟩
      replace hL0 := hL0.call hb
      clear hb
      replace hL0 := (hL0.new rfl [.int .u64 0, .string ⟨#[]⟩, .bool false, .int .u64 0, .string ⟨#[]⟩] 35)
      generalize hweq : (x60.alloc (.cells #[.int .u64 0, .string ⟨#[]⟩, .bool false, .int .u64 0, .string ⟨#[]⟩] 35)) = x61 at hL0
      have hA := hL0.fc
      simp only [fcG, cellsF, neK, and_true, ne_eq, Nat.zero_add, Nat.reduceAdd] at hA
      have hP := hL0.put 0 (x60.heap.size) _ rfl [.int .u64 0, .string ⟨#[]⟩, .bool false, .int .u64 0, .string ⟨#[]⟩] rfl
      simp only [setAll, List.set_cons_zero, List.set_cons_succ] at hP
      generalize hput6 : (((((x61.setCell ⟨x60.heap.size, 0, none⟩ (.int .u64 0)).setCell ⟨x60.heap.size, 1, none⟩ (.string ⟨#[]⟩)).setCell ⟨x60.heap.size, 2, none⟩ (.bool false)).setCell ⟨x60.heap.size, 3, none⟩ (.int .u64 0)).setCell ⟨x60.heap.size, 4, none⟩ (.string ⟨#[]⟩)) = x62 at hP
      have hB6 := hP.fc
      simp only [fcG, cellsF, neK, and_true, ne_eq, Nat.zero_add, Nat.reduceAdd] at hB6
      replace hL0 := hP
      go_wp2_with fail
      go_roundw
      case rel => exact ⟨3 + 1, by omega, by first | rfl | go_num, hL0.weak (List.Sublist.cons _ (List.Sublist.refl _))⟩
      case measure => simp [intOf]
    · skip
      have hN0 := cells_of _ 0 [] rfl (hL0.get _ _ (List.mem_cons_of_mem _ List.mem_cons_self))
      simp only [cellsF, and_true, Nat.zero_add, Nat.reduceAdd] at hN0
      go_wp2_with fail
      clear hN0
      with_reducible refine Calls.mono (P4.out _ (hKM.out.at hL0.bl kKM)) ?_
      rintro e x63 ⟨rfl, hb⟩
      replace hL0 := hL0.call hb
      clear hb
      replace hL0 := (hL0.new rfl [.int .u64 0, .string ⟨#[]⟩, .bool false, .int .u64 0, .string ⟨#[]⟩] 35)
      generalize hweq : (x63.alloc (.cells #[.int .u64 0, .string ⟨#[]⟩, .bool false, .int .u64 0, .string ⟨#[]⟩] 35)) = x64 at hL0
      have hA := hL0.fc
      simp only [fcG, cellsF, neK, and_true, ne_eq, Nat.zero_add, Nat.reduceAdd] at hA
      have hP := hL0.put 0 (x63.heap.size) _ rfl [.int .u64 0, .string ⟨#[]⟩, .bool false, .int .u64 0, .string ⟨#[]⟩] rfl
      simp only [setAll, List.set_cons_zero, List.set_cons_succ] at hP
      generalize hput7 : (((((x64.setCell ⟨x63.heap.size, 0, none⟩ (.int .u64 0)).setCell ⟨x63.heap.size, 1, none⟩ (.string ⟨#[]⟩)).setCell ⟨x63.heap.size, 2, none⟩ (.bool false)).setCell ⟨x63.heap.size, 3, none⟩ (.int .u64 0)).setCell ⟨x63.heap.size, 4, none⟩ (.string ⟨#[]⟩)) = x65 at hP
      have hB7 := hP.fc
      simp only [fcG, cellsF, neK, and_true, ne_eq, Nat.zero_add, Nat.reduceAdd] at hB7
      replace hL0 := hP
      go_wp2_with fail
      go_roundw
      case rel => exact ⟨4 + 1, by omega, by first | rfl | go_num, hL0.weak (List.Sublist.cons _ (List.Sublist.refl _))⟩
      case measure => simp [intOf]
    · skip
      have hN0 := cells_of _ 0 [] rfl (hL0.get _ _ (List.mem_cons_of_mem _ List.mem_cons_self))
      simp only [cellsF, and_true, Nat.zero_add, Nat.reduceAdd] at hN0
      go_wp2_with fail
      clear hN0
      with_reducible refine Calls.mono (P5.out _ (hKM.out.at hL0.bl kKM)) ?_
      rintro e x66 ⟨rfl, hb⟩
      replace hL0 := hL0.call hb
      clear hb
      replace hL0 := (hL0.new rfl [.int .u64 0, .string ⟨#[]⟩, .bool false, .int .u64 0, .string ⟨#[]⟩] 35)
      generalize hweq : (x66.alloc (.cells #[.int .u64 0, .string ⟨#[]⟩, .bool false, .int .u64 0, .string ⟨#[]⟩] 35)) = x67 at hL0
      have hA := hL0.fc
      simp only [fcG, cellsF, neK, and_true, ne_eq, Nat.zero_add, Nat.reduceAdd] at hA
      have hP := hL0.put 0 (x66.heap.size) _ rfl [.int .u64 0, .string ⟨#[]⟩, .bool false, .int .u64 0, .string ⟨#[]⟩] rfl
      simp only [setAll, List.set_cons_zero, List.set_cons_succ] at hP
      generalize hput8 : (((((x67.setCell ⟨x66.heap.size, 0, none⟩ (.int .u64 0)).setCell ⟨x66.heap.size, 1, none⟩ (.string ⟨#[]⟩)).setCell ⟨x66.heap.size, 2, none⟩ (.bool false)).setCell ⟨x66.heap.size, 3, none⟩ (.int .u64 0)).setCell ⟨x66.heap.size, 4, none⟩ (.string ⟨#[]⟩)) = x68 at hP
      have hB8 := hP.fc
      simp only [fcG, cellsF, neK, and_true, ne_eq, Nat.zero_add, Nat.reduceAdd] at hB8
      replace hL0 := hP
      go_wp2_with fail
      go_roundw
      case rel => exact ⟨5 + 1, by omega, by first | rfl | go_num, hL0.weak (List.Sublist.cons _ (List.Sublist.refl _))⟩
      case measure => simp [intOf]
    · skip
      have hN0 := cells_of _ 0 [] rfl (hL0.get _ _ (List.mem_cons_of_mem _ List.mem_cons_self))
      simp only [cellsF, and_true, Nat.zero_add, Nat.reduceAdd] at hN0
      go_wp2_with fail
      clear hN0
      with_reducible refine Calls.mono (P6.out _ (hKM.out.at hL0.bl kKM)) ?_
      rintro e x69 ⟨rfl, hb⟩
      replace hL0 := hL0.call hb
      clear hb
      replace hL0 := (hL0.new rfl [.int .u64 0, .string ⟨#[]⟩, .bool false, .int .u64 0, .string ⟨#[]⟩] 35)
      generalize hweq : (x69.alloc (.cells #[.int .u64 0, .string ⟨#[]⟩, .bool false, .int .u64 0, .string ⟨#[]⟩] 35)) = x70 at hL0
      have hA := hL0.fc
      simp only [fcG, cellsF, neK, and_true, ne_eq, Nat.zero_add, Nat.reduceAdd] at hA
      have hP := hL0.put 0 (x69.heap.size) _ rfl [.int .u64 0, .string ⟨#[]⟩, .bool false, .int .u64 0, .string ⟨#[]⟩] rfl
      simp only [setAll, List.set_cons_zero, List.set_cons_succ] at hP
      generalize hput9 : (((((x70.setCell ⟨x69.heap.size, 0, none⟩ (.int .u64 0)).setCell ⟨x69.heap.size, 1, none⟩ (.string ⟨#[]⟩)).setCell ⟨x69.heap.size, 2, none⟩ (.bool false)).setCell ⟨x69.heap.size, 3, none⟩ (.int .u64 0)).setCell ⟨x69.heap.size, 4, none⟩ (.string ⟨#[]⟩)) = x71 at hP
      have hB9 := hP.fc
      simp only [fcG, cellsF, neK, and_true, ne_eq, Nat.zero_add, Nat.reduceAdd] at hB9
      replace hL0 := hP
      go_wp2_with fail
      go_roundw
      case rel => exact ⟨6 + 1, by omega, by first | rfl | go_num, hL0.weak (List.Sublist.cons _ (List.Sublist.refl _))⟩
      case measure => simp [intOf]
    · skip
      go_wp2_with fail
      exact bodyPost_ret (v := .bool true) (by simp [results, Tryz.results6, go_sem]) rfl ⟨rfl, hL0.bl⟩

theorem fworks_any (w : World) (htab : Tab w) (hm : MaxL w) : Calls Tryz.prog 6 #[] w fun xe w' => xe = .returned (.bool true) ∧ Below w.heap.size w w' := by
  have H1t := fun w => ofF (6) (-4) (by decide) (by decide) (by decide) (by decide) (by decide) w
  rw [show (((6 : Int)) : Rat) / (((-4 : Int)) : Rat) = (mkRat (-3) 2) from by decide +kernel] at H1t
  have H1 := fun w => lof_w _ _ _ _ _ H1t w
  have H2t := fun w => ofF (0) (-5) (by decide) (by decide) (by decide) (by decide) (by decide) w
  rw [show (((0 : Int)) : Rat) / (((-5 : Int)) : Rat) = (0 : Rat) from by decide +kernel] at H2t
  rw [frV_q0] at H2t
  have H2 := fun w => lof_0 _ _ _ H2t w
  have H3 := fun w => of0F (1) (by decide) (by decide) w
  try rw [frV_q0] at H3
  have H4t := fun w => ofF (-9223372036854775808) (-9223372036854775808) (by decide) (by decide) (by decide) (by decide) (by decide) w
  rw [show (((-9223372036854775808 : Int)) : Rat) / (((-9223372036854775808 : Int)) : Rat) = ((1 : Int) : Rat) from by decide +kernel] at H4t
  have H4 := fun w => lof_w _ _ _ _ _ H4t w
  have H5t := fun w => ofF (1) (2) (by decide) (by decide) (by decide) (by decide) (by decide) w
  rw [show (((1 : Int)) : Rat) / (((2 : Int)) : Rat) = (mkRat (1) 2) from by decide +kernel] at H5t
  have H5 := fun w => lof_w _ _ _ _ _ H5t w
  have H6t := fun w => ofF (-1) (4) (by decide) (by decide) (by decide) (by decide) (by decide) w
  rw [show (((-1 : Int)) : Rat) / (((4 : Int)) : Rat) = (mkRat (-1) 4) from by decide +kernel] at H6t
  have H6 := fun w => lof_w _ _ _ _ _ H6t w
  have H7 := fun w => divF (mkRat (1) 2) (mkRat (-1) 4) 1 ((szc (mkRat (1) 2) (by decide +kernel) (by decide +kernel)).mono (by omega)) ((szc (mkRat (-1) 4) (by decide +kernel) (by decide +kernel)).mono (by omega)) (by omega) (by decide +kernel) w
  rw [show ((mkRat (1) 2) / (mkRat (-1) 4)) = ((-2 : Int) : Rat) from by decide +kernel] at H7
  have H8 := fun w => intF (1) (by decide) (by decide) w
  have H9 := fun w => div0F ((1 : Int) : Rat) w
  try rw [frV_q0] at H9
  have H10t := fun w h => textF (mkRat (-3) 2) 1 (szc (mkRat (-3) 2) (by decide +kernel) (by decide +kernel)) (by omega) w h
  rw [show qtxt (mkRat (-3) 2) = (ByteArray.mk #[45, 51, 47, 50]) from qt_n3_2] at H10t
  have H10 := fun w h => ltext_true _ _ _ H10t w h
  have H11t := fun w h => textF ((1 : Int) : Rat) 1 (szc ((1 : Int) : Rat) (by decide +kernel) (by decide +kernel)) (by omega) w h
  rw [show qtxt ((1 : Int) : Rat) = (ByteArray.mk #[49]) from qt_1] at H11t
  have H11 := fun w h => ltext_true _ _ _ H11t w h
  have H12t := fun w => ofF (1) (3) (by decide) (by decide) (by decide) (by decide) (by decide) w
  rw [show (((1 : Int)) : Rat) / (((3 : Int)) : Rat) = (mkRat (1) 3) from by decide +kernel] at H12t
  have H12 := fun w => lof_w _ _ _ _ _ H12t w
  have H13 := fun w => addF (mkRat (1) 2) (mkRat (1) 3) 1 ((szc (mkRat (1) 2) (by decide +kernel) (by decide +kernel)).mono (by omega)) ((szc (mkRat (1) 3) (by decide +kernel) (by decide +kernel)).mono (by omega)) (by omega) w
  rw [show ((mkRat (1) 2) + (mkRat (1) 3)) = (mkRat (5) 6) from by decide +kernel] at H13
  have H14t := fun w h => textF (mkRat (5) 6) 1 (szc (mkRat (5) 6) (by decide +kernel) (by decide +kernel)) (by omega) w h
  rw [show qtxt (mkRat (5) 6) = (ByteArray.mk #[53, 47, 54]) from qt_5_6] at H14t
  have H14 := fun w h => ltext_true _ _ _ H14t w h
  have H15 := fun w => subF (mkRat (1) 2) (mkRat (1) 2) 1 ((szc (mkRat (1) 2) (by decide +kernel) (by decide +kernel)).mono (by omega)) ((szc (mkRat (1) 2) (by decide +kernel) (by decide +kernel)).mono (by omega)) (by omega) w
  rw [show ((mkRat (1) 2) - (mkRat (1) 2)) = (0 : Rat) from by decide +kernel] at H15
  try rw [frV_q0] at H15
  have H16t := fun w h => textF (0 : Rat) 1 (szc 0 (by decide) (by decide)) (by omega) w h
  rw [show qtxt (0 : Rat) = (ByteArray.mk #[48]) from qt_0] at H16t
  rw [frV_q0] at H16t
  have H16 := fun w h => ltext_0 _ H16t w h
  have H17t := fun w => ofF (2) (3) (by decide) (by decide) (by decide) (by decide) (by decide) w
  rw [show (((2 : Int)) : Rat) / (((3 : Int)) : Rat) = (mkRat (2) 3) from by decide +kernel] at H17t
  have H17 := fun w => lof_w _ _ _ _ _ H17t w
  have H18t := fun w => ofF (3) (2) (by decide) (by decide) (by decide) (by decide) (by decide) w
  rw [show (((3 : Int)) : Rat) / (((2 : Int)) : Rat) = (mkRat (3) 2) from by decide +kernel] at H18t
  have H18 := fun w => lof_w _ _ _ _ _ H18t w
  have H19 := fun w => mulF (mkRat (2) 3) (mkRat (3) 2) 1 ((szc (mkRat (2) 3) (by decide +kernel) (by decide +kernel)).mono (by omega)) ((szc (mkRat (3) 2) (by decide +kernel) (by decide +kernel)).mono (by omega)) (by omega) w
  rw [show ((mkRat (2) 3) * (mkRat (3) 2)) = ((1 : Int) : Rat) from by decide +kernel] at H19
  have H20t := fun w h => textF ((-2 : Int) : Rat) 1 (szc ((-2 : Int) : Rat) (by decide +kernel) (by decide +kernel)) (by omega) w h
  rw [show qtxt ((-2 : Int) : Rat) = (ByteArray.mk #[45, 50]) from qt_n2] at H20t
  have H20 := fun w h => ltext_true _ _ _ H20t w h
  have H21t := fun w => powerF (mkRat (2) 3)⁻¹ 2 (by decide) (.inr (by decide +kernel)) (.inr (by decide +kernel)) 1 (Sz.inv (szc (mkRat (2) 3) (by decide +kernel) (by decide +kernel)) (by decide +kernel)) (by omega) w
  rw [show ((mkRat (2) 3)⁻¹) ^ (2 : Nat) = (mkRat (9) 4) from by decide +kernel] at H21t
  have H21 := fun w => powF_neg (mkRat (2) 3) (by decide +kernel) (-2) 2 (by decide) (by decide) (by decide) _ _ H21t w
  have H22 := fun w => powF_zero (-1) (by decide) (by decide) w
  rw [frV_q0] at H22
  have H23t := fun w => powerF (0 : Rat) 0 (by decide) (.inl rfl) (.inl rfl) 1 (szc 0 (by decide) (by decide)) (by omega) w
  rw [show (0 : Rat) ^ (0 : Nat) = ((1 : Int) : Rat) from by decide +kernel] at H23t
  have H23 := fun w => powF_pos (0 : Rat) 0 (by decide) _ _ H23t w
  try rw [frV_q0] at H23
  try rw [show ((((0) : Nat)) : Int) = 0 from rfl] at H23
  have H24 := fun w => floorF (mkRat (-3) 2) 1 (szc (mkRat (-3) 2) (by decide +kernel) (by decide +kernel)) (by omega) w
  rw [show ((mkRat (-3) 2)).floor = -2 from by decide +kernel] at H24
  have H25 := fun w h => textI (-2 : Int) (Nat.le_trans (dI_lit (by decide)) (by omega)) w h
  rw [show ztxt (-2 : Int) = (ByteArray.mk #[45, 50]) from zt_n2] at H25
  have H26 := fun w => ceilF (mkRat (-3) 2) 1 (szc (mkRat (-3) 2) (by decide +kernel) (by decide +kernel)) (by omega) w
  rw [show rceil (mkRat (-3) 2) = -1 from by decide +kernel] at H26
  have H27 := fun w h => textI (-1 : Int) (Nat.le_trans (dI_lit (by decide)) (by omega)) w h
  rw [show ztxt (-1 : Int) = (ByteArray.mk #[45, 49]) from zt_n1] at H27
  have H28t := fun w h => textF (mkRat (9) 4) 1 (szc (mkRat (9) 4) (by decide +kernel) (by decide +kernel)) (by omega) w h
  rw [show qtxt (mkRat (9) 4) = (ByteArray.mk #[57, 47, 52]) from qt_9_4] at H28t
  have H28 := fun w h => ltext_true _ _ _ H28t w h
  have H29 := fun w => max_nil w
  have H30 := fun w => intF (-1) (by decide) (by decide) w
  have H31t := fun w => ofF (-1) (2) (by decide) (by decide) (by decide) (by decide) (by decide) w
  rw [show (((-1 : Int)) : Rat) / (((2 : Int)) : Rat) = (mkRat (-1) 2) from by decide +kernel] at H31t
  have H31 := fun w => lof_w _ _ _ _ _ H31t w
  have H32 := fun g w h => max_two ((-1 : Int) : Rat) (mkRat (-1) 2) (mkRat (-1) 2) (szc ((-1 : Int) : Rat) (by decide +kernel) (by decide +kernel)) (szc (mkRat (-1) 2) (by decide +kernel) (by decide +kernel)) (by decide +kernel) g w h
  have H33t := fun w h => textF (mkRat (-1) 2) 1 (szc (mkRat (-1) 2) (by decide +kernel) (by decide +kernel)) (by omega) w h
  rw [show qtxt (mkRat (-1) 2) = (ByteArray.mk #[45, 49, 47, 50]) from qt_n1_2] at H33t
  have H33 := fun w h => ltext_true _ _ _ H33t w h
  exact fworks_w (mkRat (-3) 2) ((1 : Int) : Rat) (mkRat (1) 2) (mkRat (-1) 4) ((-2 : Int) : Rat) (mkRat (1) 3) (mkRat (5) 6) (mkRat (2) 3) (mkRat (3) 2) (mkRat (9) 4) (-2 : Int) (-1 : Int) ((-1 : Int) : Rat) (mkRat (-1) 2) _ MaxL.keeps parse_w0 parse_w1 parse_w2 parse_w3 parse_w4 parse_w5 parse_w6 H1 H2 H3 H4 H5 H6 H7 H8 H9 H10 H11 H12 H13 H14 H15 H16 H17 H18 H19 H20 H21 H22 H23 H24 H25 H26 H27 H28 H29 H30 H31 H32 H33 w htab hm
end Go.Proofs.YtecdnohhengfaabGreatDoor

/-
  Layer 3, the law package: few.
-/
namespace Go.Proofs.YtecdnohhengfaabGreatDoor
open Go.RowKit
attribute [local irreducible] lo hs zl zh zs

/-- few: its slice's structs. -/
structure GW (w : World) (g n : Nat) (len len2 : Nat → Nat) : Prop where
  cell : ∀ i, i < n → ∃ a c, w.cell? ⟨g, i * 3 + 1, none⟩ = some (.slice a (len i) c)
  cell2 : ∀ i, i < n → ∃ a c, w.cell? ⟨g, i * 3 + 2, none⟩ = some (.slice a (len2 i) c)
  lt : n ≤ 1000
set_option maxHeartbeats 4000000 in
set_option maxRecDepth 100000 in
theorem gfew_yes (most : Nat) (g n c : Nat) (len len2 : Nat → Nat) (w : World) (hF : GW w g n len len2) (hn : 0 < n) (hm : most < 1000) (h : ∀ i, i < n → len i ≤ most ∧ len2 i ≤ most) :
    Calls Tryz.prog 5 #[.int .i64 (most : Int), .slice (some ⟨g, 0, none⟩) n c] w fun e w' => e = .returned (.bool true) ∧ w' = w := by
  have hlt := hF.lt
  have hc := Lib.hid hF.cell
  have hd := Lib.hid hF.cell2
  have h := Lib.hid h
  clear hF
  go_enter Tryz.func5, Tryz.ntmps5
  go_wp2_with fail
  go_loopw [5] (fun z wr => ∃ i : Nat, i ≤ n ∧ z = .int .i64 (i : Int) ∧ wr = w) (fun z _ => n - (intOf z).toNat)
  case atStart => exact ⟨0, Nat.zero_le _, rfl, rfl⟩
  case round =>
    obtain ⟨i, hi, rfl, rfl⟩ := hrel
    rcases Nat.lt_or_ge i n with hin | hin
    · obtain ⟨a, c1, hci⟩ := hc.out i hin
      obtain ⟨a2, c2, hdi⟩ := hd.out i hin
      obtain ⟨hle, hle2⟩ := h.out i hin
      have k1 : (i : Int) < (n : Int) := by omega
      have k2 : decide ((i : Int) < (n : Int)) = true := decide_eq_true k1
      have k3 : decide ((most : Int) < (len i : Int)) = false := decide_eq_false (by omega)
      have k4 : decide ((most : Int) < (len2 i : Int)) = false := decide_eq_false (by omega)
      generalize len i = m at *
      generalize len2 i = m2 at *
      go_wp2_with fail
      go_roundw
      case rel => exact ⟨i + 1, by omega, by first | rfl | go_num, by first | trivial | rfl⟩
      case measure => simp [intOf]; omega
    · obtain rfl : i = n := by omega
      have k2 : decide ((i : Int) < (i : Int)) = false := decide_eq_false (by omega)
      go_wp2_with fail
      go_ret
      exact ⟨rfl, rfl⟩

set_option maxHeartbeats 4000000 in
set_option maxRecDepth 100000 in
theorem gfew_no (most : Nat) (g n c k : Nat) (len len2 : Nat → Nat) (w : World) (hF : GW w g n len len2) (hk : k < n) (hm : most < 1000) (h : ∀ i, i < k → len i ≤ most ∧ len2 i ≤ most) (hg : most < len k ∨ len k ≤ most ∧ most < len2 k) :
    Calls Tryz.prog 5 #[.int .i64 (most : Int), .slice (some ⟨g, 0, none⟩) n c] w fun e w' => e = .returned (.bool false) ∧ w' = w := by
  have hlt := hF.lt
  have hc := Lib.hid hF.cell
  have hd := Lib.hid hF.cell2
  have h := Lib.hid h
  replace hg := Lib.hid hg
  clear hF
  go_enter Tryz.func5, Tryz.ntmps5
  go_wp2_with fail
  go_loopw [5] (fun z wr => ∃ i : Nat, i ≤ k ∧ z = .int .i64 (i : Int) ∧ wr = w) (fun z _ => n - (intOf z).toNat)
  case atStart => exact ⟨0, Nat.zero_le _, rfl, rfl⟩
  case round =>
    obtain ⟨i, hi, rfl, rfl⟩ := hrel
    have hin : i < n := by omega
    obtain ⟨a, c1, hci⟩ := hc.out i hin
    obtain ⟨a2, c2, hdi⟩ := hd.out i hin
    have k1 : (i : Int) < (n : Int) := by omega
    have k2 : decide ((i : Int) < (n : Int)) = true := decide_eq_true k1
    rcases Nat.lt_or_ge i k with hik | hik
    · obtain ⟨hle, hle2⟩ := h.out i hik
      have k3 : decide ((most : Int) < (len i : Int)) = false := decide_eq_false (by omega)
      have k4 : decide ((most : Int) < (len2 i : Int)) = false := decide_eq_false (by omega)
      generalize len i = m at *
      generalize len2 i = m2 at *
      go_wp2_with fail
      go_roundw
      case rel => exact ⟨i + 1, by omega, by first | rfl | go_num, by first | trivial | rfl⟩
      case measure => simp [intOf]; omega
    · obtain rfl : i = k := by omega
      rcases hg.out with hg1 | ⟨hg1, hg2⟩
      · have k3 : decide ((most : Int) < (len i : Int)) = true := decide_eq_true (by omega)
        generalize len i = m at *
        go_wp2_with fail
        go_ret
        exact ⟨rfl, rfl⟩
      · have k3 : decide ((most : Int) < (len i : Int)) = false := decide_eq_false (by omega)
        have k4 : decide ((most : Int) < (len2 i : Int)) = true := decide_eq_true (by omega)
        generalize len i = m at *
        generalize len2 i = m2 at *
        go_wp2_with fail
        go_ret
        exact ⟨rfl, rfl⟩

theorem gfew_any (z : Int) (most : Nat) (hz : z = (most : Int)) (g n c : Nat) (len len2 : Nat → Nat) (w : World) (hF : GW w g n len len2) (hn : 0 < n) (hm : most < 1000) (B : Bool) (hB : B = true ↔ ∀ i, i < n → len i ≤ most ∧ len2 i ≤ most) :
    Calls Tryz.prog 5 #[.int .i64 z, .slice (some ⟨g, 0, none⟩) n c] w fun e w' => e = .returned (.bool B) ∧ w' = w := by
  subst hz
  by_cases h : ∀ i, i < n → len i ≤ most ∧ len2 i ≤ most
  · rw [hB.2 h]; exact gfew_yes most g n c len len2 w hF hn hm h
  · have hf : B = false := Bool.eq_false_iff.2 fun e => h (hB.1 e)
    rw [hf]
    have ex : ∃ k, k < n ∧ ¬ (len k ≤ most ∧ len2 k ≤ most) := Classical.byContradiction fun hc => h fun i hi => Classical.byContradiction fun hh => hc ⟨i, hi, hh⟩
    have key : ∀ m k, k ≤ m → k < n → ¬ (len k ≤ most ∧ len2 k ≤ most) → ∃ k, k < n ∧ ¬ (len k ≤ most ∧ len2 k ≤ most) ∧ ∀ i, i < k → len i ≤ most ∧ len2 i ≤ most := by
      intro m
      induction m with
      | zero => intro k hk h1 h2; exact ⟨k, h1, h2, fun i hi => by omega⟩
      | succ m ih =>
        intro k hk h1 h2
        by_cases hx : ∀ i, i < k → len i ≤ most ∧ len2 i ≤ most
        · exact ⟨k, h1, h2, hx⟩
        · have : ∃ i, i < k ∧ ¬ (len i ≤ most ∧ len2 i ≤ most) := Classical.byContradiction fun hc => hx fun i hi => Classical.byContradiction fun hh => hc ⟨i, hi, hh⟩
          obtain ⟨i, hi, hl⟩ := this
          exact ih i (by omega) (by omega) hl
    obtain ⟨k, h1, h2⟩ := ex
    obtain ⟨k, h1, h2, h3⟩ := key k k (Nat.le_refl _) h1 h2
    exact gfew_no most g n c k len len2 w hF h1 hm h3 (by omega)
theorem gfew1 (z : Int) (most : Nat) (hz : z = (most : Int)) (hm : most < 1000) {w : World} {g : Nat} {s0 : Bool} {a0 b0 : Option Addr} {n0 c0 m0 d0 : Nat} (h : Hd w g [.bool s0, .slice a0 n0 c0, .slice b0 m0 d0]) :
    Calls Tryz.prog 5 #[.int .i64 z, .slice (some ⟨g, 0, none⟩) 1 1] w fun e w' => e = .returned (.bool (decide (n0 ≤ most ∧ m0 ≤ most))) ∧ w' = w :=
  gfew_any z most hz g 1 1 (fun _ => n0) (fun _ => m0) w
    ⟨fun i hi => ⟨a0, c0, by
      obtain rfl : i = 0 := by omega
      exact h.cell 1 (by simp)⟩, fun i hi => ⟨b0, d0, by
      obtain rfl : i = 0 := by omega
      exact h.cell 2 (by simp)⟩, by omega⟩ (by omega) hm _ ⟨fun hb i hi => of_decide_eq_true hb, fun hb => decide_eq_true (hb 0 (by omega))⟩
theorem gfew2 (z : Int) (most : Nat) (hz : z = (most : Int)) (hm : most < 1000) {w : World} {g : Nat} {s0 s1 : Bool} {a0 b0 a1 b1 : Option Addr} {n0 c0 m0 d0 n1 c1 m1 d1 : Nat} (h : Hd w g [.bool s0, .slice a0 n0 c0, .slice b0 m0 d0, .bool s1, .slice a1 n1 c1, .slice b1 m1 d1]) :
    Calls Tryz.prog 5 #[.int .i64 z, .slice (some ⟨g, 0, none⟩) 2 2] w fun e w' => e = .returned (.bool (decide (n0 ≤ most ∧ m0 ≤ most ∧ n1 ≤ most ∧ m1 ≤ most))) ∧ w' = w :=
  gfew_any z most hz g 2 2 (fun i => if i = 0 then n0 else n1) (fun i => if i = 0 then m0 else m1) w
    ⟨fun i hi => by
      rcases (show i = 0 ∨ i = 1 by omega) with rfl | rfl
      · exact ⟨a0, c0, h.cell 1 (by simp)⟩
      · exact ⟨a1, c1, h.cell 4 (by simp)⟩, fun i hi => by
      rcases (show i = 0 ∨ i = 1 by omega) with rfl | rfl
      · exact ⟨b0, d0, h.cell 2 (by simp)⟩
      · exact ⟨b1, d1, h.cell 5 (by simp)⟩, by omega⟩ (by omega) hm _
    ⟨fun hb i hi => by have h0 := of_decide_eq_true hb; split <;> omega,
     fun hb => decide_eq_true (by have h0 := hb 0 (by omega); have h1 := hb 1 (by omega); simp at h0 h1; omega)⟩
theorem gfew3 (z : Int) (most : Nat) (hz : z = (most : Int)) (hm : most < 1000) {w : World} {g : Nat} {s0 s1 s2 : Bool} {a0 b0 a1 b1 a2 b2 : Option Addr} {n0 c0 m0 d0 n1 c1 m1 d1 n2 c2 m2 d2 : Nat}
    (h : Hd w g [.bool s0, .slice a0 n0 c0, .slice b0 m0 d0, .bool s1, .slice a1 n1 c1, .slice b1 m1 d1, .bool s2, .slice a2 n2 c2, .slice b2 m2 d2]) :
    Calls Tryz.prog 5 #[.int .i64 z, .slice (some ⟨g, 0, none⟩) 3 3] w fun e w' => e = .returned (.bool (decide (n0 ≤ most ∧ m0 ≤ most ∧ n1 ≤ most ∧ m1 ≤ most ∧ n2 ≤ most ∧ m2 ≤ most))) ∧ w' = w :=
  gfew_any z most hz g 3 3 (fun i => if i = 0 then n0 else if i = 1 then n1 else n2) (fun i => if i = 0 then m0 else if i = 1 then m1 else m2) w
    ⟨fun i hi => by
      rcases (show i = 0 ∨ i = 1 ∨ i = 2 by omega) with rfl | rfl | rfl
      · exact ⟨a0, c0, h.cell 1 (by simp)⟩
      · exact ⟨a1, c1, h.cell 4 (by simp)⟩
      · exact ⟨a2, c2, h.cell 7 (by simp)⟩, fun i hi => by
      rcases (show i = 0 ∨ i = 1 ∨ i = 2 by omega) with rfl | rfl | rfl
      · exact ⟨b0, d0, h.cell 2 (by simp)⟩
      · exact ⟨b1, d1, h.cell 5 (by simp)⟩
      · exact ⟨b2, d2, h.cell 8 (by simp)⟩, by omega⟩ (by omega) hm _
    ⟨fun hb i hi => by have h0 := of_decide_eq_true hb; split <;> (try split) <;> omega,
     fun hb => decide_eq_true (by have h0 := hb 0 (by omega); have h1 := hb 1 (by omega); have h2 := hb 2 (by omega); simp at h0 h1 h2; omega)⟩
end Go.Proofs.YtecdnohhengfaabGreatDoor

/-
  A quicker look whether the order of the text may be walked for every order.
-/
namespace Go.Proofs.YtecdnohhengfaabGreatDoor

/-- Every operation waits for earlier ones alone, and what comes behind it waits for it or is apart from it. -/
def fastFrom (md : Region.Mode) (ops : Array Oper) : Nat → List Oper → Bool
  | _, [] => true
  | k, o :: l => (o.after.all fun e => !Region.binds md e || decide (e.on < k)) &&
      (l.all fun oj => (oj.after.any fun e => Region.binds md e && e.on == k) || o.apart ops oj) && fastFrom md ops (k + 1) l
def fastB (md : Region.Mode) (l : List Oper) : Bool := Region.noSelect l.toArray && fastFrom md l.toArray 0 l

def preL (s n : Nat) : Array Bool := ((List.range s).map fun i => decide (i < n)).toArray
theorem preL_get (s n i : Nat) (d : Bool) : (preL s n).getD i d = if i < s then decide (i < n) else d := by
  unfold preL
  by_cases h : i < s
  · simp [h]
  · simp [h]
theorem preL_set (s n : Nat) : (preL s n).setIfInBounds n true = preL s (n + 1) := by
  apply Array.ext
  · simp [preL]
  · intro i h1 h2
    simp only [preL, List.setIfInBounds_toArray, List.getElem_toArray]
    by_cases e : n = i
    · subst e; simp
    · rw [List.getElem_set_ne e]
      simp only [List.getElem_map, List.getElem_range]
      by_cases h : i < n
      · rw [decide_eq_true h, decide_eq_true (by omega)]
      · rw [decide_eq_false h, decide_eq_false (by omega)]
theorem preL_zero (s : Nat) : preL s 0 = Array.replicate s false := by
  apply Array.ext
  · simp [preL]
  · intro i h1 h2; simp [preL]
theorem lexFrom_of_fast {md : Region.Mode} {ops : Array Oper} : ∀ (l : List Oper) (k : Nat), (∀ j, l[j]? = ops[k + j]?) → k + l.length = ops.size → fastFrom md ops k l = true → Region.lexFrom md ops l.length k (preL ops.size k) = true
  | [], k, hl, hs, _ => by
    have : Region.ready md ops (preL ops.size k) = [] := by
      apply List.eq_nil_iff_forall_not_mem.2
      intro j hj
      obtain ⟨h1, o, ho, -⟩ := mem_ready.1 hj
      have hj' : j < ops.size := (Array.getElem?_eq_some_iff.1 ho).1
      rw [preL_get, if_pos hj', decide_eq_true (by simp at hs; omega)] at h1
      cases h1
    simp [Region.lexFrom, this]
  | o :: l, k, hl, hs, h => by
    have h0 : ops[k]? = some o := by simpa using (hl 0).symm
    have hk : k < ops.size := (Array.getElem?_eq_some_iff.1 h0).1
    simp only [fastFrom, Bool.and_eq_true] at h
    obtain ⟨⟨hw, hf⟩, hr⟩ := h
    simp only [List.length_cons, Region.lexFrom, Bool.and_eq_true]
    refine ⟨⟨List.contains_iff_mem.2 (mem_ready.2 ⟨by rw [preL_get, if_pos hk, decide_eq_false (by omega)], o, h0, fun e he hb => ?_⟩), ?_⟩, ?_⟩
    · have h1 := (Array.all_eq_true_iff_forall_mem.1 hw) e he
      simp only [hb, Bool.not_true, Bool.false_or, decide_eq_true_eq] at h1
      rw [preL_get, if_pos (by omega), decide_eq_true h1]
    · simp only [Region.free, h0, List.all_eq_true, List.mem_range]
      intro j hj
      by_cases e : j = k
      · simp [e]
      · by_cases hjk : j < k
        · rw [preL_get, if_pos hj, decide_eq_true hjk]; simp
        · have h2 : l[j - k - 1]? = ops[j]? := by
            have := hl (j - k)
            rw [show k + (j - k) = j by omega] at this
            rw [← this, show j - k = (j - k - 1) + 1 by omega, List.getElem?_cons_succ]
            rfl
          rw [Array.getElem?_eq_getElem hj] at h2
          have h3 := (List.all_eq_true.1 hf) ops[j] (List.mem_of_getElem? h2)
          rw [Array.getElem?_eq_getElem hj]
          simp only [Bool.or_eq_true] at h3 ⊢
          exact .inr h3
    · rw [preL_set]
      exact lexFrom_of_fast l (k + 1) (fun j => by have := hl (j + 1); simpa [Nat.add_assoc, Nat.add_comm 1 j] using this) (by simp at hs; omega) hr
theorem lexB_of_fast {md : Region.Mode} {l : List Oper} (h : fastB md l = true) : Region.lexB md l.toArray = true := by
  simp only [fastB, Bool.and_eq_true] at h
  simp only [Region.lexB, Bool.and_eq_true]
  refine ⟨h.1, ?_⟩
  have := lexFrom_of_fast (md := md) (ops := l.toArray) l 0 (fun j => by simp) (by simp) h.2
  rw [preL_zero] at this
  simpa using this
end Go.Proofs.YtecdnohhengfaabGreatDoor

/-
  Layer 3, laws: what they share.
-/
namespace Go.Proofs.YtecdnohhengfaabGreatDoor
open Go.RowKit
attribute [local irreducible] lo hs sm s64 c64 d64 b64 mh ml pd pc qd qc val hiB str cmpI srD lz nb isq decB zl zh zs

/-- A Great as plain data. -/
def gmade (s : Bool) (l k : List Nat) : Rat := mkRat (zmade s l) (made k + 1)
theorem gof_any (s : Bool) (a b : Option Addr) (n c m d : Nat) (l k : List Nat) (hl : l.length ≤ 1000) (hk : k.length ≤ 1000) (w : World) (h1 : Ws w (.slice a n c) l) (h2 : Ws w (.slice b m d) k) :
    Calls Tryz.prog 7 #[.agg #[.bool s, .slice a n c, .slice b m d]] w fun xe w' => xe = .returned (fracV (gmade s l k)) ∧ Below w.heap.size w w' := by
  have d1 := zmade_dI (s := s) h1.lt
  have d2 := made_digs h2.lt
  have dz1 : (digs 1).length ≤ 1 := digs_length_iff.2 (by rw [Nat.pow_one]; exact Bs_gt)
  have d3 : (digs (made k + 1)).length ≤ 1001 := Nat.le_trans (digs_add_le (k := 1000) (by omega) (Nat.le_trans dz1 (by omega))) (by omega)
  refine gof_w s a b n c m d (zmade false k) (zmade s l) _ (made k) (made k + 1) _ _ (Keeps.ws _ l) (fun w h => zof_any s a n c l hl w h) (fun w => gden_w s a b n c m d w) _ (Keeps.ws _ k) (fun w h => zof_any false b m d k hk w h) (fun w => ?_) one_o (fun w => add_any (made k) 1 (by omega) (by omega) w) (fromF (zmade s l) (made k + 1) (by omega) (by omega) (by omega)) w h1 h2
  have h := absI (zmade false k) w
  rw [show (zmade false k).natAbs = made k from rfl] at h
  exact h
theorem gmade_sz {s : Bool} {w : World} {a b : Option Addr} {n c m d : Nat} {l k : List Nat} {most : Nat} (hp : 0 < most) (h1 : Ws w (.slice a n c) l) (h2 : Ws w (.slice b m d) k) (hn : n ≤ most) (hm : m ≤ most) : Sz (gmade s l k) (most + 1) := by
  have e1 := h1.len
  have e2 := h2.len
  have d1 := zmade_dI (s := s) h1.lt
  have d2 := made_digs h2.lt
  refine Sz.mk (by omega) ?_ (by omega)
  have dz1 : (digs 1).length ≤ 1 := digs_length_iff.2 (by rw [Nat.pow_one]; exact Bs_gt)
  exact digs_add_le (k := most) (by omega) (by omega)

theorem sgnQ_eq0 {q : Rat} : (sgnQ q == 0) = decide (q = 0) := by
  unfold sgnQ
  by_cases h : q < 0
  · rw [if_pos h, decide_eq_false (p := q = 0) (by grind)]; rfl
  · rw [if_neg h]
    by_cases h' : q = 0
    · rw [if_pos h', decide_eq_true h']; rfl
    · rw [if_neg h', decide_eq_false h']; rfl
theorem sgnQ_sq (q : Rat) : 0 ≤ sgnQ (q * q) := by
  have := sq_nonneg q
  unfold sgnQ
  rw [if_neg (by grind)]
  split <;> decide
theorem cmpQ_cases (p q : Rat) : cmpQ p q = -1 ∨ cmpQ p q = 0 ∨ cmpQ p q = 1 := by unfold cmpQ; split <;> (try split) <;> simp
theorem sgnQ_cases (q : Rat) : sgnQ q = -1 ∨ sgnQ q = 0 ∨ sgnQ q = 1 := by unfold sgnQ; split <;> (try split) <;> simp
theorem cmpQ_wrap (a b c : Rat) : IntKind.i64.wrap (cmpQ a b * sgnQ c) = cmpQ (a * c) (b * c) := by
  rw [cmpQ_mul]; rcases cmpQ_cases a b with h | h | h <;> rcases sgnQ_cases c with g | g | g <;> rw [h, g] <;> rfl
theorem cmpQ_wneg (a b : Rat) : IntKind.i64.wrap (-cmpQ b a) = cmpQ a b := by
  rw [cmpQ_neg a b]; rcases cmpQ_cases b a with h | h | h <;> rw [h] <;> rfl

end Go.Proofs.YtecdnohhengfaabGreatDoor

/-
  Layer 3: texts and Parse are inverse.
-/
namespace Go.Proofs.YtecdnohhengfaabGreatDoor
open Go.RowKit
attribute [local irreducible] lo hs sm s64 c64 d64 b64 mh ml pd pc qd qc val hiB str cmpI srD lz nb isq decB zl zh zs dval

theorem occ_one {s : List UInt8} {i : Nat} : Lib.occAt s [47] i = true → s[i]? = some 47 := fun h => Lib.occAt_head rfl h
theorem cut_no47 {l : List UInt8} (h : 47 ∉ l) : Lib.cut l [47] = (l, [], false) := by
  unfold Lib.cut
  rcases Lib.index_spec l [47] with ⟨h1, _⟩ | ⟨i, h1, _, h3, _⟩
  · rw [h1]; rfl
  · exact absurd (List.mem_of_getElem? (occ_one h3)) h
theorem cut_at47 {l r : List UInt8} (h : 47 ∉ l) : Lib.cut (l ++ 47 :: r) [47] = (l, r, true) := by
  unfold Lib.cut
  have hat : Lib.occAt (l ++ 47 :: r) [47] l.length = true := by
    unfold Lib.occAt; rw [List.drop_left]; rfl
  rcases Lib.index_spec (l ++ 47 :: r) [47] with ⟨_, h2⟩ | ⟨i, h1, h2, h3, h4⟩
  · have := h2 l.length (by simp)
    rw [hat] at this; cases this
  · have e : i = l.length := by
      rcases Nat.lt_trichotomy i l.length with hl | hl | hl
      · have := occ_one h3
        rw [List.getElem?_append_left hl] at this
        exact absurd (List.mem_of_getElem? this) h
      · exact hl
      · have := h4 l.length hl
        rw [hat] at this; cases this
    rw [h1, e, if_pos (by omega)]
    simp
theorem no47_dec (n : Nat) : (47 : UInt8) ∉ Lib.decDigits n := fun h => by
  have := (dec_isDig n 47 h).1
  exact absurd this (by decide)
theorem no47_ztxt (z : Int) : (47 : UInt8) ∉ (ztxt z).data.toList := by
  rw [ztxt_st]
  unfold st
  split
  · intro h
    exact no47_dec _ (by simpa using h)
  · intro h
    exact no47_dec _ (by simpa using h)
theorem txt_list (n : Nat) : (txt n).data.toList = Lib.decDigits n := by unfold txt; simp
theorem np_txt (d : Nat) (k : Nat) (hd : (digs d).length ≤ k) (hk : k ≤ 200) (w : World) : Calls Tryz.prog 41 #[.string (txt d)] w fun xe w' => xe = .returned (.tuple #[natV d, .int .i64 0]) ∧ Below w.heap.size w w' := by
  have hl := dec_size (n := d) (k := 200) (by omega) (by omega)
  have h := parse_ok (Lib.decDigits d) (by omega) (dec_isDec d) w
  rw [dval_dec] at h
  exact h
theorem cut_part (z : Int) (t : List UInt8) : Lib.cut (ztxt z ++ ByteArray.mk #[47] ++ st t).data.toList [47] = ((ztxt z).data.toList, (st t).data.toList, true) := by
  rw [ByteArray.data_append, ByteArray.data_append, Array.toList_append, Array.toList_append, List.append_assoc]
  exact cut_at47 (no47_ztxt z)
theorem parse_part (z : Int) (d : Nat) (hd : d ≠ 0) (k : Nat) (hz : dI z ≤ k) (hl : (digs d).length ≤ k) (hk : k ≤ 200) (w : World) (hm : MaxL w) :
    Calls Tryz.prog 8 #[.string (ztxt z ++ ByteArray.mk #[47] ++ txt d)] w fun xe w' => xe = .returned (.tuple #[fracV (mkRat z d), .int .i64 0]) ∧ Below w.heap.size w w' := by
  have s1 := ztxt_small (k := 200) (by omega) (Nat.le_trans hz hk)
  have s2 := txt_small (n := d) (k := 200) (by omega) (Nat.le_trans hl hk)
  have hsz : (ztxt z ++ ByteArray.mk #[47] ++ txt d).size < 4294967281 := by
    rw [ByteArray.size_append, ByteArray.size_append, show (ByteArray.mk #[47]).size = 1 from rfl]; omega
  have HC := cutF _ hsz (ztxt z) (txt d) true (cut_part z (Lib.decDigits d))
  exact fparse_part _ _ _ z _ d _ 0 MaxL MaxL.keeps HC (parse_ztxt z (Nat.le_trans hz hk)) (np_txt d k hl hk) (fun w => fromF z d hd (Nat.le_trans hz (by omega)) (Nat.le_trans hl (by omega)) w) w hm
theorem parse_zero (z : Int) (k : Nat) (hz : dI z ≤ k) (hk : k ≤ 200) (w : World) (hm : MaxL w) :
    Calls Tryz.prog 8 #[.string (ztxt z ++ ByteArray.mk #[47, 48])] w fun xe w' => xe = .returned (.tuple #[.agg #[.int .u64 0, .string ⟨#[]⟩, .bool false, .int .u64 0, .string ⟨#[]⟩], .int .i64 5]) ∧ Below w.heap.size w w' := by
  have s1 := ztxt_small (k := 200) (by omega) (Nat.le_trans hz hk)
  have hsz : (ztxt z ++ ByteArray.mk #[47, 48]).size < 4294967281 := by
    rw [ByteArray.size_append, show (ByteArray.mk #[47, 48]).size = 2 from rfl]; omega
  have HC := cutF (ztxt z ++ ByteArray.mk #[47, 48]) hsz (ztxt z) (ByteArray.mk #[48]) true (by
    rw [ByteArray.data_append, Array.toList_append]
    exact cut_at47 (no47_ztxt z))
  rw [← frV_q0]
  exact fparse_part _ _ _ z _ 0 _ 5 MaxL MaxL.keeps HC (parse_ztxt z (Nat.le_trans hz hk)) (np_dig 0 (by decide)) (fun w => from0F z w) w hm
theorem parse_qtxt (q : Rat) (k : Nat) (hq : Sz q k) (hk : k ≤ 200) (w : World) (hm : MaxL w) :
    Calls Tryz.prog 8 #[.string (qtxt q)] w fun xe w' => xe = .returned (.tuple #[fracV q, .int .i64 0]) ∧ Below w.heap.size w w' := by
  unfold qtxt
  by_cases h : q.den = 1
  · rw [if_pos h]
    have s1 := ztxt_small (k := 200) (by omega) (Nat.le_trans hq.1 hk)
    have HC := cutF (ztxt q.num) (by omega) (ztxt q.num) ⟨#[]⟩ false (cut_no47 (no47_ztxt q.num))
    exact fparse_whole _ _ _ q.num q.num (fe q) MaxL MaxL.keeps HC (parse_ztxt q.num (Nat.le_trans hq.1 hk)) one_o (fun w => lowestF rfl h w) w hm
  · rw [if_neg h]
    have h1 := parse_part q.num q.den q.den_nz k hq.1 hq.2 hk w hm
    rwa [Rat.mkRat_self] at h1
end Go.Proofs.YtecdnohhengfaabGreatDoor

/-
  Layer 1, cards: what the cards of all laws share.
-/
namespace Go.Proofs.YtecdnohhengfaabGreatDoor
open Go.ChangeShapes Go.WideShapes Go.ChangeAt Go.RowKit

theorem own : ownKnob Tryz.prog.godebug = none := by kernel_rfl
theorem laidOut : laidOutB Tryz.prog = true := by kernel_rfl
theorem cells62 : Tryz.prog.cellsOf 49 = 1 := by kernel_rfl
theorem cells24 : Tryz.prog.cellsOf 29 = 1 := by kernel_rfl

/-- The variables that every row of this layer lists. -/
def laidAll : List (String × DataW Unit) := [("math/bits.deBruijn32tab", Rows.laid_math_bits_deBruijn32tab), ("math/bits.deBruijn64tab", Rows.laid_math_bits_deBruijn64tab), ("internal/strconv.uint64pow10", Rows.laid_internal_strconv_uint64pow10)]
theorem gPow : Tryz.prog.globalNamed "internal/strconv.uint64pow10" = some 3 := by kernel_rfl

theorem gPowType : (Tryz.prog.globals[3]?).map (·.type) = some 225 := by kernel_rfl
theorem cells20 : Tryz.prog.cellsOf 225 = 20 := by kernel_rfl
theorem tab_of {W : World} (h : laidMetH Tryz.prog laidAll W) : Tab W := by
  have h1 := laidMetH.filter (fun x => x.1 == "internal/strconv.uint64pow10") h
  have e : laidAll.filter (fun x => x.1 == "internal/strconv.uint64pow10") = [("internal/strconv.uint64pow10", Rows.laid_internal_strconv_uint64pow10)] := by kernel_rfl
  rw [e, MakeChecks.laidMetH_plain _ _ _ (by kernel_rfl)] at h1
  exact Lib.tabIs_of_head (rest := []) gPow gPowType Tryz.underlying225 Tryz.underlying29 cells24 cells20 (show laidMet Tryz.prog (("internal/strconv.uint64pow10", Lib.tabData .u64 Lib.pow10Tab) :: []) W from h1)

theorem wide_u32 {n : Int} (h : (Lit.int .u32 n).wf = true) : 0 ≤ n ∧ n ≤ 4294967295 := bounds_u32 h

theorem ws_of {H : Type} {enc : TypeId × Value → H} {W : World} {v : Value} {d : DataW H} {p : List MemPlace} (h : DataW.Trod enc Tryz.prog W 0 (fun _ => true) true 22 v d p) (hv : ∃ a n c, v = .slice a n c) : ∃ l, Ws W v l := by
  obtain ⟨a0, len, cap, rfl⟩ := hv
  obtain ⟨fuel, hf⟩ := h
  rcases open_ints Tryz.underlying22 Tryz.underlying49 cells62 hf with ⟨hcs, hx⟩ | ⟨a, len', cap', zs, hcs, _, hl, hm, hz, hx, hcell, hwz⟩
  · simp [Value.cells] at hcs
    obtain ⟨rfl, rfl, rfl⟩ := hcs
    exact ⟨[], .inl ⟨_, _, rfl, rfl⟩⟩
  · simp [Value.cells] at hcs
    obtain ⟨rfl, rfl, rfl⟩ := hcs
    simp only [if_true] at hz
    by_cases h0 : len = 0
    · subst h0
      exact ⟨[], .inl ⟨_, _, rfl, rfl⟩⟩
    · have hll : ((zs.take len).map Int.toNat).length = len := by simp; omega
      refine ⟨(zs.take len).map Int.toNat, .inr ⟨a, cap, by rw [hll], ?_, ?_, ?_⟩⟩
      · intro x hx
        obtain ⟨z, hz1, rfl⟩ := List.mem_map.1 hx
        have := wide_u32 (hwz z (List.mem_of_mem_take hz1))
        omega
      · intro i hi
        rw [hll] at hi
        have hi2 : i < zs.length := by omega
        have e := hcell i hi2
        rw [show zs.getD i 0 = zs[i] by simp [List.getD, hi2]] at e
        have hw := wide_u32 (hwz zs[i] (List.getElem_mem hi2))
        rw [e]
        simp only [List.getElem_map, List.getElem_take]
        rw [Int.toNat_of_nonneg hw.1]
      · have e := hcell 0 (by omega)
        have := World.block_lt_of_cell? W _ e
        rw [show (a.add 0).block = a.block from by unfold Addr.add; split <;> rfl] at this
        exact this
end Go.Proofs.YtecdnohhengfaabGreatDoor

/-
  Layer 2, cards: a parameter that is a plain integer (gussetlaw02.Z).
-/
namespace Go.Proofs.YtecdnohhengfaabGreatDoor
open Go.ChangeShapes Go.WideShapes Go.ChangeAt Go.RowKit Go.Joins

theorem cellsZ : Tryz.prog.cellsOf 24 = 2 := by kernel_rfl
theorem ws_of_trod {H : Type} {enc : TypeId × Value → H} {W : World} {v : Value} {y : DataW H × List MemPlace} {fuel : Nat} (hf : DataW.trod enc Tryz.prog W 0 (fun _ => true) true fuel 22 [v] = some y) : ∃ a n c l, v = .slice a n c ∧ Ws W v l := by
  rcases open_ints Tryz.underlying22 Tryz.underlying49 cells62 hf with ⟨hcs, hx⟩ | ⟨a, len', cap', zs, hcs, _, hl, hm, hz, hx, hcell, hwz⟩
  · simp only [List.cons.injEq, and_true] at hcs
    subst hcs
    exact ⟨none, 0, 0, [], rfl, .inl ⟨_, _, rfl, rfl⟩⟩
  · simp only [List.cons.injEq, and_true] at hcs
    subst hcs
    simp only [if_true] at hz
    refine ⟨some a, len', cap', ?_⟩
    by_cases h0 : len' = 0
    · subst h0
      exact ⟨[], rfl, .inl ⟨_, _, rfl, rfl⟩⟩
    · have hll : ((zs.take len').map Int.toNat).length = len' := by simp; omega
      refine ⟨(zs.take len').map Int.toNat, rfl, .inr ⟨a, cap', by rw [hll], ?_, ?_, ?_⟩⟩
      · intro x hx
        obtain ⟨z, hz1, rfl⟩ := List.mem_map.1 hx
        have := wide_u32 (hwz z (List.mem_of_mem_take hz1))
        omega
      · intro i hi
        rw [hll] at hi
        have hi2 : i < zs.length := by omega
        have e := hcell i hi2
        rw [show zs.getD i 0 = zs[i] by simp [List.getD, hi2]] at e
        have hw := wide_u32 (hwz zs[i] (List.getElem_mem hi2))
        rw [e]
        simp only [List.getElem_map, List.getElem_take]
        rw [Int.toNat_of_nonneg hw.1]
      · have e := hcell 0 (by omega)
        have := World.block_lt_of_cell? W _ e
        rw [show (a.add 0).block = a.block from by unfold Addr.add; split <;> rfl] at this
        exact this
set_option maxRecDepth 100000 in
theorem z_of {H : Type} {enc : TypeId × Value → H} {W : World} {base : Nat} {v : Value} {d : DataW H} {p : List MemPlace} (hv : Value.okWide Tryz.prog W .any base 24 v)
    (h : DataW.Trod enc Tryz.prog W 0 (fun _ => true) true 24 v d p) : ∃ s a n c l, v = .agg #[.bool s, .slice a n c] ∧ Ws W (.slice a n c) l := by
  obtain ⟨v0, v1, y0, y1, m, rfl, rfl, rfl, h0, h1⟩ := open_agg2 Tryz.underlying24 (by kernel_rfl) cellsZ hv h
  obtain ⟨s, e0, -⟩ := DataW.trod_bool Tryz.underlying4 h0
  obtain ⟨a, n, c, l, rfl, hw⟩ := ws_of_trod h1
  simp only [List.cons.injEq, and_true] at e0
  subst e0
  exact ⟨s, a, n, c, l, rfl, hw⟩
end Go.Proofs.YtecdnohhengfaabGreatDoor

/-
  Layer 3, cards: parameters that are fractions as plain data.
-/
namespace Go.Proofs.YtecdnohhengfaabGreatDoor
open Go.ChangeShapes Go.WideShapes Go.ChangeAt Go.RowKit Go.Joins

theorem cellsG : Tryz.prog.cellsOf 26 = 3 := by kernel_rfl
theorem cellsW : Tryz.prog.cellsOf 22 = 1 := by kernel_rfl
theorem cellsB : Tryz.prog.cellsOf 4 = 1 := by kernel_rfl
set_option maxRecDepth 100000 in
theorem great_of {H : Type} {enc : TypeId × Value → H} {W : World} {base : Nat} {v : Value} {d : DataW H} {p : List MemPlace} (hv : Value.okWide Tryz.prog W .any base 26 v)
    (h : DataW.Trod enc Tryz.prog W 0 (fun _ => true) true 26 v d p) : ∃ s a q n c m d l k, v = .agg #[.bool s, .slice a n c, .slice q m d] ∧ Ws W (.slice a n c) l ∧ Ws W (.slice q m d) k := by
  obtain ⟨cs, rfl, hsz⟩ := okWide_struct Tryz.underlying26 hv
  obtain ⟨c0, c1, c2, rfl⟩ := array3 (hsz.trans cellsG)
  obtain ⟨fuel, hf⟩ := h
  obtain ⟨y0, y1, n, hx, _, h0, h1⟩ := trod_struct2 Tryz.underlying26 hf
  simp only [cellsZ, cellsW] at h0 h1
  obtain ⟨z0, z1, m, hz, _, g0, g1⟩ := trod_struct2 Tryz.underlying24 h0
  simp only [cellsB, cellsW] at g0 g1
  obtain ⟨s, e0, -⟩ := DataW.trod_bool Tryz.underlying4 g0
  obtain ⟨a1, n1, k1, l1, r1, w1⟩ := ws_of_trod g1
  obtain ⟨a2, n2, k2, l2, r2, w2⟩ := ws_of_trod h1
  simp [Value.cells] at e0 r1 r2
  subst e0 r1 r2
  exact ⟨s, a1, a2, n1, k1, n2, k2, l1, l2, rfl, w1, w2⟩
end Go.Proofs.YtecdnohhengfaabGreatDoor
