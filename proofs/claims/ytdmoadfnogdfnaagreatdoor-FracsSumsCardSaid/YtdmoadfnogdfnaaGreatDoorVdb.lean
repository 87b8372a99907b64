/-
  The law answers true at every input, and leaves its arguments as they were: a part of the proof. CONDITIONS: the package-level tables start as the program's text lays them (the card ties them).
-/
import Derived.Test.YtdmoadfnogdfnaaGreatDoorVda
import Derived.Test.YtdmoadfnogdfnaaGreatDoorTie
import Derived.Test.YtdmoadfnogdfnaaGreatDoorCards
set_option linter.unusedVariables false
set_option linter.unusedSimpArgs false
namespace Go.Proofs.YtdmoadfnogdfnaaGreatDoor
open Go.RowKit Go.Proofs.YtdmoadfnogdfnaaGreatDoor.Rx
attribute [local irreducible] lo hs sm s64 c64 d64 b64 mh ml pd pc qd qc val hiB str cmpI srD lz nb isq decB zl zh zs dval
theorem rzden (q : Rat) {k : Nat} (hq : Sz q k) (hk : k ≤ 1000) (v : Value) (w : World) (h : RF w v q) :
  Calls Tryz.prog 146 #[v] w fun e w' => ∃ v, e = .returned v ∧ RZ w' v (q.den : Int) ∧ Below w.heap.size w w' :=
 rfzden_w q q.den q.den (rden q hq hk) (rz_from false _ _ (by simp) (by simp)) v w h
theorem fd_neg (q : Rat) : fd (-q) = fd q := rfl
theorem rneg (q : Rat) (v : Value) (w : World) (h : RF w v q) : Calls Tryz.prog 69 #[v] w fun e w' => ∃ v, e = .returned v ∧ RF w' v (-q) ∧ Below w.heap.size w w' :=
 rfneg_w q (-q) (fun a w ha => rznegI a _ w ha) (fd_neg q) v w h
theorem rzsignI (z : Int) (v : Value) (w : World) (h : RZ w v z) : Calls Tryz.prog 37 #[v] w fun e w' => e = .returned (.int .i64 (sgn z)) ∧ Below w.heap.size w w' := by
 obtain ⟨ao, c, rfl⟩ := rz_form h
 unfold sgn
 by_cases h0 : z < 0
 ·rw [if_pos h0, show zs z = true from by unfold zs; exact decide_eq_true h0]
  exact rzsign_neg ao _ c (Nat.pos_of_ne_zero fun e => by have := (td_len_zero _).1 e; omega) w
 ·rw [if_neg h0, show zs z = false from by unfold zs; exact decide_eq_false h0]
  by_cases h1 : z = 0
  ·rw [if_pos h1]
   exact rzsign_zero false ao _ c ((td_len_zero _).2 (by omega)) w
  ·rw [if_neg h1]
   exact rzsign_pos ao _ c (Nat.pos_of_ne_zero fun e => by have := (td_len_zero _).1 e; omega) w
theorem rsign (q : Rat) (v : Value) (w : World) (h : RF w v q) : Calls Tryz.prog 59 #[v] w fun e w' => e = .returned (.int .i64 (sgnQ q)) ∧ Below w.heap.size w w' := by
 rw [sgnQ_num]; exact rfsign_w q _ (rzsignI q.num) v w h
theorem rabs (q : Rat) (v : Value) (w : World) (h : RF w v q) : Calls Tryz.prog 71 #[v] w fun e w' => ∃ v, e = .returned v ∧ RF w' v (absQ q) ∧ Below w.heap.size w w' := by
 have hs : sgnQ q < 0 ↔ q < 0 := by unfold sgnQ; split <;> (try split) <;> simp_all
 unfold absQ
 by_cases h0 : q < 0
 ·rw [if_pos h0]; exact rfabs_neg q _ _ (rsign q) (rneg q) (decide_eq_true (hs.2 h0)) v w h
 ·rw [if_neg h0]; exact rfabs_pos q _ (rsign q) (decide_eq_false (mt hs.1 h0)) v w h
theorem mk_add (p q : Rat) : mkRat (p.num * q.den + q.num * p.den) (p.den * q.den) = p + q := (Rat.add_def' p q).symm
theorem mk_mul (p q : Rat) : mkRat (p.num * q.num) (p.den * q.den) = p * q := (Rat.mul_def' p q).symm
theorem radd (p q : Rat) {k : Nat} (hp : Sz p k) (hq : Sz q k) (hk : k ≤ 90) (v1 v2 : Value) (w : World) (h1 : RF w v1 p) (h2 : RF w v2 q) :
  Calls Tryz.prog 62 #[v1, v2] w fun e w' => ∃ v, e = .returned v ∧ RF w' v (p + q) ∧ Below w.heap.size w w' := by
 have a1 := hp.tn; have a2 := hq.tn; have a3 := hp.tdn; have a4 := hq.tdn
 have t1 := td_mul_le a1 a4; have t2 := td_mul_le a2 a3; have t3 := td_mul_le a3 a4
 rw [← mk_add]
 have g1 : (Rx.td (p.num * (q.den : Int)).natAbs).length ≤ 5 * k + 5 * k := by rw [Int.natAbs_mul, Int.natAbs_natCast]; exact t1
 have g2 : (Rx.td (q.num * (p.den : Int)).natAbs).length ≤ 5 * k + 5 * k := by rw [Int.natAbs_mul, Int.natAbs_natCast]; exact t2
 have g3 := Nat.le_trans (td_mono (Int.natAbs_add_le _ _)) (td_add_le g1 g2)
 exact rfadd_w p q _ p.den q.den (p.num * q.den) (q.num * p.den) (p.num * q.den + q.num * p.den) p.den q.den (p.den * q.den) (rzden p hp (by omega)) (rzden q hq (by omega))
  (fun a b w ha hb => rzmulI a b _ _ (by omega) (by rw [Int.natAbs_natCast]; omega) w ha hb) (fun a b w ha hb => rzmulI a b _ _ (by omega) (by rw [Int.natAbs_natCast]; omega) w ha hb)
  (fun a b w ha hb => rzaddI a b _ _ (by omega) (by omega) w ha hb) (rden p hp (by omega)) (rden q hq (by omega)) (fun a b w ha hb => rmul_any a b _ _ (by omega) (by omega) w ha hb)
  (rfrom _ _ (Nat.mul_ne_zero p.den_nz q.den_nz) (by omega) (by omega)) v1 v2 w h1 h2
theorem rsub (p q : Rat) {k : Nat} (hp : Sz p k) (hq : Sz q k) (hk : k ≤ 90) (v1 v2 : Value) (w : World) (h1 : RF w v1 p) (h2 : RF w v2 q) :
  Calls Tryz.prog 64 #[v1, v2] w fun e w' => ∃ v, e = .returned v ∧ RF w' v (p - q) ∧ Below w.heap.size w w' := by
 rw [Rat.sub_eq_add_neg]; exact rfsub_w p q (-q) _ (rneg q) (radd p (-q) hp hq.neg hk) v1 v2 w h1 h2
theorem rmul (p q : Rat) {k : Nat} (hp : Sz p k) (hq : Sz q k) (hk : k ≤ 90) (v1 v2 : Value) (w : World) (h1 : RF w v1 p) (h2 : RF w v2 q) :
  Calls Tryz.prog 66 #[v1, v2] w fun e w' => ∃ v, e = .returned v ∧ RF w' v (p * q) ∧ Below w.heap.size w w' := by
 have a1 := hp.tn; have a2 := hq.tn; have a3 := hp.tdn; have a4 := hq.tdn
 have t1 := td_mul_le a1 a2; have t3 := td_mul_le a3 a4
 have g1 : (Rx.td (p.num * q.num).natAbs).length ≤ 5 * k + 5 * k := by rw [Int.natAbs_mul]; exact t1
 rw [← mk_mul]
 exact rfmul_w p q _ (p.num * q.num) p.den q.den (p.den * q.den) (fun a b w ha hb => rzmulI a b _ _ (by omega) (by omega) w ha hb) (rden p hp (by omega)) (rden q hq (by omega)) (fun a b w ha hb => rmul_any a b _ _ (by omega) (by omega) w ha hb)
  (rfrom _ _ (Nat.mul_ne_zero p.den_nz q.den_nz) (by omega) (by omega)) v1 v2 w h1 h2
theorem rcmp (p q : Rat) {k : Nat} (hp : Sz p k) (hq : Sz q k) (hk : k ≤ 90) (v1 v2 : Value) (w : World) (h1 : RF w v1 p) (h2 : RF w v2 q) :
  Calls Tryz.prog 57 #[v1, v2] w fun e w' => e = .returned (.int .i64 (cmpQ p q)) ∧ Below w.heap.size w w' := by
 rw [show cmpQ p q = sgnQ (p - q) by unfold cmpQ sgnQ; grind]
 exact rfcmp_w p q _ _ (rsub p q hp hq hk) (rsign _) v1 v2 w h1 h2
theorem rdiv0 (p : Rat) (v1 v2 : Value) (w : World) (h1 : RF w v1 p) (h2 : RF w v2 0) :
  Calls Tryz.prog 67 #[v1, v2] w fun e w' => ∃ v, e = .returned v ∧ RF w' v 0 ∧ Below w.heap.size w w' :=
 rfdiv_zero p 0 (rsign 0) v1 v2 w h1 h2
theorem mk_inv {q : Rat} (h : q ≠ 0) : mkRat (if q.num < 0 then -(q.den : Int) else (q.den : Int)) q.num.natAbs = q⁻¹ := by
 obtain ⟨h1, h2⟩ := rinv_parts h
 rw [← h1, ← h2, Rat.mkRat_self]
theorem rdivF (p q : Rat) {k : Nat} (hp : Sz p k) (hq : Sz q k) (h0 : q ≠ 0) (hk : k ≤ 90) (v1 v2 : Value) (w : World) (h1 : RF w v1 p) (h2 : RF w v2 q) :
  Calls Tryz.prog 67 #[v1, v2] w fun e w' => ∃ v, e = .returned v ∧ RF w' v (p / q) ∧ Below w.heap.size w w' := by
 have a2 := hq.tn; have a4 := hq.tdn
 have hn : q.num ≠ 0 := fun e => h0 (Rat.num_eq_zero.1 e)
 have hd := q.den_nz
 have hs : (sgnQ q == 0) = false := beq_eq_false_iff_ne.2 (by rw [sgnQ_num]; split <;> (try split) <;> omega)
 rw [Rat.div_def]
 have e : (zs q.num && decide (q.den ≠ 0)) = decide ((if q.num < 0 then -(q.den : Int) else (q.den : Int)) < 0) := by
  unfold zs
  by_cases h : q.num < 0 <;> simp [h, hd] <;> omega
 have e2 : q.den = (if q.num < 0 then -(q.den : Int) else (q.den : Int)).natAbs := by split <;> simp
 have hf := rfrom (if q.num < 0 then -(q.den : Int) else (q.den : Int)) q.num.natAbs (by omega) (by rw [← e2]; omega) (by omega)
 rw [mk_inv h0] at hf
 exact rfdiv_w p q q⁻¹ _ _ _ q.den (rsign q) (rden q hq (by omega)) (rz_from _ _ _ e e2) hf (rmul p q⁻¹ hp (hq.inv h0) hk) hs v1 v2 w h1 h2
theorem rzof_one (w : World) : Calls Tryz.prog 135 #[.int .i64 1] w fun e w' => ∃ v, e = .returned v ∧ RZ w' v 1 ∧ Below w.heap.size w w' :=
 rzof_pos 1 1 1 1 one_r (rz_from false 1 1 rfl rfl) (by decide) (by decide) w
theorem ed_uniq {x y q r : Int} (h0 : y ≠ 0) (h : r + y * q = x) (h1 : 0 ≤ r) (h2 : r < (y.natAbs : Int)) : x / y = q ∧ x % y = r := by
 rcases Int.lt_or_gt_of_ne h0 with hy | hy
 ·have h3 := (Int.ediv_emod_unique (a := x) (b := -y) (q := -q) (r := r) (by omega)).2 ⟨by rw [Int.neg_mul_neg]; exact h, h1, by omega⟩
  rw [Int.ediv_neg, Int.emod_neg] at h3
  exact ⟨by omega, h3.2⟩
 ·exact (Int.ediv_emod_unique hy).2 ⟨h, h1, by omega⟩
/-- The division of integers. -/
theorem rzdivI (x y : Int) (h0 : y ≠ 0) (lx : (Rx.td x.natAbs).length ≤ 1000) (ly : (Rx.td y.natAbs).length ≤ 1000) (v1 v2 : Value) (w : World) (h1 : RZ w v1 x) (h2 : RZ w v2 y) :
  Calls Tryz.prog 46 #[v1, v2] w fun e w' => ∃ a b, e = .returned (.tuple #[a, b]) ∧ RZ w' a (x / y) ∧ RZ w' b (x % y) ∧ Below w.heap.size w w' := by
 have hy : 0 < y.natAbs := by omega
 have HD := fun a b w ha hb => rdiv_any a b x.natAbs y.natAbs hy lx ly w ha hb
 have hm := Nat.mod_lt x.natAbs hy
 have hdm := Nat.div_add_mod x.natAbs y.natAbs
 have lq : (Rx.td (x.natAbs / y.natAbs)).length ≤ 1000 := Nat.le_trans (td_mono (Nat.div_le_self _ _)) lx
 have lm : (Rx.td (x.natAbs % y.natAbs)).length ≤ 1000 := Nat.le_trans (td_mono (Nat.mod_le _ _)) lx
 generalize x.natAbs / y.natAbs = q at *
 generalize x.natAbs % y.natAbs = m at *
 -- the two signed parts
 obtain ⟨u, hu, hub, hul⟩ : ∃ u : Int, (u = if zs x == zs y then (q : Int) else -q) ∧ ((!(zs x == zs y)) && decide (q ≠ 0)) = decide (u < 0) ∧ q = u.natAbs := by
  refine ⟨_, rfl, ?_, ?_⟩
  ·rw [Bool.eq_iff_iff]; cases zs x == zs y <;> simp <;> omega
  ·split <;> simp
 obtain ⟨v, hv, hvb, hvl⟩ : ∃ v : Int, (v = if zs x then -(m : Int) else m) ∧ (zs x && decide (m ≠ 0)) = decide (v < 0) ∧ m = v.natAbs := by
  refine ⟨_, rfl, ?_, ?_⟩
  ·rw [Bool.eq_iff_iff]; cases zs x <;> simp <;> omega
  ·split <;> simp
 have hx : v + y * u = x := by
  have e : (y.natAbs : Int) * (q : Int) + m = (x.natAbs : Int) := by exact_mod_cast hdm
  have zx : zs x = decide (x < 0) := by unfold zs; rfl
  have zy : zs y = decide (y < 0) := by unfold zs; rfl
  rw [hu, hv, zx, zy]
  have ey' : (y.natAbs : Int) = if y < 0 then -y else y := by split <;> omega
  have ex' : (x.natAbs : Int) = if x < 0 then -x else x := by split <;> omega
  rw [ey', ex'] at e
  by_cases ex : x < 0 <;> by_cases ey : y < 0 <;> simp [ex, ey] at e ⊢ <;> grind
 have lu : (Rx.td u.natAbs).length ≤ 1000 := by rw [← hul]; exact lq
 have lv : (Rx.td v.natAbs).length ≤ 1000 := by rw [← hvl]; exact lm
 have HF := fun a w ha => rz_from (!(zs x == zs y)) q u hub hul a w ha
 have HG := fun a w ha => rz_from (zs x) m v hvb hvl a w ha
 have l1 : (Rx.td (1 : Int).natAbs).length ≤ 1000000 := Nat.le_trans td_one (by omega)
 by_cases hv0 : v < 0
 ·have s0 : decide (sgn v < 0) = true := decide_eq_true (by unfold sgn; rw [if_pos hv0]; omega)
  by_cases hy0 : 0 < y
  ·obtain ⟨d1, d2⟩ := ed_uniq (x := x) (q := u - 1) (r := v + y) h0 (by rw [Int.mul_sub, Int.mul_one]; omega) (by omega) (by omega)
   rw [d1, d2]
   exact rzdiv_pos x y u v (sgn v) (sgn y) q m 1 _ _ HD HF HG (rzsignI v) (rzsignI y) (rzof_one) (fun a b w ha hb => rzsubI a b _ _ (by omega) l1 w ha hb) (fun a b w ha hb => rzaddI a b _ _ (by omega) (by omega) w ha hb) s0 (decide_eq_true (by unfold sgn; rw [if_neg (by omega), if_neg (by omega)]; omega)) v1 v2 w h1 h2
  ·obtain ⟨d1, d2⟩ := ed_uniq (x := x) (q := u + 1) (r := v - y) h0 (by rw [Int.mul_add, Int.mul_one]; omega) (by omega) (by omega)
   rw [d1, d2]
   exact rzdiv_neg x y u v (sgn v) (sgn y) q m 1 _ _ HD HF HG (rzsignI v) (rzsignI y) (rzof_one) (fun a b w ha hb => rzaddI a b _ _ (by omega) l1 w ha hb) (fun a b w ha hb => rzsubI a b _ _ (by omega) (by omega) w ha hb) s0 (decide_eq_false (by unfold sgn; rw [if_pos (by omega)]; omega)) v1 v2 w h1 h2
 ·obtain ⟨d1, d2⟩ := ed_uniq (x := x) (q := u) (r := v) h0 hx (by omega) (by omega)
  rw [d1, d2]
  exact rzdiv_plain x y u v (sgn v) 0 q m HD HF HG (rzsignI v) (decide_eq_false (by unfold sgn; rw [if_neg hv0]; split <;> omega)) v1 v2 w h1 h2
theorem rfloorF (q : Rat) {k : Nat} (hq : Sz q k) (hk : k ≤ 90) (v : Value) (w : World) (h : RF w v q) :
  Calls Tryz.prog 77 #[v] w fun e w' => ∃ v, e = .returned v ∧ RZ w' v q.floor ∧ Below w.heap.size w w' := by
 have a2 := hq.tn; have a4 := hq.tdn
 have hd := q.den_nz
 rw [rfloor]
 exact rffloor_w q q.den _ (q.num % (q.den : Int)) (rzden q hq (by omega)) (rzdivI q.num q.den (by omega) (by omega) (by rw [Int.natAbs_natCast]; omega)) v w h
end Go.Proofs.YtdmoadfnogdfnaaGreatDoor
namespace Go.Proofs.YtdmoadfnogdfnaaGreatDoor
open Go.RowKit Go.Proofs.YtdmoadfnogdfnaaGreatDoor.Rx
attribute [local irreducible] lo hs sm s64 c64 d64 b64 mh ml pd pc qd qc val hiB str cmpI srD lz nb isq decB zl zh dval txt
theorem dI_le {a b : Int} {k : Nat} (h : a.natAbs ≤ b.natAbs) (hb : dI b ≤ k) : dI a ≤ k := digs_length_iff.2 (Nat.lt_of_le_of_lt h (digs_length_iff.1 hb))
theorem dI_td {a : Int} {k : Nat} (h : dI a ≤ k) : (Rx.td a.natAbs).length ≤ 5 * k := td_of_digs h
end Go.Proofs.YtdmoadfnogdfnaaGreatDoor
namespace Go.Proofs.YtdmoadfnogdfnaaGreatDoor
open Go.RowKit
attribute [local irreducible] lo hs zl zh zs
/-- few: its slice's structs. -/
structure GW (w : World) (g n : Nat) (len len2 : Nat → Nat) : Prop where
 cell : ∀ i, i < n → ∃ a c, w.cell? ⟨g, i * 3 + 1, none⟩ = some (.slice a (len i) c)
 cell2 : ∀ i, i < n → ∃ a c, w.cell? ⟨g, i * 3 + 2, none⟩ = some (.slice a (len2 i) c)
 lt : n ≤ 1000
set_option maxHeartbeats 4000000 in
set_option maxRecDepth 100000 in
theorem gfew_yes (most : Nat) (g n c : Nat) (len len2 : Nat → Nat) (w : World) (hF : GW w g n len len2) (hn : 0 < n) (hm : most < 1000) (h : ∀ i, i < n → len i ≤ most ∧ len2 i ≤ most) :
  Calls Tryz.prog 53 #[.int .i64 (most : Int), .slice (some ⟨g, 0, none⟩) n c] w fun e w' => e = .returned (.bool true) ∧ w' = w := by
 have hlt := hF.lt
 have hc := Lib.hid hF.cell
 have hd := Lib.hid hF.cell2
 have h := Lib.hid h
 clear hF
 go_enter Tryz.func53, Tryz.ntmps53
 go_wp2_with fail
 go_loopw [5] (fun z wr => ∃ i : Nat, i ≤ n ∧ z = .int .i64 (i : Int) ∧ wr = w) (fun z _ => n - (intOf z).toNat)
 case atStart => exact ⟨0, Nat.zero_le _, rfl, rfl⟩
 case round =>
  obtain ⟨i, hi, rfl, rfl⟩ := hrel
  rcases Nat.lt_or_ge i n with hin | hin
  ·obtain ⟨a, c1, hci⟩ := hc.out i hin
   obtain ⟨a2, c2, hdi⟩ := hd.out i hin
   obtain ⟨hle, hle2⟩ := h.out i hin
   have k1 : (i : Int) < (n : Int) := by omega
   have k2 : decide ((i : Int) < (n : Int)) = true := decide_eq_true k1
   have k3 : decide ((most : Int) < (len i : Int)) = false := decide_eq_false (by omega)
   have k4 : decide ((most : Int) < (len2 i : Int)) = false := decide_eq_false (by omega)
   generalize len i = m at *
   generalize len2 i = m2 at *
   go_wp2_with fail
   go_roundw
   case rel => exact ⟨i + 1, by omega, by first | rfl | go_num, by first | trivial | rfl⟩
   case measure => simp [intOf]; omega
  ·obtain rfl : i = n := by omega
   have k2 : decide ((i : Int) < (i : Int)) = false := decide_eq_false (by omega)
   go_wp2_with fail
   go_ret
   exact ⟨rfl, rfl⟩
set_option maxHeartbeats 4000000 in
set_option maxRecDepth 100000 in
theorem gfew_no (most : Nat) (g n c k : Nat) (len len2 : Nat → Nat) (w : World) (hF : GW w g n len len2) (hk : k < n) (hm : most < 1000) (h : ∀ i, i < k → len i ≤ most ∧ len2 i ≤ most) (hg : most < len k ∨ len k ≤ most ∧ most < len2 k) :
  Calls Tryz.prog 53 #[.int .i64 (most : Int), .slice (some ⟨g, 0, none⟩) n c] w fun e w' => e = .returned (.bool false) ∧ w' = w := by
 have hlt := hF.lt
 have hc := Lib.hid hF.cell
 have hd := Lib.hid hF.cell2
 have h := Lib.hid h
 replace hg := Lib.hid hg
 clear hF
 go_enter Tryz.func53, Tryz.ntmps53
 go_wp2_with fail
 go_loopw [5] (fun z wr => ∃ i : Nat, i ≤ k ∧ z = .int .i64 (i : Int) ∧ wr = w) (fun z _ => n - (intOf z).toNat)
 case atStart => exact ⟨0, Nat.zero_le _, rfl, rfl⟩
 case round =>
  obtain ⟨i, hi, rfl, rfl⟩ := hrel
  have hin : i < n := by omega
  obtain ⟨a, c1, hci⟩ := hc.out i hin
  obtain ⟨a2, c2, hdi⟩ := hd.out i hin
  have k1 : (i : Int) < (n : Int) := by omega
  have k2 : decide ((i : Int) < (n : Int)) = true := decide_eq_true k1
  rcases Nat.lt_or_ge i k with hik | hik
  ·obtain ⟨hle, hle2⟩ := h.out i hik
   have k3 : decide ((most : Int) < (len i : Int)) = false := decide_eq_false (by omega)
   have k4 : decide ((most : Int) < (len2 i : Int)) = false := decide_eq_false (by omega)
   generalize len i = m at *
   generalize len2 i = m2 at *
   go_wp2_with fail
   go_roundw
   case rel => exact ⟨i + 1, by omega, by first | rfl | go_num, by first | trivial | rfl⟩
   case measure => simp [intOf]; omega
  ·obtain rfl : i = k := by omega
   rcases hg.out with hg1 | ⟨hg1, hg2⟩
   ·have k3 : decide ((most : Int) < (len i : Int)) = true := decide_eq_true (by omega)
    generalize len i = m at *
    go_wp2_with fail
    go_ret
    exact ⟨rfl, rfl⟩
   ·have k3 : decide ((most : Int) < (len i : Int)) = false := decide_eq_false (by omega)
    have k4 : decide ((most : Int) < (len2 i : Int)) = true := decide_eq_true (by omega)
    generalize len i = m at *
    generalize len2 i = m2 at *
    go_wp2_with fail
    go_ret
    exact ⟨rfl, rfl⟩
theorem gfew_any (z : Int) (most : Nat) (hz : z = (most : Int)) (g n c : Nat) (len len2 : Nat → Nat) (w : World) (hF : GW w g n len len2) (hn : 0 < n) (hm : most < 1000) (B : Bool) (hB : B = true ↔ ∀ i, i < n → len i ≤ most ∧ len2 i ≤ most) :
  Calls Tryz.prog 53 #[.int .i64 z, .slice (some ⟨g, 0, none⟩) n c] w fun e w' => e = .returned (.bool B) ∧ w' = w := by
 subst hz
 by_cases h : ∀ i, i < n → len i ≤ most ∧ len2 i ≤ most
 ·rw [hB.2 h]; exact gfew_yes most g n c len len2 w hF hn hm h
 ·have hf : B = false := Bool.eq_false_iff.2 fun e => h (hB.1 e)
  rw [hf]
  have ex : ∃ k, k < n ∧ ¬ (len k ≤ most ∧ len2 k ≤ most) := Classical.byContradiction fun hc => h fun i hi => Classical.byContradiction fun hh => hc ⟨i, hi, hh⟩
  have key : ∀ m k, k ≤ m → k < n → ¬ (len k ≤ most ∧ len2 k ≤ most) → ∃ k, k < n ∧ ¬ (len k ≤ most ∧ len2 k ≤ most) ∧ ∀ i, i < k → len i ≤ most ∧ len2 i ≤ most := by
   intro m
   induction m with
   | zero => intro k hk h1 h2; exact ⟨k, h1, h2, fun i hi => by omega⟩
   | succ m ih =>
    intro k hk h1 h2
    by_cases hx : ∀ i, i < k → len i ≤ most ∧ len2 i ≤ most
    ·exact ⟨k, h1, h2, hx⟩
    ·have : ∃ i, i < k ∧ ¬ (len i ≤ most ∧ len2 i ≤ most) := Classical.byContradiction fun hc => hx fun i hi => Classical.byContradiction fun hh => hc ⟨i, hi, hh⟩
     obtain ⟨i, hi, hl⟩ := this
     exact ih i (by omega) (by omega) hl
  obtain ⟨k, h1, h2⟩ := ex
  obtain ⟨k, h1, h2, h3⟩ := key k k (Nat.le_refl _) h1 h2
  exact gfew_no most g n c k len len2 w hF h1 hm h3 (by omega)
theorem gfew2 (z : Int) (most : Nat) (hz : z = (most : Int)) (hm : most < 1000) {w : World} {g : Nat} {s0 s1 : Bool} {a0 b0 a1 b1 : Option Addr} {n0 c0 m0 d0 n1 c1 m1 d1 : Nat} (h : Hd w g [.bool s0, .slice a0 n0 c0, .slice b0 m0 d0, .bool s1, .slice a1 n1 c1, .slice b1 m1 d1]) :
    Calls Tryz.prog 53 #[.int .i64 z, .slice (some ⟨g, 0, none⟩) 2 2] w fun e w' => e = .returned (.bool (decide (n0 ≤ most ∧ m0 ≤ most ∧ n1 ≤ most ∧ m1 ≤ most))) ∧ w' = w :=
  gfew_any z most hz g 2 2 (fun i => if i = 0 then n0 else n1) (fun i => if i = 0 then m0 else m1) w
    ⟨fun i hi => by
      rcases (show i = 0 ∨ i = 1 by omega) with rfl | rfl
      · exact ⟨a0, c0, h.cell 1 (by simp)⟩
      · exact ⟨a1, c1, h.cell 4 (by simp)⟩, fun i hi => by
      rcases (show i = 0 ∨ i = 1 by omega) with rfl | rfl
      · exact ⟨b0, d0, h.cell 2 (by simp)⟩
      · exact ⟨b1, d1, h.cell 5 (by simp)⟩, by omega⟩ (by omega) hm _
    ⟨fun hb i hi => by have h0 := of_decide_eq_true hb; split <;> omega,
     fun hb => decide_eq_true (by have h0 := hb 0 (by omega); have h1 := hb 1 (by omega); simp at h0 h1; omega)⟩
end Go.Proofs.YtdmoadfnogdfnaaGreatDoor
namespace Go.Proofs.YtdmoadfnogdfnaaGreatDoor
open Go.RowKit
attribute [local irreducible] lo hs sm s64 c64 d64 b64 mh ml pd pc qd qc val hiB str cmpI srD lz nb isq decB zl zh zs
/-- A Great as plain data. -/
def gmade (s : Bool) (l k : List Nat) : Rat := mkRat (zmade s l) (made k + 1)
theorem gof_any (s : Bool) (a b : Option Addr) (n c m d : Nat) (l k : List Nat) (hl : l.length ≤ 1000) (hk : k.length ≤ 1000) (w : World) (h1 : Ws w (.slice a n c) l) (h2 : Ws w (.slice b m d) k) :
  Calls Tryz.prog 55 #[.agg #[.bool s, .slice a n c, .slice b m d]] w fun xe w' => xe = .returned (fracV (gmade s l k)) ∧ Below w.heap.size w w' := by
 have d1 := zmade_dI (s := s) h1.lt
 have d2 := made_digs h2.lt
 have dz1 : (digs 1).length ≤ 1 := digs_length_iff.2 (by rw [Nat.pow_one]; exact Bs_gt)
 have d3 : (digs (made k + 1)).length ≤ 1001 := Nat.le_trans (digs_add_le (k := 1000) (by omega) (Nat.le_trans dz1 (by omega))) (by omega)
 refine gof_w s a b n c m d (zmade false k) (zmade s l) _ (made k) (made k + 1) _ _ (Keeps.ws _ l) (fun w h => zof_any s a n c l hl w h) (fun w => gden_w s a b n c m d w) _ (Keeps.ws _ k) (fun w h => zof_any false b m d k hk w h) (fun w => ?_) one_o (fun w => add_any (made k) 1 (by omega) (by omega) w) (fromF (zmade s l) (made k + 1) (by omega) (by omega) (by omega)) w h1 h2
 have h := absI (zmade false k) w
 rw [show (zmade false k).natAbs = made k from rfl] at h
 exact h
theorem gmade_sz {s : Bool} {w : World} {a b : Option Addr} {n c m d : Nat} {l k : List Nat} {most : Nat} (hp : 0 < most) (h1 : Ws w (.slice a n c) l) (h2 : Ws w (.slice b m d) k) (hn : n ≤ most) (hm : m ≤ most) : Sz (gmade s l k) (most + 1) := by
 have e1 := h1.len
 have e2 := h2.len
 have d1 := zmade_dI (s := s) h1.lt
 have d2 := made_digs h2.lt
 refine Sz.mk (by omega) ?_ (by omega)
 have dz1 : (digs 1).length ≤ 1 := digs_length_iff.2 (by rw [Nat.pow_one]; exact Bs_gt)
 exact digs_add_le (k := most) (by omega) (by omega)
theorem sgnQ_eq0 {q : Rat} : (sgnQ q == 0) = decide (q = 0) := by
 unfold sgnQ
 by_cases h : q < 0
 ·rw [if_pos h, decide_eq_false (p := q = 0) (by grind)]; rfl
 ·rw [if_neg h]
  by_cases h' : q = 0
  ·rw [if_pos h', decide_eq_true h']; rfl
  ·rw [if_neg h', decide_eq_false h']; rfl
end Go.Proofs.YtdmoadfnogdfnaaGreatDoor
namespace Go.Proofs.YtdmoadfnogdfnaaGreatDoor
open Go.RowKit Go.Proofs.YtdmoadfnogdfnaaGreatDoor.Rx
attribute [local irreducible] lo hs sm s64 c64 d64 b64 mh ml pd pc qd qc val hiB str cmpI srD lz nb isq decB zl zh zs dval tln fd qtxt
theorem z_field (b : Bool) (a : Option Addr) (n c : Nat) (w : World) : (Instr.field 44 (.agg #[.bool b, .slice a n c]) 1).run Tryz.prog w = .ok (.slice a n c) w := by
 simp [go_sem, Instr.field, asAgg]
set_option maxHeartbeats 4000000 in
set_option maxRecDepth 100000 in
theorem zref_w (s : Bool) (a : Option Addr) (n c m : Nat) (z : Int) (K : World → Prop) (hK : Keeps K) (HO : ∀ (w : World), K w → Calls Tryz.prog 98 #[.slice a n c] w fun e w' => ∃ pv, e = .returned pv ∧ Rn w' pv m ∧ Below w.heap.size w w') (HF : ∀ (p1 : Value) (w : World), Rn w p1 m → Calls Tryz.prog 123 #[.bool s, p1] w fun e w' => ∃ pv, e = .returned pv ∧ RZ w' pv z ∧ Below w.heap.size w w') (w : World) (kK : K w) :
  Calls Tryz.prog 25 #[.agg #[.bool s, .slice a n c]] w fun e w' => ∃ pv, e = .returned pv ∧ RZ w' pv z ∧ Below w.heap.size w w' := by
 replace hK := Lib.hid hK
 replace HO := Lib.hid HO
 replace HF := Lib.hid HF
 have hL0 : GL w w [] := GL.start w
 have hS : SS w [] := SS.nil w
 obtain ⟨x1, hweq, hL0, hS⟩ := GL.named2 ((hL0.new rfl [.bool s, .slice a n c] 36).new (K := w.heap.size + 1) (szA _ _) [.bool false, .slice none 0 0] 44) ((hS.new (.cells #[.bool s, .slice a n c] 36)).new (.cells #[.bool false, .slice none 0 0] 44))
 go_enter Tryz.func25, Tryz.ntmps25
 go_upto_region 1 with fail
 clear hweq
 refine region_tl 6 [EV (.pointer (some ⟨w.heap.size, 0, none⟩)), EV (.bool s), EV (.pointer (some ⟨w.heap.size, 1, none⟩)), EV (.slice a n c), PN m, PZ z] (by kernel_rfl) (by kernel_rfl) ?_ ?_ ?_
 ·repeat' first | exact stays_nil | apply stays_cons | exact stays_eq _ | exact stays_rz _ | exact stays_rn _
 ·simp only [List.take_succ_cons, List.take_zero, hopsR, and_true]
  refine ⟨?_, ?_, ?_, ?_, ?_, ?_⟩ <;> intro fv w1 hb1 hp
  all_goals (have hc := (hL0.call (below_drew hb1)).fc; simp only [fcG, cellsF, neK, and_true, ne_eq, Nat.zero_add, Nat.reduceAdd] at hc; simp only [putsV, Act.put, List.setIfInBounds_toArray, List.set_cons_succ, List.set_cons_zero, Nat.zero_add, Nat.reduceAdd])
  ·refine tyAt_none rfl ?_
   simp [tyUpon, execOp, go_sem, Act.eval, Below.refl]
  ·have h0 : EV _ (fv 0) w1 := hp 0 (LC (by kernel_rfl))
   refine tyAt_none rfl ?_
   simp [tyUpon, execOp, go_sem, Act.eval, hc, h0, Below.refl]
  ·refine tyAt_none rfl ?_
   simp [tyUpon, execOp, go_sem, Act.eval, Below.refl]
  ·have h2 : EV _ (fv 2) w1 := hp 2 (LC (by kernel_rfl))
   refine tyAt_none rfl ?_
   simp [tyUpon, execOp, go_sem, Act.eval, hc, h2, Below.refl]
  ·have h3 : EV _ (fv 3) w1 := hp 3 (LC (by kernel_rfl))
   refine tyAt_none rfl ?_
   refine ty_call (f := 98) (args := #[.slice a n c]) (by simp [execOp, go_sem, Act.eval, h3]) ?_
   exact (HO.out w1 (hK.out.at ((hL0.call (below_drew hb1)).bl) kK)).mono fun e w2 ⟨pv, h1, h2, h3⟩ => ⟨pv, h1, h2, h3⟩
  ·have h1 : EV _ (fv 1) w1 := hp 1 (LC (by kernel_rfl))
   have h4 : PN _ (fv 4) w1 := hp 4 (LC (by kernel_rfl))
   refine tyAt_none rfl ?_
   refine ty_call (f := 123) (args := #[.bool s, fv 4]) (by simp [execOp, go_sem, Act.eval, h1]) ?_
   exact (HF.out (fv 4) w1 h4).mono fun e w2 ⟨pv, h1, h2, h3⟩ => ⟨pv, h1, h2, h3⟩
 ·intro fv x2 hb1 hv
  have e0 : fv 0 = _ := hv 0 (by omega)
  have e1 : fv 1 = _ := hv 1 (by omega)
  have e2 : fv 2 = _ := hv 2 (by omega)
  have e3 : fv 3 = _ := hv 3 (by omega)
  have q4 : Rn x2 (fv 4) m := hv 4 (by omega)
  obtain ⟨g1, d1, e4⟩ := rn_form q4
  rw [e4] at q4
  have q5 : RZ x2 (fv 5) z := hv 5 (by omega)
  obtain ⟨g2, d2, e5⟩ := rz_form q5
  rw [e5] at q5
  simp only [List.take_succ_cons, List.take_zero, putsV, Act.put, List.setIfInBounds_toArray, List.set_cons_succ, List.set_cons_zero, List.drop_succ_cons, List.drop_zero, Nat.zero_add, Nat.reduceAdd, e0, e1, e2, e3, e4, e5]
  replace hL0 := hL0.call (below_drew hb1)
  replace hS := hS.call (below_drew hb1)
  replace hS := hS.cons q4
  replace hS := hS.cons (rz_rn q5)
  clear e0 e1 e2 e3 e4 e5 hb1 hv q4 q5 fv
  have hS1 := hS.put (((Upd.refl (w.heap.size + 1) x2).setCell 0 (.bool (zs z))).setCell 1 (.slice g2 (tln z.natAbs) d2)) (hL0.get _ _ List.mem_cons_self) (by intro v hv n; simp only [List.mem_cons, List.not_mem_nil, or_false] at hv; rcases hv with rfl | rfl <;> simp)
  have hA := hL0.fc
  simp only [fcG, cellsF, neK, and_true, ne_eq, Nat.zero_add, Nat.reduceAdd] at hA
  have hP := hL0.put 0 (w.heap.size + 1) _ rfl [.bool (zs z), .slice g2 (tln z.natAbs) d2] rfl
  simp only [setAll, List.set_cons_zero, List.set_cons_succ] at hP
  generalize hput1 : ((x2.setCell ⟨w.heap.size + 1, 0, none⟩ (.bool (zs z))).setCell ⟨w.heap.size + 1, 1, none⟩ (.slice g2 (tln z.natAbs) d2)) = x3 at hP hS1
  have hB1 := hP.fc
  simp only [fcG, cellsF, neK, and_true, ne_eq, Nat.zero_add, Nat.reduceAdd] at hB1
  replace hL0 := hP
  replace hS := hS1
  clear hS1
  go_wp2_with fail
  exact bodyPost_ret (v := .agg #[.bool (zs z), .slice g2 (tln z.natAbs) d2]) (by simp [results, Tryz.results25, go_sem, hB1]) rfl ⟨_, rfl, (rz_of (hS.get List.mem_cons_self)), hL0.bl⟩
set_option maxHeartbeats 4000000 in
set_option maxRecDepth 100000 in
theorem gref_w (s : Bool) (a b : Option Addr) (n c m d : Nat) (z y k x : Int) (q : Rat) (K : World → Prop) (hK : Keeps K) (HZ : ∀ (w : World), K w → Calls Tryz.prog 25 #[.agg #[.bool s, .slice a n c]] w fun e w' => ∃ pv, e = .returned pv ∧ RZ w' pv z ∧ Below w.heap.size w w') (HD : RT 140 #[.agg #[.bool s, .slice a n c, .slice b m d]] (.agg #[.bool false, .slice b m d])) (L : World → Prop) (hL : Keeps L) (HE : ∀ (w : World), L w → Calls Tryz.prog 25 #[.agg #[.bool false, .slice b m d]] w fun e w' => ∃ pv, e = .returned pv ∧ RZ w' pv y ∧ Below w.heap.size w w') (HO : ∀ (w : World), Calls Tryz.prog 135 #[.int .i64 1] w fun e w' => ∃ pv, e = .returned pv ∧ RZ w' pv k ∧ Below w.heap.size w w') (HA : ∀ (p0 p1 : Value) (w : World), RZ w p0 y → RZ w p1 k → Calls Tryz.prog 29 #[p0, p1] w fun e w' => ∃ pv, e = .returned pv ∧ RZ w' pv x ∧ Below w.heap.size w w') (HF : ∀ (p0 p1 : Value) (w : World), RZ w p0 z → Rn w p1 x.natAbs → Calls Tryz.prog 141 #[p0, p1] w fun e w' => ∃ pv, e = .returned pv ∧ RF w' pv q ∧ Below w.heap.size w w') (w : World) (kK : K w) (kL : L w) :
  Calls Tryz.prog 56 #[.agg #[.bool s, .slice a n c, .slice b m d]] w fun e w' => ∃ pv, e = .returned pv ∧ RF w' pv q ∧ Below w.heap.size w w' := by
 replace hK := Lib.hid hK
 replace HZ := Lib.hid HZ
 replace HD := Lib.hid HD
 replace hL := Lib.hid hL
 replace HE := Lib.hid HE
 replace HO := Lib.hid HO
 replace HA := Lib.hid HA
 replace HF := Lib.hid HF
 have hL0 : GL w w [] := GL.start w
 have hS : SS w [] := SS.nil w
 obtain ⟨x1, hweq, hL0, hS⟩ := GL.named2 ((hL0.new rfl [.bool s, .slice a n c, .slice b m d] 76).new (K := w.heap.size + 1) (szA _ _) [.bool false, .slice none 0 0, .slice none 0 0] 82) ((hS.new (.cells #[.bool s, .slice a n c, .slice b m d] 76)).new (.cells #[.bool false, .slice none 0 0, .slice none 0 0] 82))
 go_enter Tryz.func56, Tryz.ntmps56
 go_upto_region 1 with fail
 clear hweq
 refine region_tl 10 [EV (.pointer (some ⟨w.heap.size, 0, none⟩)), EV (.agg #[.bool s, .slice a n c]), PZ z, EV (.agg #[.bool s, .slice a n c, .slice b m d]), EV (.agg #[.bool false, .slice b m d]), PZ y, PZ k, PZ x, PN x.natAbs, PF q] (by kernel_rfl) (by kernel_rfl) ?_ ?_ ?_
 ·repeat' first | exact stays_nil | apply stays_cons | exact stays_eq _ | exact stays_rz _ | exact stays_rn _ | exact stays_rf _
 ·simp only [List.take_succ_cons, List.take_zero, hopsR, and_true]
  refine ⟨?_, ?_, ?_, ?_, ?_, ?_, ?_, ?_, ?_, ?_⟩ <;> intro fv w1 hb1 hp
  all_goals (have hc := (hL0.call (below_drew hb1)).fc; simp only [fcG, cellsF, neK, and_true, ne_eq, Nat.zero_add, Nat.reduceAdd] at hc; simp only [putsV, Act.put, List.setIfInBounds_toArray, List.set_cons_succ, List.set_cons_zero, Nat.zero_add, Nat.reduceAdd])
  ·refine tyAt_none rfl ?_
   simp [tyUpon, execOp, go_sem, Act.eval, Below.refl]
  ·have h0 : EV _ (fv 0) w1 := hp 0 (LC (by kernel_rfl))
   refine tyAt_none rfl ?_
   simp [tyUpon, execOp, go_sem, Act.eval, hc, h0, Below.refl]
  ·have h1 : EV _ (fv 1) w1 := hp 1 (LC (by kernel_rfl))
   refine tyAt_none rfl ?_
   refine ty_call (f := 25) (args := #[.agg #[.bool s, .slice a n c]]) (by simp [execOp, go_sem, Act.eval, h1]) ?_
   exact (HZ.out w1 (hK.out.at ((hL0.call (below_drew hb1)).bl) kK)).mono fun e w2 ⟨pv, h1, h2, h3⟩ => ⟨pv, h1, h2, h3⟩
  ·refine tyAt_none rfl ?_
   simp [tyUpon, execOp, go_sem, Act.eval, hc, Below.refl]
  ·have h3 : EV _ (fv 3) w1 := hp 3 (LC (by kernel_rfl))
   refine tyAt_none rfl ?_
   refine ty_call (f := 140) (args := #[.agg #[.bool s, .slice a n c, .slice b m d]]) (by simp [execOp, go_sem, Act.eval, h3]) ?_
   exact (HD.out w1).mono fun e w2 ⟨h1, h2⟩ => ⟨_, h1, rfl, h2⟩
  ·have h4 : EV _ (fv 4) w1 := hp 4 (LC (by kernel_rfl))
   refine tyAt_none rfl ?_
   refine ty_call (f := 25) (args := #[.agg #[.bool false, .slice b m d]]) (by simp [execOp, go_sem, Act.eval, h4]) ?_
   exact (HE.out w1 (hL.out.at ((hL0.call (below_drew hb1)).bl) kL)).mono fun e w2 ⟨pv, h1, h2, h3⟩ => ⟨pv, h1, h2, h3⟩
  ·refine tyAt_none rfl ?_
   refine ty_call (f := 135) (args := #[.int .i64 1]) (by simp [execOp, go_sem, Act.eval]) ?_
   exact (HO.out w1).mono fun e w2 ⟨pv, h1, h2, h3⟩ => ⟨pv, h1, h2, h3⟩
  ·have h5 : PZ _ (fv 5) w1 := hp 5 (LC (by kernel_rfl))
   have h6 : PZ _ (fv 6) w1 := hp 6 (LC (by kernel_rfl))
   refine tyAt_none rfl ?_
   refine ty_call (f := 29) (args := #[fv 5, fv 6]) (by simp [execOp, go_sem, Act.eval]) ?_
   exact (HA.out (fv 5) (fv 6) w1 h5 h6).mono fun e w2 ⟨pv, h1, h2, h3⟩ => ⟨pv, h1, h2, h3⟩
  ·have h7 : PZ _ (fv 7) w1 := hp 7 (LC (by kernel_rfl))
   refine tyAt_none rfl ?_
   obtain ⟨pg, pd, pe⟩ := rz_form h7
   rw [pe] at h7
   simp [tyUpon, execOp, go_sem, Act.eval, pe, z_field, Below.refl]
   exact rz_rn h7
  ·have h2 : PZ _ (fv 2) w1 := hp 2 (LC (by kernel_rfl))
   have h8 : PN _ (fv 8) w1 := hp 8 (LC (by kernel_rfl))
   refine tyAt_none rfl ?_
   refine ty_call (f := 141) (args := #[fv 2, fv 8]) (by simp [execOp, go_sem, Act.eval]) ?_
   exact (HF.out (fv 2) (fv 8) w1 h2 h8).mono fun e w2 ⟨pv, h1, h2, h3⟩ => ⟨pv, h1, h2, h3⟩
 ·intro fv x2 hb1 hv
  have e0 : fv 0 = _ := hv 0 (by omega)
  have e1 : fv 1 = _ := hv 1 (by omega)
  have q2 : RZ x2 (fv 2) z := hv 2 (by omega)
  obtain ⟨g1, d1, e2⟩ := rz_form q2
  rw [e2] at q2
  have e3 : fv 3 = _ := hv 3 (by omega)
  have e4 : fv 4 = _ := hv 4 (by omega)
  have q5 : RZ x2 (fv 5) y := hv 5 (by omega)
  obtain ⟨g2, d2, e5⟩ := rz_form q5
  rw [e5] at q5
  have q6 : RZ x2 (fv 6) k := hv 6 (by omega)
  obtain ⟨g3, d3, e6⟩ := rz_form q6
  rw [e6] at q6
  have q7 : RZ x2 (fv 7) x := hv 7 (by omega)
  obtain ⟨g4, d4, e7⟩ := rz_form q7
  rw [e7] at q7
  have q8 : Rn x2 (fv 8) x.natAbs := hv 8 (by omega)
  obtain ⟨g5, d5, e8⟩ := rn_form q8
  rw [e8] at q8
  have q9 : RF x2 (fv 9) q := hv 9 (by omega)
  obtain ⟨g6, d6, g7, d7, e9⟩ := rf_form q9
  rw [e9] at q9
  simp only [List.take_succ_cons, List.take_zero, putsV, Act.put, List.setIfInBounds_toArray, List.set_cons_succ, List.set_cons_zero, List.drop_succ_cons, List.drop_zero, Nat.zero_add, Nat.reduceAdd, e0, e1, e2, e3, e4, e5, e6, e7, e8, e9]
  replace hL0 := hL0.call (below_drew hb1)
  replace hS := hS.call (below_drew hb1)
  replace hS := hS.cons (rz_rn q2)
  replace hS := hS.cons (rz_rn q5)
  replace hS := hS.cons (rz_rn q6)
  replace hS := hS.cons (rz_rn q7)
  replace hS := hS.cons q8
  replace hS := hS.cons (rf_rn1 q9)
  replace hS := hS.cons (rf_rn2 q9)
  clear e0 e1 e2 e3 e4 e5 e6 e7 e8 e9 hb1 hv q2 q5 q6 q7 q8 q9 fv
  have hS1 := hS.put ((((Upd.refl (w.heap.size + 1) x2).setCell 0 (.bool (zs q.num))).setCell 1 (.slice g6 (tln q.num.natAbs) d6)).setCell 2 (.slice g7 (tln (fd q)) d7)) (hL0.get _ _ List.mem_cons_self) (by intro v hv n; simp only [List.mem_cons, List.not_mem_nil, or_false] at hv; rcases hv with rfl | rfl | rfl <;> simp)
  have hA := hL0.fc
  simp only [fcG, cellsF, neK, and_true, ne_eq, Nat.zero_add, Nat.reduceAdd] at hA
  have hP := hL0.put 0 (w.heap.size + 1) _ rfl [.bool (zs q.num), .slice g6 (tln q.num.natAbs) d6, .slice g7 (tln (fd q)) d7] rfl
  simp only [setAll, List.set_cons_zero, List.set_cons_succ] at hP
  generalize hput1 : (((x2.setCell ⟨w.heap.size + 1, 0, none⟩ (.bool (zs q.num))).setCell ⟨w.heap.size + 1, 1, none⟩ (.slice g6 (tln q.num.natAbs) d6)).setCell ⟨w.heap.size + 1, 2, none⟩ (.slice g7 (tln (fd q)) d7)) = x3 at hP hS1
  have hB1 := hP.fc
  simp only [fcG, cellsF, neK, and_true, ne_eq, Nat.zero_add, Nat.reduceAdd] at hB1
  replace hL0 := hP
  replace hS := hS1
  clear hS1
  go_wp2_with fail
  exact bodyPost_ret (v := .agg #[.bool (zs q.num), .slice g6 (tln q.num.natAbs) d6, .slice g7 (tln (fd q)) d7]) (by simp [results, Tryz.results56, go_sem, hB1]) rfl ⟨_, rfl, (rf_of (hS.get (List.mem_cons_of_mem _ List.mem_cons_self)) (hS.get List.mem_cons_self)), hL0.bl⟩
set_option maxHeartbeats 4000000 in
set_option maxRecDepth 100000 in
theorem fsame_w (p q : Rat) (t : ByteArray) (K : World → Prop) (hK : Keeps K) (HT : RK K 143 #[fracV p] (.string t)) (HU : ∀ (p0 : Value) (w : World), RF w p0 q → Calls Tryz.prog 144 #[p0] w fun e w' => e = .returned (.string t) ∧ Below w.heap.size w w') (p1 : Value) (w : World) (kK : K w) (r1 : RF w p1 q) :
  Calls Tryz.prog 60 #[fracV p, p1] w fun e w' => e = .returned (.bool true) ∧ Below w.heap.size w w' := by
 obtain ⟨xa1, xc1, xb1, xd1, rfl⟩ := rf_form r1
 have xf1 := Lib.hid (rf_rn1 r1)
 have xk1 := Lib.hid (rf_rn2 r1)
 clear r1
 replace hK := Lib.hid hK
 replace HT := Lib.hid HT
 replace HU := Lib.hid HU
 have hL0 : GL w w [] := GL.start w
 have hS : SS w [] := SS.nil w
 obtain ⟨x1, hweq, hL0, hS⟩ := GL.named2 ((hL0.new rfl [.int .u64 ((zl p.num : Nat) : Int), .string (zh p.num), .bool (zs p.num), .int .u64 ((lo (fe p) : Nat) : Int), .string (hs (fe p))] 79).new (K := w.heap.size + 1) (szA _ _) [.bool (zs q.num), .slice xa1 (tln q.num.natAbs) xc1, .slice xb1 (tln (fd q)) xd1] 82) ((hS.new (.cells #[.int .u64 ((zl p.num : Nat) : Int), .string (zh p.num), .bool (zs p.num), .int .u64 ((lo (fe p) : Nat) : Int), .string (hs (fe p))] 79)).new (.cells #[.bool (zs q.num), .slice xa1 (tln q.num.natAbs) xc1, .slice xb1 (tln (fd q)) xd1] 82))
 go_enter Tryz.func60, Tryz.ntmps60
 go_upto_region 1 with fail
 clear hweq
 refine region_tl 6 [EV (fracV p), EV (.string t), EV (.agg #[.bool (zs q.num), .slice xa1 (tln q.num.natAbs) xc1, .slice xb1 (tln (fd q)) xd1]), EV (.string t), EV (.bool true), EV (.bool true)] (by kernel_rfl) (by kernel_rfl) ?_ ?_ ?_
 ·repeat' first | exact stays_nil | apply stays_cons | exact stays_eq _
 ·simp only [List.take_succ_cons, List.take_zero, hopsR, and_true]
  refine ⟨?_, ?_, ?_, ?_, ?_, ?_⟩ <;> intro fv w1 hb1 hp
  all_goals (have hc := (hL0.call (below_drew hb1)).fc; simp only [fcG, cellsF, neK, and_true, ne_eq, Nat.zero_add, Nat.reduceAdd] at hc; simp only [putsV, Act.put, List.setIfInBounds_toArray, List.set_cons_succ, List.set_cons_zero, Nat.zero_add, Nat.reduceAdd])
  ·refine tyAt_none rfl ?_
   simp [tyUpon, execOp, go_sem, Act.eval, hc, Below.refl]
  ·have h0 : EV _ (fv 0) w1 := hp 0 (LC (by kernel_rfl))
   refine tyAt_none rfl ?_
   refine ty_call (f := 143) (args := #[fracV p]) (by simp [execOp, go_sem, Act.eval, h0]) ?_
   exact (HT.out w1 (hK.out.at ((hL0.call (below_drew hb1)).bl) kK)).mono fun e w2 ⟨h1, h2⟩ => ⟨_, h1, rfl, h2⟩
  ·refine tyAt_none rfl ?_
   simp [tyUpon, execOp, go_sem, Act.eval, hc, Below.refl]
  ·have h2 : EV _ (fv 2) w1 := hp 2 (LC (by kernel_rfl))
   refine tyAt_none rfl ?_
   refine ty_call (f := 144) (args := #[.agg #[.bool (zs q.num), .slice xa1 (tln q.num.natAbs) xc1, .slice xb1 (tln (fd q)) xd1]]) (by simp [execOp, go_sem, Act.eval, h2]) ?_
   exact (HU.out (.agg #[.bool (zs q.num), .slice xa1 (tln q.num.natAbs) xc1, .slice xb1 (tln (fd q)) xd1]) w1 (rf_of (Sl.below (Sl.below xf1.out hL0.bl) (below_drew hb1)) (Sl.below (Sl.below xk1.out hL0.bl) (below_drew hb1)))).mono fun e w2 ⟨h1, h2⟩ => ⟨_, h1, rfl, h2⟩
  ·have h1 : EV _ (fv 1) w1 := hp 1 (LC (by kernel_rfl))
   have h3 : EV _ (fv 3) w1 := hp 3 (LC (by kernel_rfl))
   refine tyAt_none rfl ?_
   simp [tyUpon, execOp, go_sem, Act.eval, h1, h3, Below.refl]
  ·have h4 : EV _ (fv 4) w1 := hp 4 (LC (by kernel_rfl))
   refine tyAt_none rfl ?_
   simp [tyUpon, execOp, go_sem, Act.eval, h4, Below.refl]
 ·intro fv x2 hb1 hv
  have e0 : fv 0 = _ := hv 0 (by omega)
  have e1 : fv 1 = _ := hv 1 (by omega)
  have e2 : fv 2 = _ := hv 2 (by omega)
  have e3 : fv 3 = _ := hv 3 (by omega)
  have e4 : fv 4 = _ := hv 4 (by omega)
  have e5 : fv 5 = _ := hv 5 (by omega)
  simp only [List.take_succ_cons, List.take_zero, putsV, Act.put, List.setIfInBounds_toArray, List.set_cons_succ, List.set_cons_zero, List.drop_succ_cons, List.drop_zero, Nat.zero_add, Nat.reduceAdd, e0, e1, e2, e3, e4, e5]
  replace hL0 := hL0.call (below_drew hb1)
  replace hS := hS.call (below_drew hb1)
  clear e0 e1 e2 e3 e4 e5 hb1 hv fv
  go_wp2_with fail
  exact bodyPost_ret (v := .bool true) (by simp [results, Tryz.results60, go_sem]) rfl ⟨rfl, hL0.bl⟩
end Go.Proofs.YtdmoadfnogdfnaaGreatDoor
namespace Go.Proofs.YtdmoadfnogdfnaaGreatDoor
open Go.RowKit Go.Proofs.YtdmoadfnogdfnaaGreatDoor.Rx
attribute [local irreducible] lo hs sm s64 c64 d64 b64 mh ml pd pc qd qc val hiB str cmpI srD lz nb isq decB zl zh dval txt
theorem rztextI (z : Int) (lz : (Rx.td z.natAbs).length ≤ 1000000) (v : Value) (w : World) (h : RZ w v z) : Calls Tryz.prog 76 #[v] w fun e w' => e = .returned (.string (ztxt z)) ∧ Below w.heap.size w w' := by
 obtain ⟨a, rfl, ha⟩ := h
 unfold ztxt
 by_cases h0 : z < 0
 ·rw [if_pos h0, decide_eq_true h0]; exact rztext_true a _ lz w ha
 ·rw [if_neg h0, decide_eq_false h0]; exact rztext_false a _ lz w ha
theorem txt_size {n k : Nat} (h : (digs n).length ≤ k) (hk : k ≤ 100) : (txt n).size ≤ 2000 := Nat.le_trans (txt_small (k := 100) (by omega) (by omega)) (by omega)
theorem ztxt_size {z : Int} {k : Nat} (h : dI z ≤ k) (hk : k ≤ 100) : (ztxt z).size ≤ 2001 := by
 have := txt_size (n := z.natAbs) h hk
 unfold ztxt
 split
 ·rw [ByteArray.size_append]; have : (ByteArray.mk #[45]).size = 1 := rfl; omega
 ·omega
theorem rtextF (q : Rat) {k : Nat} (hq : Sz q k) (hk : k ≤ 100) (v : Value) (w : World) (h : RF w v q) : Calls Tryz.prog 144 #[v] w fun e w' => e = .returned (.string (qtxt q)) ∧ Below w.heap.size w w' := by
 have a2 := hq.tn; have a4 := hq.tdn
 have hd := q.den_nz
 have hz : tln (fd q) = 0 ↔ q.den = 1 := by unfold tln fd; rw [td_len_zero]; omega
 unfold qtxt
 by_cases h1 : q.den = 1
 ·rw [if_pos h1]
  exact rftext_whole q _ (rztextI q.num (by omega)) (by rw [hz.2 h1]; rfl) (decide_eq_true (hz.2 h1)) v w h
 ·rw [if_neg h1]
  have h2 : ¬ tln (fd q) = 0 := mt hz.1 h1
  have s1 := ztxt_size hq.1 hk
  have s2 := txt_size hq.2 hk
  exact rftext_frac q _ _ q.den (rztextI q.num (by omega)) (rden q hq (by omega)) (fun a w ha => rtext_any a _ (by omega) w ha) (beq_eq_false_iff_ne.2 (by omega)) (decide_eq_false h2) (by omega) (by omega) v w h
theorem zref_any (s : Bool) (a : Option Addr) (n c : Nat) (l : List Nat) (hl : l.length ≤ 1000) (w : World) (h : Ws w (.slice a n c) l) :
  Calls Tryz.prog 25 #[.agg #[.bool s, .slice a n c]] w fun e w' => ∃ v, e = .returned v ∧ RZ w' v (zmade s l) ∧ Below w.heap.size w w' :=
 zref_w s a n c (made l) (zmade s l) _ (Keeps.ws _ l) (fun w h => rofw_any _ l hl w h) (rz_from s (made l) (zmade s l) (by rw [Bool.eq_iff_iff]; unfold zmade; cases s <;> simp <;> omega) (by unfold zmade; split <;> simp)) w h
theorem gref_any (s : Bool) (a b : Option Addr) (n c m d : Nat) (l k : List Nat) (hl : l.length ≤ 300) (hk : k.length ≤ 300) (w : World) (h1 : Ws w (.slice a n c) l) (h2 : Ws w (.slice b m d) k) :
  Calls Tryz.prog 56 #[.agg #[.bool s, .slice a n c, .slice b m d]] w fun e w' => ∃ v, e = .returned v ∧ RF w' v (gmade s l k) ∧ Below w.heap.size w w' := by
 have t1 := td_made h1.lt
 have t2 := td_made h2.lt
 have e1 : (zmade s l).natAbs = made l := by unfold zmade; split <;> simp
 have e2 : (zmade false k).natAbs = made k := by unfold zmade; simp
 have e3 : (zmade false k + 1).natAbs = made k + 1 := by unfold zmade; simp; omega
 have t3 : (Rx.td (made k + 1)).length ≤ 901 := Nat.le_trans (td_add_le (k := 900) (by omega) (Nat.le_trans td_one (by omega))) (by omega)
 unfold gmade
 refine gref_w s a b n c m d (zmade s l) (zmade false k) 1 (zmade false k + 1) _ _ (Keeps.ws _ l) (fun w h => zref_any s a n c l (by omega) w h) (fun w => gden_w s a b n c m d w) _ (Keeps.ws _ k) (fun w h => zref_any false b m d k (by omega) w h) rzof_one (fun v1 v2 w g1 g2 => rzaddI v1 v2 _ _ (by rw [e2]; omega) (Nat.le_trans td_one (by omega)) w g1 g2) ?_ w h1 h2
 rw [e3]
 exact rfrom (zmade s l) (made k + 1) (by omega) (by rw [e1]; omega) (by omega)
theorem sameF (q : Rat) {k : Nat} (hq : Sz q k) (hk : k ≤ 100) (v : Value) (w : World) (htab : Tab w) (h : RF w v q) :
  Calls Tryz.prog 60 #[fracV q, v] w fun e w' => e = .returned (.bool true) ∧ Below w.heap.size w w' :=
 fsame_w q q (qtxt q) Tab Keeps.tab (fun w ht => textF q k hq (by omega) w ht) (rtextF q hq hk) v w htab h
end Go.Proofs.YtdmoadfnogdfnaaGreatDoor
namespace Go.Proofs.YtdmoadfnogdfnaaGreatDoor
open Go.ChangeShapes Go.WideShapes Go.ChangeAt Go.RowKit
theorem laidOut : laidOutB Tryz.prog = true := by kernel_rfl
theorem cells62 : Tryz.prog.cellsOf 22 = 1 := by kernel_rfl
theorem wide_u32 {n : Int} (h : (Lit.int .u32 n).wf = true) : 0 ≤ n ∧ n ≤ 4294967295 := bounds_u32 h
end Go.Proofs.YtdmoadfnogdfnaaGreatDoor
namespace Go.Proofs.YtdmoadfnogdfnaaGreatDoor
open Go.ChangeShapes Go.WideShapes Go.ChangeAt Go.RowKit Go.Joins
theorem cellsZ : Tryz.prog.cellsOf 36 = 2 := by kernel_rfl
theorem ws_of_trod {H : Type} {enc : TypeId × Value → H} {W : World} {v : Value} {y : DataW H × List MemPlace} {fuel : Nat} (hf : DataW.trod enc Tryz.prog W 0 (fun _ => true) true fuel 23 [v] = some y) : ∃ a n c l, v = .slice a n c ∧ Ws W v l := by
 rcases open_ints Tryz.underlying23 Tryz.underlying22 cells62 hf with ⟨hcs, hx⟩ | ⟨a, len', cap', zs, hcs, _, hl, hm, hz, hx, hcell, hwz⟩
 ·simp only [List.cons.injEq, and_true] at hcs
  subst hcs
  exact ⟨none, 0, 0, [], rfl, .inl ⟨_, _, rfl, rfl⟩⟩
 ·simp only [List.cons.injEq, and_true] at hcs
  subst hcs
  simp only [if_true] at hz
  refine ⟨some a, len', cap', ?_⟩
  by_cases h0 : len' = 0
  ·subst h0
   exact ⟨[], rfl, .inl ⟨_, _, rfl, rfl⟩⟩
  ·have hll : ((zs.take len').map Int.toNat).length = len' := by simp; omega
   refine ⟨(zs.take len').map Int.toNat, rfl, .inr ⟨a, cap', by rw [hll], ?_, ?_, ?_⟩⟩
   ·intro x hx
    obtain ⟨z, hz1, rfl⟩ := List.mem_map.1 hx
    have := wide_u32 (hwz z (List.mem_of_mem_take hz1))
    omega
   ·intro i hi
    rw [hll] at hi
    have hi2 : i < zs.length := by omega
    have e := hcell i hi2
    rw [show zs.getD i 0 = zs[i] by simp [List.getD, hi2]] at e
    have hw := wide_u32 (hwz zs[i] (List.getElem_mem hi2))
    rw [e]
    simp only [List.getElem_map, List.getElem_take]
    rw [Int.toNat_of_nonneg hw.1]
   ·have e := hcell 0 (by omega)
    have := World.block_lt_of_cell? W _ e
    rw [show (a.add 0).block = a.block from by unfold Addr.add; split <;> rfl] at this
    exact this
end Go.Proofs.YtdmoadfnogdfnaaGreatDoor
namespace Go.Proofs.YtdmoadfnogdfnaaGreatDoor
open Go.RowKit
attribute [local irreducible] lo hs sm s64 c64 d64 b64 mh ml pd pc qd qc val hiB str cmpI srD lz nb isq decB zl zh zs
theorem ne_fr {p q : Rat} (h : p ≠ q) : (((zl p.num : Nat) : Int) == ((zl q.num : Nat) : Int)) = false ∨
  ((((zl p.num : Nat) : Int) == ((zl q.num : Nat) : Int)) = true ∧ ((zh p.num).toList == (zh q.num).toList) = false) ∨
  ((((zl p.num : Nat) : Int) == ((zl q.num : Nat) : Int)) = true ∧ ((zh p.num).toList == (zh q.num).toList) = true ∧ (zs p.num == zs q.num) = false) ∨
  ((((zl p.num : Nat) : Int) == ((zl q.num : Nat) : Int)) = true ∧ ((zh p.num).toList == (zh q.num).toList) = true ∧ (zs p.num == zs q.num) = true ∧ (((lo (fe p) : Nat) : Int) == ((lo (fe q) : Nat) : Int)) = false) ∨
  ((((zl p.num : Nat) : Int) == ((zl q.num : Nat) : Int)) = true ∧ ((zh p.num).toList == (zh q.num).toList) = true ∧ (zs p.num == zs q.num) = true ∧ (((lo (fe p) : Nat) : Int) == ((lo (fe q) : Nat) : Int)) = true ∧ ((hs (fe p)).toList == (hs (fe q)).toList) = false) := by
 by_cases hn : p.num = q.num
 ·have he : fe p ≠ fe q := fun e => h (fracV_inj (by unfold fracV; rw [hn, e]))
  rw [hn]
  rcases ne_nat he with h1 | ⟨h1, h2⟩
  ·exact .inr (.inr (.inr (.inl ⟨by simp, by simp, by simp, h1⟩)))
  ·exact .inr (.inr (.inr (.inr ⟨by simp, by simp, by simp, h1, h2⟩)))
 ·rcases ne_int hn with h1 | h1 | h1
  ·exact .inl h1
  ·exact .inr (.inl h1)
  ·exact .inr (.inr (.inl h1))
/-- What == sees of two fractions, as they are the same or not. -/
theorem same_fr {p q : Rat} {y : Bool} (hy : y = decide (p = q)) : (((((zl p.num : Nat) : Int) == ((zl q.num : Nat) : Int)) = true ∧ ((zh p.num).toList == (zh q.num).toList) = true ∧ (zs p.num == zs q.num) = true ∧ (((lo (fe p) : Nat) : Int) == ((lo (fe q) : Nat) : Int)) = true ∧ ((hs (fe p)).toList == (hs (fe q)).toList) = true) ∧ y = true) ∨
  (((((zl p.num : Nat) : Int) == ((zl q.num : Nat) : Int)) = false) ∧ y = false) ∨
  (((((zl p.num : Nat) : Int) == ((zl q.num : Nat) : Int)) = true ∧ ((zh p.num).toList == (zh q.num).toList) = false) ∧ y = false) ∨
  (((((zl p.num : Nat) : Int) == ((zl q.num : Nat) : Int)) = true ∧ ((zh p.num).toList == (zh q.num).toList) = true ∧ (zs p.num == zs q.num) = false) ∧ y = false) ∨
  (((((zl p.num : Nat) : Int) == ((zl q.num : Nat) : Int)) = true ∧ ((zh p.num).toList == (zh q.num).toList) = true ∧ (zs p.num == zs q.num) = true ∧ (((lo (fe p) : Nat) : Int) == ((lo (fe q) : Nat) : Int)) = false) ∧ y = false) ∨
  (((((zl p.num : Nat) : Int) == ((zl q.num : Nat) : Int)) = true ∧ ((zh p.num).toList == (zh q.num).toList) = true ∧ (zs p.num == zs q.num) = true ∧ (((lo (fe p) : Nat) : Int) == ((lo (fe q) : Nat) : Int)) = true ∧ ((hs (fe p)).toList == (hs (fe q)).toList) = false) ∧ y = false) := by
 subst hy
 by_cases h : p = q
 ·subst h
  exact .inl ⟨⟨by simp, by simp, by simp, by simp, by simp⟩, decide_eq_true rfl⟩
 ·have hd := decide_eq_false h
  rcases ne_fr h with h1 | h1 | h1 | h1 | h1
  ·exact .inr (.inl ⟨h1, hd⟩)
  ·exact .inr (.inr (.inl ⟨h1, hd⟩))
  ·exact .inr (.inr (.inr (.inl ⟨h1, hd⟩)))
  ·exact .inr (.inr (.inr (.inr (.inl ⟨h1, hd⟩))))
  ·exact .inr (.inr (.inr (.inr (.inr ⟨h1, hd⟩))))
end Go.Proofs.YtdmoadfnogdfnaaGreatDoor
namespace Go.Proofs.YtdmoadfnogdfnaaGreatDoor
open Go.ChangeShapes Go.WideShapes Go.ChangeAt Go.RowKit Go.Joins
theorem cellsG : Tryz.prog.cellsOf 76 = 3 := by kernel_rfl
theorem cellsW : Tryz.prog.cellsOf 23 = 1 := by kernel_rfl
theorem cellsB : Tryz.prog.cellsOf 4 = 1 := by kernel_rfl
set_option maxRecDepth 100000 in
theorem great_of {H : Type} {enc : TypeId × Value → H} {W : World} {base : Nat} {v : Value} {d : DataW H} {p : List MemPlace} (hv : Value.okWide Tryz.prog W .any base 76 v)
  (h : DataW.Trod enc Tryz.prog W 0 (fun _ => true) true 76 v d p) : ∃ s a q n c m d l k, v = .agg #[.bool s, .slice a n c, .slice q m d] ∧ Ws W (.slice a n c) l ∧ Ws W (.slice q m d) k := by
 obtain ⟨cs, rfl, hsz⟩ := okWide_struct Tryz.underlying76 hv
 obtain ⟨c0, c1, c2, rfl⟩ := array3 (hsz.trans cellsG)
 obtain ⟨fuel, hf⟩ := h
 obtain ⟨y0, y1, n, hx, _, h0, h1⟩ := trod_struct2 Tryz.underlying76 hf
 simp only [cellsZ, cellsW] at h0 h1
 obtain ⟨z0, z1, m, hz, _, g0, g1⟩ := trod_struct2 Tryz.underlying36 h0
 simp only [cellsB, cellsW] at g0 g1
 obtain ⟨s, e0, -⟩ := DataW.trod_bool Tryz.underlying4 g0
 obtain ⟨a1, n1, k1, l1, r1, w1⟩ := ws_of_trod g1
 obtain ⟨a2, n2, k2, l2, r2, w2⟩ := ws_of_trod h1
 simp [Value.cells] at e0 r1 r2
 subst e0 r1 r2
 exact ⟨s, a1, a2, n1, k1, n2, k2, l1, l2, rfl, w1, w2⟩
end Go.Proofs.YtdmoadfnogdfnaaGreatDoor
namespace Go.Proofs.YtdmoadfnogdfnaaGreatDoor
open Go.RowKit Go.Proofs.YtdmoadfnogdfnaaGreatDoor.Rx
attribute [local irreducible] lo hs sm s64 c64 d64 b64 mh ml pd pc qd qc val hiB str cmpI srD lz nb isq decB zl zh zs dval tln ztxt txt fd fe
set_option maxHeartbeats 4000000 in
set_option maxRecDepth 100000 in
theorem fsums_big (sx sy : Bool) (ax qx ay qy : Option Addr) (nx cx mx dx ny cy my dy : Nat) (KT : World → Prop) (hKT : Keeps KT) (HW : RK KT 54 #[] (.bool true)) (hfew : decide (nx ≤ 8 ∧ mx ≤ 8 ∧ ny ≤ 8 ∧ my ≤ 8) = false) (w : World) (kKT : KT w) :
  Calls Tryz.prog 7 #[.agg #[.bool sx, .slice ax nx cx, .slice qx mx dx], .agg #[.bool sy, .slice ay ny cy, .slice qy my dy]] w fun e w' => e = .returned (.bool true) ∧ Below w.heap.size w w' := by
 replace hKT := Lib.hid hKT
 replace HW := Lib.hid HW
 have hL0 : GL w w [] := GL.start w
 have hS : SS w [] := SS.nil w
 obtain ⟨x1, hweq, hL0, hS⟩ := GL.named2 (((hL0.new rfl [.bool sx, .slice ax nx cx, .slice qx mx dx] 76).new (K := w.heap.size + 1) (szA _ _) [.bool sy, .slice ay ny cy, .slice qy my dy] 76).new (K := w.heap.size + 1 + 1) (by simp only [World.size_alloc]) [.bool sx, .slice ax nx cx, .slice qx mx dx, .bool sy, .slice ay ny cy, .slice qy my dy] 76) (((hS.new (.cells #[.bool sx, .slice ax nx cx, .slice qx mx dx] 76)).new (.cells #[.bool sy, .slice ay ny cy, .slice qy my dy] 76)).new (.cells #[.bool sx, .slice ax nx cx, .slice qx mx dx, .bool sy, .slice ay ny cy, .slice qy my dy] 76))
 go_enter Tryz.func7, Tryz.ntmps7
 have hN0 := cells_of _ 0 [] rfl (hL0.get _ _ (List.mem_cons_of_mem _ List.mem_cons_self))
 simp only [cellsF, and_true, Nat.zero_add, Nat.reduceAdd] at hN0
 have hN1 := cells_of _ 0 [] rfl (hL0.get _ _ (List.mem_cons_of_mem _ (List.mem_cons_of_mem _ List.mem_cons_self)))
 simp only [cellsF, and_true, Nat.zero_add, Nat.reduceAdd] at hN1
 have HFw := gfew2 8 8 rfl (by omega) (hL0.get _ _ List.mem_cons_self)
 rw [hfew] at HFw
 replace HFw := Lib.hid HFw
 go_wp2_with fail
 with_reducible refine Calls.mono (HFw.out) ?_
 rintro e x2 ⟨rfl, rfl⟩
 clear HFw
 clear hN0 hN1
 go_wp2_with fail
 with_reducible refine Calls.mono (HW.out _ (hKT.out.at (hL0.bl) kKT)) ?_
 rintro e x3 ⟨rfl, hb⟩
 replace hL0 := hL0.call hb
 replace hS := hS.call hb
 clear hb hweq
 go_wp2_with fail
 exact bodyPost_ret (v := .bool true) (by simp [results, Tryz.results7, go_sem]) rfl ⟨rfl, hL0.bl⟩
set_option maxHeartbeats 4000000 in
set_option maxRecDepth 100000 in
theorem fsums_w (sx sy : Bool) (ax qx ay qy : Option Addr) (nx cx mx dx ny cy my dy : Nat) (a b r d m q n p : Rat) (i k j ec f : Int) (t : ByteArray) (z : Bool) (y : Bool) (Kx : World → Prop) (hKx : Keeps Kx) (GX : RK Kx 55 #[.agg #[.bool sx, .slice ax nx cx, .slice qx mx dx]] (fracV a)) (Ky : World → Prop) (hKy : Keeps Ky) (GY : RK Ky 55 #[.agg #[.bool sy, .slice ay ny cy, .slice qy my dy]] (fracV b)) (RX : ∀ (w : World), Kx w → Calls Tryz.prog 56 #[.agg #[.bool sx, .slice ax nx cx, .slice qx mx dx]] w fun e w' => ∃ pv, e = .returned pv ∧ RF w' pv a ∧ Below w.heap.size w w') (RY : ∀ (w : World), Ky w → Calls Tryz.prog 56 #[.agg #[.bool sy, .slice ay ny cy, .slice qy my dy]] w fun e w' => ∃ pv, e = .returned pv ∧ RF w' pv b ∧ Below w.heap.size w w') (HC : ∀ (p0 p1 : Value) (w : World), RF w p0 a → RF w p1 b → Calls Tryz.prog 57 #[p0, p1] w fun e w' => e = .returned (.int .i64 i) ∧ Below w.heap.size w w') (HD : RT 58 #[fracV a, fracV b] (.tuple #[fracV q, .int .i64 ec])) (HSS : ∀ (p0 : Value) (w : World), RF w p0 b → Calls Tryz.prog 59 #[p0] w fun e w' => e = .returned (.int .i64 k) ∧ Below w.heap.size w w') (KT : World → Prop) (hKT : Keeps KT) (H0 : ∀ (p1 : Value) (w : World), KT w → RF w p1 a → Calls Tryz.prog 60 #[fracV a, p1] w fun e w' => e = .returned (.bool true) ∧ Below w.heap.size w w') (HA : RT 61 #[fracV a, fracV b] (fracV r)) (HA2 : ∀ (p0 p1 : Value) (w : World), RF w p0 a → RF w p1 b → Calls Tryz.prog 62 #[p0, p1] w fun e w' => ∃ pv, e = .returned pv ∧ RF w' pv r ∧ Below w.heap.size w w') (H1 : ∀ (p1 : Value) (w : World), KT w → RF w p1 r → Calls Tryz.prog 60 #[fracV r, p1] w fun e w' => e = .returned (.bool true) ∧ Below w.heap.size w w') (HB : RT 63 #[fracV a, fracV b] (fracV d)) (HB2 : ∀ (p0 p1 : Value) (w : World), RF w p0 a → RF w p1 b → Calls Tryz.prog 64 #[p0, p1] w fun e w' => ∃ pv, e = .returned pv ∧ RF w' pv d ∧ Below w.heap.size w w') (H2 : ∀ (p1 : Value) (w : World), KT w → RF w p1 d → Calls Tryz.prog 60 #[fracV d, p1] w fun e w' => e = .returned (.bool true) ∧ Below w.heap.size w w') (HM : RT 65 #[fracV a, fracV b] (fracV m)) (HM2 : ∀ (p0 p1 : Value) (w : World), RF w p0 a → RF w p1 b → Calls Tryz.prog 66 #[p0, p1] w fun e w' => ∃ pv, e = .returned pv ∧ RF w' pv m ∧ Below w.heap.size w w') (H3 : ∀ (p1 : Value) (w : World), KT w → RF w p1 m → Calls Tryz.prog 60 #[fracV m, p1] w fun e w' => e = .returned (.bool true) ∧ Below w.heap.size w w') (HD2 : ∀ (p0 p1 : Value) (w : World), RF w p0 a → RF w p1 b → Calls Tryz.prog 67 #[p0, p1] w fun e w' => ∃ pv, e = .returned pv ∧ RF w' pv q ∧ Below w.heap.size w w') (H4 : ∀ (p1 : Value) (w : World), KT w → RF w p1 q → Calls Tryz.prog 60 #[fracV q, p1] w fun e w' => e = .returned (.bool true) ∧ Below w.heap.size w w') (HN : RT 68 #[fracV a] (fracV n)) (HN2 : ∀ (p0 : Value) (w : World), RF w p0 a → Calls Tryz.prog 69 #[p0] w fun e w' => ∃ pv, e = .returned pv ∧ RF w' pv n ∧ Below w.heap.size w w') (H5 : ∀ (p1 : Value) (w : World), KT w → RF w p1 n → Calls Tryz.prog 60 #[fracV n, p1] w fun e w' => e = .returned (.bool true) ∧ Below w.heap.size w w') (HP : RT 70 #[fracV a] (fracV p)) (HP2 : ∀ (p0 : Value) (w : World), RF w p0 a → Calls Tryz.prog 71 #[p0] w fun e w' => ∃ pv, e = .returned pv ∧ RF w' pv p ∧ Below w.heap.size w w') (H6 : ∀ (p1 : Value) (w : World), KT w → RF w p1 p → Calls Tryz.prog 60 #[fracV p, p1] w fun e w' => e = .returned (.bool true) ∧ Below w.heap.size w w') (HS : RT 72 #[fracV a] (.int .i64 j)) (HS2 : ∀ (p0 : Value) (w : World), RF w p0 a → Calls Tryz.prog 59 #[p0] w fun e w' => e = .returned (.int .i64 j) ∧ Below w.heap.size w w') (HC2 : RT 73 #[fracV a, fracV b] (.int .i64 i)) (HF : RT 75 #[fracV a] (intV f)) (HT : RK KT 74 #[intV f] (.string t)) (HF2 : ∀ (p0 : Value) (w : World), RF w p0 a → Calls Tryz.prog 77 #[p0] w fun e w' => ∃ pv, e = .returned pv ∧ RZ w' pv f ∧ Below w.heap.size w w') (HT2 : ∀ (p0 : Value) (w : World), RZ w p0 f → Calls Tryz.prog 76 #[p0] w fun e w' => e = .returned (.string t) ∧ Below w.heap.size w w') (HW : RK KT 54 #[] (.bool true)) (hfew : decide (nx ≤ 8 ∧ mx ≤ 8 ∧ ny ≤ 8 ∧ my ≤ 8) = true) (hzk : (k == 0) = z) (he5 : (ec == 5) = z) (he0 : (ec == 0) = !z) (hy : y = decide (a = b)) (hi : (i == 0) = y) (w : World) (kKx : Kx w) (kKy : Ky w) (kKT : KT w) :
  Calls Tryz.prog 7 #[.agg #[.bool sx, .slice ax nx cx, .slice qx mx dx], .agg #[.bool sy, .slice ay ny cy, .slice qy my dy]] w fun e w' => e = .returned (.bool true) ∧ Below w.heap.size w w' := by
 replace hKx := Lib.hid hKx
 replace GX := Lib.hid GX
 replace hKy := Lib.hid hKy
 replace GY := Lib.hid GY
 replace RX := Lib.hid RX
 replace RY := Lib.hid RY
 replace HC := Lib.hid HC
 replace HD := Lib.hid HD
 replace HSS := Lib.hid HSS
 replace hKT := Lib.hid hKT
 replace H0 := Lib.hid H0
 replace HA := Lib.hid HA
 replace HA2 := Lib.hid HA2
 replace H1 := Lib.hid H1
 replace HB := Lib.hid HB
 replace HB2 := Lib.hid HB2
 replace H2 := Lib.hid H2
 replace HM := Lib.hid HM
 replace HM2 := Lib.hid HM2
 replace H3 := Lib.hid H3
 replace HD2 := Lib.hid HD2
 replace H4 := Lib.hid H4
 replace HN := Lib.hid HN
 replace HN2 := Lib.hid HN2
 replace H5 := Lib.hid H5
 replace HP := Lib.hid HP
 replace HP2 := Lib.hid HP2
 replace H6 := Lib.hid H6
 replace HS := Lib.hid HS
 replace HS2 := Lib.hid HS2
 replace HC2 := Lib.hid HC2
 replace HF := Lib.hid HF
 replace HT := Lib.hid HT
 replace HF2 := Lib.hid HF2
 replace HT2 := Lib.hid HT2
 replace HW := Lib.hid HW
 have hL0 : GL w w [] := GL.start w
 have hS : SS w [] := SS.nil w
 replace hy := Lib.hid hy
 obtain ⟨x1, hweq, hL0, hS⟩ := GL.named2 (((hL0.new rfl [.bool sx, .slice ax nx cx, .slice qx mx dx] 76).new (K := w.heap.size + 1) (szA _ _) [.bool sy, .slice ay ny cy, .slice qy my dy] 76).new (K := w.heap.size + 1 + 1) (by simp only [World.size_alloc]) [.bool sx, .slice ax nx cx, .slice qx mx dx, .bool sy, .slice ay ny cy, .slice qy my dy] 76) (((hS.new (.cells #[.bool sx, .slice ax nx cx, .slice qx mx dx] 76)).new (.cells #[.bool sy, .slice ay ny cy, .slice qy my dy] 76)).new (.cells #[.bool sx, .slice ax nx cx, .slice qx mx dx, .bool sy, .slice ay ny cy, .slice qy my dy] 76))
 go_enter Tryz.func7, Tryz.ntmps7
 have hN0 := cells_of _ 0 [] rfl (hL0.get _ _ (List.mem_cons_of_mem _ List.mem_cons_self))
 simp only [cellsF, and_true, Nat.zero_add, Nat.reduceAdd] at hN0
 have hN1 := cells_of _ 0 [] rfl (hL0.get _ _ (List.mem_cons_of_mem _ (List.mem_cons_of_mem _ List.mem_cons_self)))
 simp only [cellsF, and_true, Nat.zero_add, Nat.reduceAdd] at hN1
 have HFw := gfew2 8 8 rfl (by omega) (hL0.get _ _ List.mem_cons_self)
 rw [hfew] at HFw
 replace HFw := Lib.hid HFw
 go_wp2_with fail
 with_reducible refine Calls.mono (HFw.out) ?_
 rintro e x2 ⟨rfl, rfl⟩
 clear HFw
 clear hN0 hN1
 go_upto_region 3 with fail
 clear hweq
 refine region_tal 12 [EV (.agg #[.bool sx, .slice ax nx cx, .slice qx mx dx]), EV (fracV a), EV (.agg #[.bool sy, .slice ay ny cy, .slice qy my dy]), EV (fracV b), EV (.agg #[.bool sx, .slice ax nx cx, .slice qx mx dx]), PF a, EV (.agg #[.bool sy, .slice ay ny cy, .slice qy my dy]), PF b, NewB x2.heap.size [.int .u64 0, .string ⟨#[]⟩, .bool false, .int .u64 0, .string ⟨#[]⟩], NewB x2.heap.size [.int .u64 0, .string ⟨#[]⟩, .bool false, .int .u64 0, .string ⟨#[]⟩], NewB x2.heap.size [.bool false, .slice none 0 0, .slice none 0 0], NewB x2.heap.size [.bool false, .slice none 0 0, .slice none 0 0]] [8, 9, 10, 11] (by kernel_rfl) (by kernel_rfl) ?_ ?_ ?_ ?_ ?_
 ·repeat' first | exact stays_nil | apply stays_cons | exact stays_eq _ | exact stays_rf _ | exact stays_new _ _
 ·simp only [List.take_succ_cons, List.take_zero, hopsR, and_true]
  refine ⟨?_, ?_, ?_, ?_, ?_, ?_, ?_, ?_, ?_, ?_, ?_, ?_⟩ <;> intro fv w1 hb1 hp
  all_goals (have hc := (hL0.call (below_drew hb1)).fc; simp only [fcG, cellsF, neK, and_true, ne_eq, Nat.zero_add, Nat.reduceAdd] at hc; simp only [putsV, Act.put, List.setIfInBounds_toArray, List.set_cons_succ, List.set_cons_zero, Nat.zero_add, Nat.reduceAdd])
  ·refine tyAt_none rfl ?_
   simp [tyUpon, execOp, go_sem, Act.eval, hc, hzk, he5, he0, hi, Below.refl]
  ·have h0 : EV _ (fv 0) w1 := hp 0 (LC (by kernel_rfl))
   refine tyAt_none rfl ?_
   refine ty_call (f := 55) (args := #[.agg #[.bool sx, .slice ax nx cx, .slice qx mx dx]]) (by simp [execOp, go_sem, Act.eval, h0]) ?_
   exact (GX.out w1 (hKx.out.at ((hL0.call (below_drew hb1)).bl) kKx)).mono fun e w2 ⟨h1, h2⟩ => ⟨_, h1, rfl, h2⟩
  ·refine tyAt_none rfl ?_
   simp [tyUpon, execOp, go_sem, Act.eval, hc, hzk, he5, he0, hi, Below.refl]
  ·have h2 : EV _ (fv 2) w1 := hp 2 (LC (by kernel_rfl))
   refine tyAt_none rfl ?_
   refine ty_call (f := 55) (args := #[.agg #[.bool sy, .slice ay ny cy, .slice qy my dy]]) (by simp [execOp, go_sem, Act.eval, h2]) ?_
   exact (GY.out w1 (hKy.out.at ((hL0.call (below_drew hb1)).bl) kKy)).mono fun e w2 ⟨h1, h2⟩ => ⟨_, h1, rfl, h2⟩
  ·refine tyAt_none rfl ?_
   simp [tyUpon, execOp, go_sem, Act.eval, hc, hzk, he5, he0, hi, Below.refl]
  ·have h4 : EV _ (fv 4) w1 := hp 4 (LC (by kernel_rfl))
   refine tyAt_none rfl ?_
   refine ty_call (f := 56) (args := #[.agg #[.bool sx, .slice ax nx cx, .slice qx mx dx]]) (by simp [execOp, go_sem, Act.eval, h4]) ?_
   exact (RX.out w1 (hKx.out.at ((hL0.call (below_drew hb1)).bl) kKx)).mono fun e w2 ⟨pv, h1, h2, h3⟩ => ⟨pv, h1, h2, h3⟩
  ·refine tyAt_none rfl ?_
   simp [tyUpon, execOp, go_sem, Act.eval, hc, hzk, he5, he0, hi, Below.refl]
  ·have h6 : EV _ (fv 6) w1 := hp 6 (LC (by kernel_rfl))
   refine tyAt_none rfl ?_
   refine ty_call (f := 56) (args := #[.agg #[.bool sy, .slice ay ny cy, .slice qy my dy]]) (by simp [execOp, go_sem, Act.eval, h6]) ?_
   exact (RY.out w1 (hKy.out.at ((hL0.call (below_drew hb1)).bl) kKy)).mono fun e w2 ⟨pv, h1, h2, h3⟩ => ⟨pv, h1, h2, h3⟩
  ·exact tyAt_new rfl rfl new_frac (below_drew hb1).size
  ·exact tyAt_new rfl rfl new_frac (below_drew hb1).size
  ·exact tyAt_new rfl rfl new_rf (below_drew hb1).size
  ·exact tyAt_new rfl rfl new_rf (below_drew hb1).size
 ·intro j hj u w2 hT
  simp only [List.contains_iff_mem, List.mem_cons, List.not_mem_nil, or_false] at hj
  rcases hj with rfl | rfl | rfl | rfl <;> exact NewB.ptr hT
 ·exact ⟨⟨_, _, _, _, rfl, rfl, rfl, new_frac⟩, ⟨_, _, _, _, rfl, rfl, rfl, new_frac⟩, ⟨_, _, _, _, rfl, rfl, rfl, new_rf⟩, ⟨_, _, _, _, rfl, rfl, rfl, new_rf⟩, trivial⟩
 ·intro fv x3 hb1 hv hne
  have e0 : fv 0 = _ := hv 0 (by omega)
  have e1 : fv 1 = _ := hv 1 (by omega)
  have e2 : fv 2 = _ := hv 2 (by omega)
  have e3 : fv 3 = _ := hv 3 (by omega)
  have e4 : fv 4 = _ := hv 4 (by omega)
  have q5 : RF x3 (fv 5) a := hv 5 (by omega)
  obtain ⟨g1, d1, g2, d2, e5⟩ := rf_form q5
  rw [e5] at q5
  have e6 : fv 6 = _ := hv 6 (by omega)
  have q7 : RF x3 (fv 7) b := hv 7 (by omega)
  obtain ⟨g3, d3, g4, d4, e7⟩ := rf_form q7
  rw [e7] at q7
  obtain ⟨kb8, e8, n8, m8⟩ : NewB x2.heap.size [.int .u64 0, .string ⟨#[]⟩, .bool false, .int .u64 0, .string ⟨#[]⟩] (fv 8) x3 := hv 8 (by omega)
  obtain ⟨kb9, e9, n9, m9⟩ : NewB x2.heap.size [.int .u64 0, .string ⟨#[]⟩, .bool false, .int .u64 0, .string ⟨#[]⟩] (fv 9) x3 := hv 9 (by omega)
  obtain ⟨kb10, e10, n10, m10⟩ : NewB x2.heap.size [.bool false, .slice none 0 0, .slice none 0 0] (fv 10) x3 := hv 10 (by omega)
  obtain ⟨kb11, e11, n11, m11⟩ : NewB x2.heap.size [.bool false, .slice none 0 0, .slice none 0 0] (fv 11) x3 := hv 11 (by omega)
  simp only [List.take_succ_cons, List.take_zero, putsV, Act.put, List.setIfInBounds_toArray, List.set_cons_succ, List.set_cons_zero, List.drop_succ_cons, List.drop_zero, Nat.zero_add, Nat.reduceAdd, e0, e1, e2, e3, e4, e5, e6, e7, e8, e9, e10, e11]
  have hx0 := hL0
  replace hL0 := hL0.call (below_drew hb1)
  replace hS := hS.call (below_drew hb1)
  replace hL0 := GL.tnew (M := []) hL0 hx0 n8 m8 (fun p hp => by cases hp)
  replace hL0 := GL.tnew (M := [(kb8, [.int .u64 0, .string ⟨#[]⟩, .bool false, .int .u64 0, .string ⟨#[]⟩])]) hL0 hx0 n9 m9 (by intro p hp; simp only [List.mem_cons, List.not_mem_nil, or_false] at hp; rcases hp with rfl; exact ptr_ne e8 e9 (hne 8 9 (by omega) (by omega) (by omega) rfl rfl))
  replace hL0 := GL.tnew (M := [(kb9, [.int .u64 0, .string ⟨#[]⟩, .bool false, .int .u64 0, .string ⟨#[]⟩]), (kb8, [.int .u64 0, .string ⟨#[]⟩, .bool false, .int .u64 0, .string ⟨#[]⟩])]) hL0 hx0 n10 m10 (by intro p hp; simp only [List.mem_cons, List.not_mem_nil, or_false] at hp; rcases hp with rfl | rfl; exact ptr_ne e9 e10 (hne 9 10 (by omega) (by omega) (by omega) rfl rfl); exact ptr_ne e8 e10 (hne 8 10 (by omega) (by omega) (by omega) rfl rfl))
  replace hL0 := GL.tnew (M := [(kb10, [.bool false, .slice none 0 0, .slice none 0 0]), (kb9, [.int .u64 0, .string ⟨#[]⟩, .bool false, .int .u64 0, .string ⟨#[]⟩]), (kb8, [.int .u64 0, .string ⟨#[]⟩, .bool false, .int .u64 0, .string ⟨#[]⟩])]) hL0 hx0 n11 m11 (by intro p hp; simp only [List.mem_cons, List.not_mem_nil, or_false] at hp; rcases hp with rfl | rfl | rfl; exact ptr_ne e10 e11 (hne 10 11 (by omega) (by omega) (by omega) rfl rfl); exact ptr_ne e9 e11 (hne 9 11 (by omega) (by omega) (by omega) rfl rfl); exact ptr_ne e8 e11 (hne 8 11 (by omega) (by omega) (by omega) rfl rfl))
  simp only [List.cons_append, List.nil_append] at hL0
  replace hS := hS.cons (rf_rn1 q5)
  replace hS := hS.cons (rf_rn2 q5)
  replace hS := hS.cons (rf_rn1 q7)
  replace hS := hS.cons (rf_rn2 q7)
  clear e0 e1 e2 e3 e4 e5 e6 e7 e8 e9 e10 e11 hb1 hv hne hx0 n8 m8 n9 m9 n10 m10 n11 m11 q5 q7 fv
  have hS1 := hS.put ((((((Upd.refl kb8 x3).setCell 0 (.int .u64 ((zl a.num : Nat) : Int))).setCell 1 (.string (zh a.num))).setCell 2 (.bool (zs a.num))).setCell 3 (.int .u64 ((lo (fe a) : Nat) : Int))).setCell 4 (.string (hs (fe a)))) (hL0.get _ _ (List.mem_cons_of_mem _ (List.mem_cons_of_mem _ (List.mem_cons_of_mem _ List.mem_cons_self)))) (by intro v hv n; simp only [List.mem_cons, List.not_mem_nil, or_false] at hv; rcases hv with rfl | rfl | rfl | rfl | rfl <;> simp)
  have hA := hL0.fc
  simp only [fcG, cellsF, neK, and_true, ne_eq, Nat.zero_add, Nat.reduceAdd] at hA
  have hP := hL0.put 3 (kb8) _ rfl [.int .u64 ((zl a.num : Nat) : Int), .string (zh a.num), .bool (zs a.num), .int .u64 ((lo (fe a) : Nat) : Int), .string (hs (fe a))] rfl
  simp only [setAll, List.set_cons_zero, List.set_cons_succ] at hP
  generalize hput1 : (((((x3.setCell ⟨kb8, 0, none⟩ (.int .u64 ((zl a.num : Nat) : Int))).setCell ⟨kb8, 1, none⟩ (.string (zh a.num))).setCell ⟨kb8, 2, none⟩ (.bool (zs a.num))).setCell ⟨kb8, 3, none⟩ (.int .u64 ((lo (fe a) : Nat) : Int))).setCell ⟨kb8, 4, none⟩ (.string (hs (fe a)))) = x4 at hP hS1
  have hB1 := hP.fc
  simp only [fcG, cellsF, neK, and_true, ne_eq, Nat.zero_add, Nat.reduceAdd] at hB1
  replace hL0 := hP
  replace hS := hS1
  clear hS1
  have hS1 := hS.put ((((((Upd.refl kb9 x4).setCell 0 (.int .u64 ((zl b.num : Nat) : Int))).setCell 1 (.string (zh b.num))).setCell 2 (.bool (zs b.num))).setCell 3 (.int .u64 ((lo (fe b) : Nat) : Int))).setCell 4 (.string (hs (fe b)))) (hL0.get _ _ (List.mem_cons_of_mem _ (List.mem_cons_of_mem _ List.mem_cons_self))) (by intro v hv n; simp only [List.mem_cons, List.not_mem_nil, or_false] at hv; rcases hv with rfl | rfl | rfl | rfl | rfl <;> simp)
  have hP := hL0.put 2 (kb9) _ rfl [.int .u64 ((zl b.num : Nat) : Int), .string (zh b.num), .bool (zs b.num), .int .u64 ((lo (fe b) : Nat) : Int), .string (hs (fe b))] rfl
  simp only [setAll, List.set_cons_zero, List.set_cons_succ] at hP
  generalize hput2 : (((((x4.setCell ⟨kb9, 0, none⟩ (.int .u64 ((zl b.num : Nat) : Int))).setCell ⟨kb9, 1, none⟩ (.string (zh b.num))).setCell ⟨kb9, 2, none⟩ (.bool (zs b.num))).setCell ⟨kb9, 3, none⟩ (.int .u64 ((lo (fe b) : Nat) : Int))).setCell ⟨kb9, 4, none⟩ (.string (hs (fe b)))) = x5 at hP hS1
  have hB2 := hP.fc
  simp only [fcG, cellsF, neK, and_true, ne_eq, Nat.zero_add, Nat.reduceAdd] at hB2
  replace hL0 := hP
  replace hS := hS1
  clear hS1
  have hS1 := hS.put ((((Upd.refl kb10 x5).setCell 0 (.bool (zs a.num))).setCell 1 (.slice g1 (tln a.num.natAbs) d1)).setCell 2 (.slice g2 (tln (fd a)) d2)) (hL0.get _ _ (List.mem_cons_of_mem _ List.mem_cons_self)) (by intro v hv n; simp only [List.mem_cons, List.not_mem_nil, or_false] at hv; rcases hv with rfl | rfl | rfl <;> simp)
  have hP := hL0.put 1 (kb10) _ rfl [.bool (zs a.num), .slice g1 (tln a.num.natAbs) d1, .slice g2 (tln (fd a)) d2] rfl
  simp only [setAll, List.set_cons_zero, List.set_cons_succ] at hP
  generalize hput3 : (((x5.setCell ⟨kb10, 0, none⟩ (.bool (zs a.num))).setCell ⟨kb10, 1, none⟩ (.slice g1 (tln a.num.natAbs) d1)).setCell ⟨kb10, 2, none⟩ (.slice g2 (tln (fd a)) d2)) = x6 at hP hS1
  have hB3 := hP.fc
  simp only [fcG, cellsF, neK, and_true, ne_eq, Nat.zero_add, Nat.reduceAdd] at hB3
  replace hL0 := hP
  replace hS := hS1
  clear hS1
  have hS1 := hS.put ((((Upd.refl kb11 x6).setCell 0 (.bool (zs b.num))).setCell 1 (.slice g3 (tln b.num.natAbs) d3)).setCell 2 (.slice g4 (tln (fd b)) d4)) (hL0.get _ _ List.mem_cons_self) (by intro v hv n; simp only [List.mem_cons, List.not_mem_nil, or_false] at hv; rcases hv with rfl | rfl | rfl <;> simp)
  have hP := hL0.put 0 (kb11) _ rfl [.bool (zs b.num), .slice g3 (tln b.num.natAbs) d3, .slice g4 (tln (fd b)) d4] rfl
  simp only [setAll, List.set_cons_zero, List.set_cons_succ] at hP
  generalize hput4 : (((x6.setCell ⟨kb11, 0, none⟩ (.bool (zs b.num))).setCell ⟨kb11, 1, none⟩ (.slice g3 (tln b.num.natAbs) d3)).setCell ⟨kb11, 2, none⟩ (.slice g4 (tln (fd b)) d4)) = x7 at hP hS1
  have hB4 := hP.fc
  simp only [fcG, cellsF, neK, and_true, ne_eq, Nat.zero_add, Nat.reduceAdd] at hB4
  replace hL0 := hP
  replace hS := hS1
  clear hS1
  go_wp2_with fail
  clear hA
  with_reducible refine Calls.mono (HC.out (.agg #[.bool (zs a.num), .slice g1 (tln a.num.natAbs) d1, .slice g2 (tln (fd a)) d2]) (.agg #[.bool (zs b.num), .slice g3 (tln b.num.natAbs) d3, .slice g4 (tln (fd b)) d4]) _ (rf_of (hS.get (List.mem_cons_of_mem _ (List.mem_cons_of_mem _ (List.mem_cons_of_mem _ List.mem_cons_self)))) (hS.get (List.mem_cons_of_mem _ (List.mem_cons_of_mem _ List.mem_cons_self)))) (rf_of (hS.get (List.mem_cons_of_mem _ List.mem_cons_self)) (hS.get List.mem_cons_self))) ?_
  rintro e x8 ⟨rfl, hb⟩
  replace hL0 := hL0.call hb
  replace hS := hS.call hb
  clear hb hput1 hB1 hput2 hB2 hput3 hB3 hput4 hB4
  have hN0 := cells_of _ 0 [] rfl (hL0.get _ _ (List.mem_cons_of_mem _ (List.mem_cons_of_mem _ List.mem_cons_self)))
  simp only [cellsF, and_true, Nat.zero_add, Nat.reduceAdd] at hN0
  have hN1 := cells_of _ 0 [] rfl (hL0.get _ _ (List.mem_cons_of_mem _ (List.mem_cons_of_mem _ (List.mem_cons_of_mem _ List.mem_cons_self))))
  simp only [cellsF, and_true, Nat.zero_add, Nat.reduceAdd] at hN1
  go_wp2_with fail
  clear hN0 hN1
  with_reducible refine Calls.mono (HD.out _) ?_
  rintro e x9 ⟨rfl, hb⟩
  replace hL0 := hL0.call hb
  replace hS := hS.call hb
  clear hb
  obtain ⟨x10, hweq, hL0, hS⟩ := GL.named2 (hL0.new rfl [.int .u64 ((zl q.num : Nat) : Int), .string (zh q.num), .bool (zs q.num), .int .u64 ((lo (fe q) : Nat) : Int), .string (hs (fe q))] 79) (hS.new (.cells #[.int .u64 ((zl q.num : Nat) : Int), .string (zh q.num), .bool (zs q.num), .int .u64 ((lo (fe q) : Nat) : Int), .string (hs (fe q))] 79))
  have hN0 := cells_of _ 0 [] rfl (hL0.get _ _ (List.mem_cons_of_mem _ List.mem_cons_self))
  simp only [cellsF, and_true, Nat.zero_add, Nat.reduceAdd] at hN0
  go_wp2_with fail
  clear hN0
  with_reducible refine Calls.mono (HSS.out (.agg #[.bool (zs b.num), .slice g3 (tln b.num.natAbs) d3, .slice g4 (tln (fd b)) d4]) _ (rf_of (hS.get (List.mem_cons_of_mem _ List.mem_cons_self)) (hS.get List.mem_cons_self))) ?_
  rintro e x11 ⟨rfl, hb⟩
  replace hL0 := hL0.call hb
  replace hS := hS.call hb
  clear hb hweq
  go_upto_region 7 with fail
  refine region_tl 54 [EV (fracV a), EV (.agg #[.bool (zs a.num), .slice g1 (tln a.num.natAbs) d1, .slice g2 (tln (fd a)) d2]), EV (.bool true), EV (.bool false), EV (.bool false), EV (fracV a), EV (fracV b), EV (fracV r), EV (.agg #[.bool (zs a.num), .slice g1 (tln a.num.natAbs) d1, .slice g2 (tln (fd a)) d2]), EV (.agg #[.bool (zs b.num), .slice g3 (tln b.num.natAbs) d3, .slice g4 (tln (fd b)) d4]), PF r, EV (.bool true), EV (.bool false), EV (.bool false), EV (.bool false), EV (fracV a), EV (fracV b), EV (fracV d), EV (.agg #[.bool (zs a.num), .slice g1 (tln a.num.natAbs) d1, .slice g2 (tln (fd a)) d2]), EV (.agg #[.bool (zs b.num), .slice g3 (tln b.num.natAbs) d3, .slice g4 (tln (fd b)) d4]), PF d, EV (.bool true), EV (.bool false), EV (.bool false), EV (.bool false), EV (fracV a), EV (fracV b), EV (fracV m), EV (.agg #[.bool (zs a.num), .slice g1 (tln a.num.natAbs) d1, .slice g2 (tln (fd a)) d2]), EV (.agg #[.bool (zs b.num), .slice g3 (tln b.num.natAbs) d3, .slice g4 (tln (fd b)) d4]), PF m, EV (.bool true), EV (.bool false), EV (.bool false), EV (.bool false), EV (fracV q), EV (.agg #[.bool (zs a.num), .slice g1 (tln a.num.natAbs) d1, .slice g2 (tln (fd a)) d2]), EV (.agg #[.bool (zs b.num), .slice g3 (tln b.num.natAbs) d3, .slice g4 (tln (fd b)) d4]), PF q, EV (.bool true), EV (.bool false), EV (.bool false), EV (.bool false), EV (.int .i64 ec), EV (.bool z), EV (.bool z), EV (.bool false), EV (.bool false), EV (.bool false), EV (.int .i64 ec), EV (.bool (!z)), EV (.bool z), EV (.bool false), EV (.bool false)] (by kernel_rfl) (by kernel_rfl) ?_ ?_ ?_
  ·repeat' first | exact stays_nil | apply stays_cons | exact stays_eq _ | exact stays_rf _
  ·simp only [List.take_succ_cons, List.take_zero, hopsR, and_true]
   refine ⟨?_, ?_, ?_, ?_, ?_, ?_, ?_, ?_, ?_, ?_, ?_, ?_, ?_, ?_, ?_, ?_, ?_, ?_, ?_, ?_, ?_, ?_, ?_, ?_, ?_, ?_, ?_, ?_, ?_, ?_, ?_, ?_, ?_, ?_, ?_, ?_, ?_, ?_, ?_, ?_, ?_, ?_, ?_, ?_, ?_, ?_, ?_, ?_, ?_, ?_, ?_, ?_, ?_, ?_⟩ <;> intro fv w1 hb1 hp
   all_goals (have hc := (hL0.call (below_drew hb1)).fc; simp only [fcG, cellsF, neK, and_true, ne_eq, Nat.zero_add, Nat.reduceAdd] at hc; simp only [putsV, Act.put, List.setIfInBounds_toArray, List.set_cons_succ, List.set_cons_zero, Nat.zero_add, Nat.reduceAdd])
   ·refine tyAt_none rfl ?_
    simp [tyUpon, execOp, go_sem, Act.eval, hc, hzk, he5, he0, hi, Below.refl]
   ·refine tyAt_none rfl ?_
    simp [tyUpon, execOp, go_sem, Act.eval, hc, hzk, he5, he0, hi, Below.refl]
   ·have h0 : EV _ (fv 0) w1 := hp 0 (LC (by kernel_rfl))
    have h1 : EV _ (fv 1) w1 := hp 1 (LC (by kernel_rfl))
    refine tyAt_none rfl ?_
    refine ty_call (f := 60) (args := #[fracV a, .agg #[.bool (zs a.num), .slice g1 (tln a.num.natAbs) d1, .slice g2 (tln (fd a)) d2]]) (by simp [execOp, go_sem, Act.eval, h0, h1]) ?_
    exact (H0.out (.agg #[.bool (zs a.num), .slice g1 (tln a.num.natAbs) d1, .slice g2 (tln (fd a)) d2]) w1 (hKT.out.at ((hL0.call (below_drew hb1)).bl) kKT) (rf_of (Sl.below (hS.get (List.mem_cons_of_mem _ (List.mem_cons_of_mem _ (List.mem_cons_of_mem _ List.mem_cons_self)))) (below_drew hb1)) (Sl.below (hS.get (List.mem_cons_of_mem _ (List.mem_cons_of_mem _ List.mem_cons_self))) (below_drew hb1)))).mono fun e w2 ⟨h1, h2⟩ => ⟨_, h1, rfl, h2⟩
   ·have h2 : EV _ (fv 2) w1 := hp 2 (LC (by kernel_rfl))
    refine tyAt_none rfl ?_
    simp [tyUpon, execOp, go_sem, Act.eval, h2, hzk, he5, he0, hi, Below.refl]
   ·have h3 : EV _ (fv 3) w1 := hp 3 (LC (by kernel_rfl))
    refine tyAt_none rfl ?_
    simp [tyUpon, execOp, go_sem, Act.eval, h3, hzk, he5, he0, hi, Below.refl]
   ·have h4 : EV _ (fv 4) w1 := hp 4 (LC (by kernel_rfl))
    refine tyAt_yes (by simp [Region.wanted, yielded, h4]) ?_
    simp [tyUpon, execOp, go_sem, Act.eval, hc, h4, hzk, he5, he0, hi, Below.refl]
   ·have h4 : EV _ (fv 4) w1 := hp 4 (LC (by kernel_rfl))
    refine tyAt_yes (by simp [Region.wanted, yielded, h4]) ?_
    simp [tyUpon, execOp, go_sem, Act.eval, hc, h4, hzk, he5, he0, hi, Below.refl]
   ·have h5 : EV _ (fv 5) w1 := hp 5 (LC (by kernel_rfl))
    have h6 : EV _ (fv 6) w1 := hp 6 (LC (by kernel_rfl))
    have h4 : EV _ (fv 4) w1 := hp 4 (LC (by kernel_rfl))
    refine tyAt_yes (by simp [Region.wanted, yielded, h5, h6, h4]) ?_
    refine ty_call (f := 61) (args := #[fracV a, fracV b]) (by simp [execOp, go_sem, Act.eval, h5, h6, h4]) ?_
    exact (HA.out w1).mono fun e w2 ⟨h1, h2⟩ => ⟨_, h1, rfl, h2⟩
   ·have h4 : EV _ (fv 4) w1 := hp 4 (LC (by kernel_rfl))
    refine tyAt_yes (by simp [Region.wanted, yielded, h4]) ?_
    simp [tyUpon, execOp, go_sem, Act.eval, hc, h4, hzk, he5, he0, hi, Below.refl]
   ·have h4 : EV _ (fv 4) w1 := hp 4 (LC (by kernel_rfl))
    refine tyAt_yes (by simp [Region.wanted, yielded, h4]) ?_
    simp [tyUpon, execOp, go_sem, Act.eval, hc, h4, hzk, he5, he0, hi, Below.refl]
   ·have h8 : EV _ (fv 8) w1 := hp 8 (LC (by kernel_rfl))
    have h9 : EV _ (fv 9) w1 := hp 9 (LC (by kernel_rfl))
    have h4 : EV _ (fv 4) w1 := hp 4 (LC (by kernel_rfl))
    refine tyAt_yes (by simp [Region.wanted, yielded, h8, h9, h4]) ?_
    refine ty_call (f := 62) (args := #[.agg #[.bool (zs a.num), .slice g1 (tln a.num.natAbs) d1, .slice g2 (tln (fd a)) d2], .agg #[.bool (zs b.num), .slice g3 (tln b.num.natAbs) d3, .slice g4 (tln (fd b)) d4]]) (by simp [execOp, go_sem, Act.eval, h8, h9, h4]) ?_
    exact (HA2.out (.agg #[.bool (zs a.num), .slice g1 (tln a.num.natAbs) d1, .slice g2 (tln (fd a)) d2]) (.agg #[.bool (zs b.num), .slice g3 (tln b.num.natAbs) d3, .slice g4 (tln (fd b)) d4]) w1 (rf_of (Sl.below (hS.get (List.mem_cons_of_mem _ (List.mem_cons_of_mem _ (List.mem_cons_of_mem _ List.mem_cons_self)))) (below_drew hb1)) (Sl.below (hS.get (List.mem_cons_of_mem _ (List.mem_cons_of_mem _ List.mem_cons_self))) (below_drew hb1))) (rf_of (Sl.below (hS.get (List.mem_cons_of_mem _ List.mem_cons_self)) (below_drew hb1)) (Sl.below (hS.get List.mem_cons_self) (below_drew hb1)))).mono fun e w2 ⟨pv, h1, h2, h3⟩ => ⟨pv, h1, h2, h3⟩
   ·have h7 : EV _ (fv 7) w1 := hp 7 (LC (by kernel_rfl))
    have h10 : PF _ (fv 10) w1 := hp 10 (LC (by kernel_rfl))
    have h4 : EV _ (fv 4) w1 := hp 4 (LC (by kernel_rfl))
    refine tyAt_yes (by simp [Region.wanted, yielded, h7, h4]) ?_
    refine ty_call (f := 60) (args := #[fracV r, fv 10]) (by simp [execOp, go_sem, Act.eval, h7, h4]) ?_
    exact (H1.out (fv 10) w1 (hKT.out.at ((hL0.call (below_drew hb1)).bl) kKT) h10).mono fun e w2 ⟨h1, h2⟩ => ⟨_, h1, rfl, h2⟩
   ·have h11 : EV _ (fv 11) w1 := hp 11 (LC (by kernel_rfl))
    have h4 : EV _ (fv 4) w1 := hp 4 (LC (by kernel_rfl))
    refine tyAt_yes (by simp [Region.wanted, yielded, h11, h4]) ?_
    simp [tyUpon, execOp, go_sem, Act.eval, h11, h4, hzk, he5, he0, hi, Below.refl]
   ·have h4 : EV _ (fv 4) w1 := hp 4 (LC (by kernel_rfl))
    have h12 : EV _ (fv 12) w1 := hp 12 (LC (by kernel_rfl))
    refine tyAt_none rfl ?_
    simp [tyUpon, execOp, go_sem, Act.eval, h4, h12, hzk, he5, he0, hi, Below.refl]
   ·have h13 : EV _ (fv 13) w1 := hp 13 (LC (by kernel_rfl))
    refine tyAt_none rfl ?_
    simp [tyUpon, execOp, go_sem, Act.eval, h13, hzk, he5, he0, hi, Below.refl]
   ·have h14 : EV _ (fv 14) w1 := hp 14 (LC (by kernel_rfl))
    refine tyAt_yes (by simp [Region.wanted, yielded, h14]) ?_
    simp [tyUpon, execOp, go_sem, Act.eval, hc, h14, hzk, he5, he0, hi, Below.refl]
   ·have h14 : EV _ (fv 14) w1 := hp 14 (LC (by kernel_rfl))
    refine tyAt_yes (by simp [Region.wanted, yielded, h14]) ?_
    simp [tyUpon, execOp, go_sem, Act.eval, hc, h14, hzk, he5, he0, hi, Below.refl]
   ·have h15 : EV _ (fv 15) w1 := hp 15 (LC (by kernel_rfl))
    have h16 : EV _ (fv 16) w1 := hp 16 (LC (by kernel_rfl))
    have h14 : EV _ (fv 14) w1 := hp 14 (LC (by kernel_rfl))
    refine tyAt_yes (by simp [Region.wanted, yielded, h15, h16, h14]) ?_
    refine ty_call (f := 63) (args := #[fracV a, fracV b]) (by simp [execOp, go_sem, Act.eval, h15, h16, h14]) ?_
    exact (HB.out w1).mono fun e w2 ⟨h1, h2⟩ => ⟨_, h1, rfl, h2⟩
   ·have h14 : EV _ (fv 14) w1 := hp 14 (LC (by kernel_rfl))
    refine tyAt_yes (by simp [Region.wanted, yielded, h14]) ?_
    simp [tyUpon, execOp, go_sem, Act.eval, hc, h14, hzk, he5, he0, hi, Below.refl]
   ·have h14 : EV _ (fv 14) w1 := hp 14 (LC (by kernel_rfl))
    refine tyAt_yes (by simp [Region.wanted, yielded, h14]) ?_
    simp [tyUpon, execOp, go_sem, Act.eval, hc, h14, hzk, he5, he0, hi, Below.refl]
   ·have h18 : EV _ (fv 18) w1 := hp 18 (LC (by kernel_rfl))
    have h19 : EV _ (fv 19) w1 := hp 19 (LC (by kernel_rfl))
    have h14 : EV _ (fv 14) w1 := hp 14 (LC (by kernel_rfl))
    refine tyAt_yes (by simp [Region.wanted, yielded, h18, h19, h14]) ?_
    refine ty_call (f := 64) (args := #[.agg #[.bool (zs a.num), .slice g1 (tln a.num.natAbs) d1, .slice g2 (tln (fd a)) d2], .agg #[.bool (zs b.num), .slice g3 (tln b.num.natAbs) d3, .slice g4 (tln (fd b)) d4]]) (by simp [execOp, go_sem, Act.eval, h18, h19, h14]) ?_
    exact (HB2.out (.agg #[.bool (zs a.num), .slice g1 (tln a.num.natAbs) d1, .slice g2 (tln (fd a)) d2]) (.agg #[.bool (zs b.num), .slice g3 (tln b.num.natAbs) d3, .slice g4 (tln (fd b)) d4]) w1 (rf_of (Sl.below (hS.get (List.mem_cons_of_mem _ (List.mem_cons_of_mem _ (List.mem_cons_of_mem _ List.mem_cons_self)))) (below_drew hb1)) (Sl.below (hS.get (List.mem_cons_of_mem _ (List.mem_cons_of_mem _ List.mem_cons_self))) (below_drew hb1))) (rf_of (Sl.below (hS.get (List.mem_cons_of_mem _ List.mem_cons_self)) (below_drew hb1)) (Sl.below (hS.get List.mem_cons_self) (below_drew hb1)))).mono fun e w2 ⟨pv, h1, h2, h3⟩ => ⟨pv, h1, h2, h3⟩
   ·have h17 : EV _ (fv 17) w1 := hp 17 (LC (by kernel_rfl))
    have h20 : PF _ (fv 20) w1 := hp 20 (LC (by kernel_rfl))
    have h14 : EV _ (fv 14) w1 := hp 14 (LC (by kernel_rfl))
    refine tyAt_yes (by simp [Region.wanted, yielded, h17, h14]) ?_
    refine ty_call (f := 60) (args := #[fracV d, fv 20]) (by simp [execOp, go_sem, Act.eval, h17, h14]) ?_
    exact (H2.out (fv 20) w1 (hKT.out.at ((hL0.call (below_drew hb1)).bl) kKT) h20).mono fun e w2 ⟨h1, h2⟩ => ⟨_, h1, rfl, h2⟩
   ·have h21 : EV _ (fv 21) w1 := hp 21 (LC (by kernel_rfl))
    have h14 : EV _ (fv 14) w1 := hp 14 (LC (by kernel_rfl))
    refine tyAt_yes (by simp [Region.wanted, yielded, h21, h14]) ?_
    simp [tyUpon, execOp, go_sem, Act.eval, h21, h14, hzk, he5, he0, hi, Below.refl]
   ·have h14 : EV _ (fv 14) w1 := hp 14 (LC (by kernel_rfl))
    have h22 : EV _ (fv 22) w1 := hp 22 (LC (by kernel_rfl))
    refine tyAt_none rfl ?_
    simp [tyUpon, execOp, go_sem, Act.eval, h14, h22, hzk, he5, he0, hi, Below.refl]
   ·have h23 : EV _ (fv 23) w1 := hp 23 (LC (by kernel_rfl))
    refine tyAt_none rfl ?_
    simp [tyUpon, execOp, go_sem, Act.eval, h23, hzk, he5, he0, hi, Below.refl]
   ·have h24 : EV _ (fv 24) w1 := hp 24 (LC (by kernel_rfl))
    refine tyAt_yes (by simp [Region.wanted, yielded, h24]) ?_
    simp [tyUpon, execOp, go_sem, Act.eval, hc, h24, hzk, he5, he0, hi, Below.refl]
   ·have h24 : EV _ (fv 24) w1 := hp 24 (LC (by kernel_rfl))
    refine tyAt_yes (by simp [Region.wanted, yielded, h24]) ?_
    simp [tyUpon, execOp, go_sem, Act.eval, hc, h24, hzk, he5, he0, hi, Below.refl]
   ·have h25 : EV _ (fv 25) w1 := hp 25 (LC (by kernel_rfl))
    have h26 : EV _ (fv 26) w1 := hp 26 (LC (by kernel_rfl))
    have h24 : EV _ (fv 24) w1 := hp 24 (LC (by kernel_rfl))
    refine tyAt_yes (by simp [Region.wanted, yielded, h25, h26, h24]) ?_
    refine ty_call (f := 65) (args := #[fracV a, fracV b]) (by simp [execOp, go_sem, Act.eval, h25, h26, h24]) ?_
    exact (HM.out w1).mono fun e w2 ⟨h1, h2⟩ => ⟨_, h1, rfl, h2⟩
   ·have h24 : EV _ (fv 24) w1 := hp 24 (LC (by kernel_rfl))
    refine tyAt_yes (by simp [Region.wanted, yielded, h24]) ?_
    simp [tyUpon, execOp, go_sem, Act.eval, hc, h24, hzk, he5, he0, hi, Below.refl]
   ·have h24 : EV _ (fv 24) w1 := hp 24 (LC (by kernel_rfl))
    refine tyAt_yes (by simp [Region.wanted, yielded, h24]) ?_
    simp [tyUpon, execOp, go_sem, Act.eval, hc, h24, hzk, he5, he0, hi, Below.refl]
   ·have h28 : EV _ (fv 28) w1 := hp 28 (LC (by kernel_rfl))
    have h29 : EV _ (fv 29) w1 := hp 29 (LC (by kernel_rfl))
    have h24 : EV _ (fv 24) w1 := hp 24 (LC (by kernel_rfl))
    refine tyAt_yes (by simp [Region.wanted, yielded, h28, h29, h24]) ?_
    refine ty_call (f := 66) (args := #[.agg #[.bool (zs a.num), .slice g1 (tln a.num.natAbs) d1, .slice g2 (tln (fd a)) d2], .agg #[.bool (zs b.num), .slice g3 (tln b.num.natAbs) d3, .slice g4 (tln (fd b)) d4]]) (by simp [execOp, go_sem, Act.eval, h28, h29, h24]) ?_
    exact (HM2.out (.agg #[.bool (zs a.num), .slice g1 (tln a.num.natAbs) d1, .slice g2 (tln (fd a)) d2]) (.agg #[.bool (zs b.num), .slice g3 (tln b.num.natAbs) d3, .slice g4 (tln (fd b)) d4]) w1 (rf_of (Sl.below (hS.get (List.mem_cons_of_mem _ (List.mem_cons_of_mem _ (List.mem_cons_of_mem _ List.mem_cons_self)))) (below_drew hb1)) (Sl.below (hS.get (List.mem_cons_of_mem _ (List.mem_cons_of_mem _ List.mem_cons_self))) (below_drew hb1))) (rf_of (Sl.below (hS.get (List.mem_cons_of_mem _ List.mem_cons_self)) (below_drew hb1)) (Sl.below (hS.get List.mem_cons_self) (below_drew hb1)))).mono fun e w2 ⟨pv, h1, h2, h3⟩ => ⟨pv, h1, h2, h3⟩
   ·have h27 : EV _ (fv 27) w1 := hp 27 (LC (by kernel_rfl))
    have h30 : PF _ (fv 30) w1 := hp 30 (LC (by kernel_rfl))
    have h24 : EV _ (fv 24) w1 := hp 24 (LC (by kernel_rfl))
    refine tyAt_yes (by simp [Region.wanted, yielded, h27, h24]) ?_
    refine ty_call (f := 60) (args := #[fracV m, fv 30]) (by simp [execOp, go_sem, Act.eval, h27, h24]) ?_
    exact (H3.out (fv 30) w1 (hKT.out.at ((hL0.call (below_drew hb1)).bl) kKT) h30).mono fun e w2 ⟨h1, h2⟩ => ⟨_, h1, rfl, h2⟩
   ·have h31 : EV _ (fv 31) w1 := hp 31 (LC (by kernel_rfl))
    have h24 : EV _ (fv 24) w1 := hp 24 (LC (by kernel_rfl))
    refine tyAt_yes (by simp [Region.wanted, yielded, h31, h24]) ?_
    simp [tyUpon, execOp, go_sem, Act.eval, h31, h24, hzk, he5, he0, hi, Below.refl]
   ·have h24 : EV _ (fv 24) w1 := hp 24 (LC (by kernel_rfl))
    have h32 : EV _ (fv 32) w1 := hp 32 (LC (by kernel_rfl))
    refine tyAt_none rfl ?_
    simp [tyUpon, execOp, go_sem, Act.eval, h24, h32, hzk, he5, he0, hi, Below.refl]
   ·have h33 : EV _ (fv 33) w1 := hp 33 (LC (by kernel_rfl))
    refine tyAt_none rfl ?_
    simp [tyUpon, execOp, go_sem, Act.eval, h33, hzk, he5, he0, hi, Below.refl]
   ·have h34 : EV _ (fv 34) w1 := hp 34 (LC (by kernel_rfl))
    refine tyAt_yes (by simp [Region.wanted, yielded, h34]) ?_
    simp [tyUpon, execOp, go_sem, Act.eval, hc, h34, hzk, he5, he0, hi, Below.refl]
   ·have h34 : EV _ (fv 34) w1 := hp 34 (LC (by kernel_rfl))
    refine tyAt_yes (by simp [Region.wanted, yielded, h34]) ?_
    simp [tyUpon, execOp, go_sem, Act.eval, hc, h34, hzk, he5, he0, hi, Below.refl]
   ·have h34 : EV _ (fv 34) w1 := hp 34 (LC (by kernel_rfl))
    refine tyAt_yes (by simp [Region.wanted, yielded, h34]) ?_
    simp [tyUpon, execOp, go_sem, Act.eval, hc, h34, hzk, he5, he0, hi, Below.refl]
   ·have h36 : EV _ (fv 36) w1 := hp 36 (LC (by kernel_rfl))
    have h37 : EV _ (fv 37) w1 := hp 37 (LC (by kernel_rfl))
    have h34 : EV _ (fv 34) w1 := hp 34 (LC (by kernel_rfl))
    refine tyAt_yes (by simp [Region.wanted, yielded, h36, h37, h34]) ?_
    refine ty_call (f := 67) (args := #[.agg #[.bool (zs a.num), .slice g1 (tln a.num.natAbs) d1, .slice g2 (tln (fd a)) d2], .agg #[.bool (zs b.num), .slice g3 (tln b.num.natAbs) d3, .slice g4 (tln (fd b)) d4]]) (by simp [execOp, go_sem, Act.eval, h36, h37, h34]) ?_
    exact (HD2.out (.agg #[.bool (zs a.num), .slice g1 (tln a.num.natAbs) d1, .slice g2 (tln (fd a)) d2]) (.agg #[.bool (zs b.num), .slice g3 (tln b.num.natAbs) d3, .slice g4 (tln (fd b)) d4]) w1 (rf_of (Sl.below (hS.get (List.mem_cons_of_mem _ (List.mem_cons_of_mem _ (List.mem_cons_of_mem _ List.mem_cons_self)))) (below_drew hb1)) (Sl.below (hS.get (List.mem_cons_of_mem _ (List.mem_cons_of_mem _ List.mem_cons_self))) (below_drew hb1))) (rf_of (Sl.below (hS.get (List.mem_cons_of_mem _ List.mem_cons_self)) (below_drew hb1)) (Sl.below (hS.get List.mem_cons_self) (below_drew hb1)))).mono fun e w2 ⟨pv, h1, h2, h3⟩ => ⟨pv, h1, h2, h3⟩
   ·have h35 : EV _ (fv 35) w1 := hp 35 (LC (by kernel_rfl))
    have h38 : PF _ (fv 38) w1 := hp 38 (LC (by kernel_rfl))
    have h34 : EV _ (fv 34) w1 := hp 34 (LC (by kernel_rfl))
    refine tyAt_yes (by simp [Region.wanted, yielded, h35, h34]) ?_
    refine ty_call (f := 60) (args := #[fracV q, fv 38]) (by simp [execOp, go_sem, Act.eval, h35, h34]) ?_
    exact (H4.out (fv 38) w1 (hKT.out.at ((hL0.call (below_drew hb1)).bl) kKT) h38).mono fun e w2 ⟨h1, h2⟩ => ⟨_, h1, rfl, h2⟩
   ·have h39 : EV _ (fv 39) w1 := hp 39 (LC (by kernel_rfl))
    have h34 : EV _ (fv 34) w1 := hp 34 (LC (by kernel_rfl))
    refine tyAt_yes (by simp [Region.wanted, yielded, h39, h34]) ?_
    simp [tyUpon, execOp, go_sem, Act.eval, h39, h34, hzk, he5, he0, hi, Below.refl]
   ·have h34 : EV _ (fv 34) w1 := hp 34 (LC (by kernel_rfl))
    have h40 : EV _ (fv 40) w1 := hp 40 (LC (by kernel_rfl))
    refine tyAt_none rfl ?_
    simp [tyUpon, execOp, go_sem, Act.eval, h34, h40, hzk, he5, he0, hi, Below.refl]
   ·have h41 : EV _ (fv 41) w1 := hp 41 (LC (by kernel_rfl))
    refine tyAt_none rfl ?_
    simp [tyUpon, execOp, go_sem, Act.eval, h41, hzk, he5, he0, hi, Below.refl]
   ·have h42 : EV _ (fv 42) w1 := hp 42 (LC (by kernel_rfl))
    refine tyAt_yes (by simp [Region.wanted, yielded, h42]) ?_
    simp [tyUpon, execOp, go_sem, Act.eval, h42, hzk, he5, he0, hi, Below.refl]
   ·have h43 : EV _ (fv 43) w1 := hp 43 (LC (by kernel_rfl))
    have h42 : EV _ (fv 42) w1 := hp 42 (LC (by kernel_rfl))
    refine tyAt_yes (by simp [Region.wanted, yielded, h43, h42]) ?_
    simp [tyUpon, execOp, go_sem, Act.eval, h43, h42, hzk, he5, he0, hi, Below.refl]
   ·have h42 : EV _ (fv 42) w1 := hp 42 (LC (by kernel_rfl))
    refine tyAt_yes (by simp [Region.wanted, yielded, h42]) ?_
    simp [tyUpon, execOp, go_sem, Act.eval, h42, hzk, he5, he0, hi, Below.refl]
   ·have h44 : EV _ (fv 44) w1 := hp 44 (LC (by kernel_rfl))
    have h45 : EV _ (fv 45) w1 := hp 45 (LC (by kernel_rfl))
    have h42 : EV _ (fv 42) w1 := hp 42 (LC (by kernel_rfl))
    refine tyAt_yes (by simp [Region.wanted, yielded, h44, h45, h42]) ?_
    simp [tyUpon, execOp, go_sem, Act.eval, h44, h45, h42, hzk, he5, he0, hi, Below.refl]
   ·have h42 : EV _ (fv 42) w1 := hp 42 (LC (by kernel_rfl))
    have h46 : EV _ (fv 46) w1 := hp 46 (LC (by kernel_rfl))
    refine tyAt_none rfl ?_
    simp [tyUpon, execOp, go_sem, Act.eval, h42, h46, hzk, he5, he0, hi, Below.refl]
   ·have h47 : EV _ (fv 47) w1 := hp 47 (LC (by kernel_rfl))
    refine tyAt_none rfl ?_
    simp [tyUpon, execOp, go_sem, Act.eval, h47, hzk, he5, he0, hi, Below.refl]
   ·have h48 : EV _ (fv 48) w1 := hp 48 (LC (by kernel_rfl))
    refine tyAt_yes (by simp [Region.wanted, yielded, h48]) ?_
    simp [tyUpon, execOp, go_sem, Act.eval, h48, hzk, he5, he0, hi, Below.refl]
   ·have h49 : EV _ (fv 49) w1 := hp 49 (LC (by kernel_rfl))
    have h48 : EV _ (fv 48) w1 := hp 48 (LC (by kernel_rfl))
    refine tyAt_yes (by simp [Region.wanted, yielded, h49, h48]) ?_
    simp [tyUpon, execOp, go_sem, Act.eval, h49, h48, hzk, he5, he0, hi, Below.refl]
   ·have h48 : EV _ (fv 48) w1 := hp 48 (LC (by kernel_rfl))
    refine tyAt_yes (by simp [Region.wanted, yielded, h48]) ?_
    simp [tyUpon, execOp, go_sem, Act.eval, h48, hzk, he5, he0, hi, Below.refl]
   ·have h50 : EV _ (fv 50) w1 := hp 50 (LC (by kernel_rfl))
    have h51 : EV _ (fv 51) w1 := hp 51 (LC (by kernel_rfl))
    have h48 : EV _ (fv 48) w1 := hp 48 (LC (by kernel_rfl))
    refine tyAt_yes (by simp [Region.wanted, yielded, h50, h51, h48]) ?_
    simp [tyUpon, execOp, go_sem, Act.eval, h50, h51, h48, hzk, he5, he0, hi, Below.refl]
   ·have h48 : EV _ (fv 48) w1 := hp 48 (LC (by kernel_rfl))
    have h52 : EV _ (fv 52) w1 := hp 52 (LC (by kernel_rfl))
    refine tyAt_none rfl ?_
    simp [tyUpon, execOp, go_sem, Act.eval, h48, h52, hzk, he5, he0, hi, Below.refl]
  ·intro fv x12 hb1 hv
   have e0 : fv 0 = _ := hv 0 (by omega)
   have e1 : fv 1 = _ := hv 1 (by omega)
   have e2 : fv 2 = _ := hv 2 (by omega)
   have e3 : fv 3 = _ := hv 3 (by omega)
   have e4 : fv 4 = _ := hv 4 (by omega)
   have e5 : fv 5 = _ := hv 5 (by omega)
   have e6 : fv 6 = _ := hv 6 (by omega)
   have e7 : fv 7 = _ := hv 7 (by omega)
   have e8 : fv 8 = _ := hv 8 (by omega)
   have e9 : fv 9 = _ := hv 9 (by omega)
   have q10 : RF x12 (fv 10) r := hv 10 (by omega)
   obtain ⟨g5, d5, g6, d6, e10⟩ := rf_form q10
   rw [e10] at q10
   have e11 : fv 11 = _ := hv 11 (by omega)
   have e12 : fv 12 = _ := hv 12 (by omega)
   have e13 : fv 13 = _ := hv 13 (by omega)
   have e14 : fv 14 = _ := hv 14 (by omega)
   have e15 : fv 15 = _ := hv 15 (by omega)
   have e16 : fv 16 = _ := hv 16 (by omega)
   have e17 : fv 17 = _ := hv 17 (by omega)
   have e18 : fv 18 = _ := hv 18 (by omega)
   have e19 : fv 19 = _ := hv 19 (by omega)
   have q20 : RF x12 (fv 20) d := hv 20 (by omega)
   obtain ⟨g7, d7, g8, d8, e20⟩ := rf_form q20
   rw [e20] at q20
   have e21 : fv 21 = _ := hv 21 (by omega)
   have e22 : fv 22 = _ := hv 22 (by omega)
   have e23 : fv 23 = _ := hv 23 (by omega)
   have e24 : fv 24 = _ := hv 24 (by omega)
   have e25 : fv 25 = _ := hv 25 (by omega)
   have e26 : fv 26 = _ := hv 26 (by omega)
   have e27 : fv 27 = _ := hv 27 (by omega)
   have e28 : fv 28 = _ := hv 28 (by omega)
   have e29 : fv 29 = _ := hv 29 (by omega)
   have q30 : RF x12 (fv 30) m := hv 30 (by omega)
   obtain ⟨g9, d9, g10, d10, e30⟩ := rf_form q30
   rw [e30] at q30
   have e31 : fv 31 = _ := hv 31 (by omega)
   have e32 : fv 32 = _ := hv 32 (by omega)
   have e33 : fv 33 = _ := hv 33 (by omega)
   have e34 : fv 34 = _ := hv 34 (by omega)
   have e35 : fv 35 = _ := hv 35 (by omega)
   have e36 : fv 36 = _ := hv 36 (by omega)
   have e37 : fv 37 = _ := hv 37 (by omega)
   have q38 : RF x12 (fv 38) q := hv 38 (by omega)
   obtain ⟨g11, d11, g12, d12, e38⟩ := rf_form q38
   rw [e38] at q38
   have e39 : fv 39 = _ := hv 39 (by omega)
   have e40 : fv 40 = _ := hv 40 (by omega)
   have e41 : fv 41 = _ := hv 41 (by omega)
   have e42 : fv 42 = _ := hv 42 (by omega)
   have e43 : fv 43 = _ := hv 43 (by omega)
   have e44 : fv 44 = _ := hv 44 (by omega)
   have e45 : fv 45 = _ := hv 45 (by omega)
   have e46 : fv 46 = _ := hv 46 (by omega)
   have e47 : fv 47 = _ := hv 47 (by omega)
   have e48 : fv 48 = _ := hv 48 (by omega)
   have e49 : fv 49 = _ := hv 49 (by omega)
   have e50 : fv 50 = _ := hv 50 (by omega)
   have e51 : fv 51 = _ := hv 51 (by omega)
   have e52 : fv 52 = _ := hv 52 (by omega)
   have e53 : fv 53 = _ := hv 53 (by omega)
   simp only [List.take_succ_cons, List.take_zero, putsV, Act.put, List.setIfInBounds_toArray, List.set_cons_succ, List.set_cons_zero, List.drop_succ_cons, List.drop_zero, Nat.zero_add, Nat.reduceAdd, e0, e1, e2, e3, e4, e5, e6, e7, e8, e9, e10, e11, e12, e13, e14, e15, e16, e17, e18, e19, e20, e21, e22, e23, e24, e25, e26, e27, e28, e29, e30, e31, e32, e33, e34, e35, e36, e37, e38, e39, e40, e41, e42, e43, e44, e45, e46, e47, e48, e49, e50, e51, e52, e53]
   replace hL0 := hL0.call (below_drew hb1)
   replace hS := hS.call (below_drew hb1)
   replace hS := hS.cons (rf_rn1 q10)
   replace hS := hS.cons (rf_rn2 q10)
   replace hS := hS.cons (rf_rn1 q20)
   replace hS := hS.cons (rf_rn2 q20)
   replace hS := hS.cons (rf_rn1 q30)
   replace hS := hS.cons (rf_rn2 q30)
   replace hS := hS.cons (rf_rn1 q38)
   replace hS := hS.cons (rf_rn2 q38)
   clear e0 e1 e2 e3 e4 e5 e6 e7 e8 e9 e10 e11 e12 e13 e14 e15 e16 e17 e18 e19 e20 e21 e22 e23 e24 e25 e26 e27 e28 e29 e30 e31 e32 e33 e34 e35 e36 e37 e38 e39 e40 e41 e42 e43 e44 e45 e46 e47 e48 e49 e50 e51 e52 e53 hb1 hv q10 q20 q30 q38 fv
   go_upto_region 9 with fail
   refine region_tl 47 [EV (fracV a), EV (fracV n), EV (.agg #[.bool (zs a.num), .slice g1 (tln a.num.natAbs) d1, .slice g2 (tln (fd a)) d2]), PF n, EV (.bool true), EV (.bool true), EV (fracV a), EV (fracV p), EV (.agg #[.bool (zs a.num), .slice g1 (tln a.num.natAbs) d1, .slice g2 (tln (fd a)) d2]), PF p, EV (.bool true), EV (.bool true), EV (.bool true), EV (fracV a), EV (.int .i64 j), EV (.agg #[.bool (zs a.num), .slice g1 (tln a.num.natAbs) d1, .slice g2 (tln (fd a)) d2]), EV (.int .i64 j), EV (.bool true), EV (.bool true), EV (.bool true), EV (fracV a), EV (fracV b), EV (.int .i64 i), EV (.int .i64 i), EV (.bool true), EV (.bool true), EV (.bool true), EV (fracV a), EV (fracV b), EV (.bool y), EV (.int .i64 i), EV (.bool y), EV (.bool true), EV (.bool true), EV (.bool true), EV (fracV a), EV (intV f), EV (.string t), EV (.agg #[.bool (zs a.num), .slice g1 (tln a.num.natAbs) d1, .slice g2 (tln (fd a)) d2]), PZ f, EV (.string t), EV (.bool true), EV (.bool true), EV (.bool true), EV (.bool true), EV (.bool true), EV (.bool true)] (by kernel_rfl) (by kernel_rfl) ?_ ?_ ?_
   ·repeat' first | exact stays_nil | apply stays_cons | exact stays_eq _ | exact stays_rz _ | exact stays_rf _
   ·simp only [List.take_succ_cons, List.take_zero, hopsR, and_true]
    refine ⟨?_, ?_, ?_, ?_, ?_, ?_, ?_, ?_, ?_, ?_, ?_, ?_, ?_, ?_, ?_, ?_, ?_, ?_, ?_, ?_, ?_, ?_, ?_, ?_, ?_, ?_, ?_, ?_, ?_, ?_, ?_, ?_, ?_, ?_, ?_, ?_, ?_, ?_, ?_, ?_, ?_, ?_, ?_, ?_, ?_, ?_, ?_⟩ <;> intro fv w1 hb1 hp
    all_goals (have hc := (hL0.call (below_drew hb1)).fc; simp only [fcG, cellsF, neK, and_true, ne_eq, Nat.zero_add, Nat.reduceAdd] at hc; simp only [putsV, Act.put, List.setIfInBounds_toArray, List.set_cons_succ, List.set_cons_zero, Nat.zero_add, Nat.reduceAdd])
    ·refine tyAt_none rfl ?_
     simp [tyUpon, execOp, go_sem, Act.eval, hc, hzk, he5, he0, hi, Below.refl]
    ·have h0 : EV _ (fv 0) w1 := hp 0 (LC (by kernel_rfl))
     refine tyAt_none rfl ?_
     refine ty_call (f := 68) (args := #[fracV a]) (by simp [execOp, go_sem, Act.eval, h0]) ?_
     exact (HN.out w1).mono fun e w2 ⟨h1, h2⟩ => ⟨_, h1, rfl, h2⟩
    ·refine tyAt_none rfl ?_
     simp [tyUpon, execOp, go_sem, Act.eval, hc, hzk, he5, he0, hi, Below.refl]
    ·have h2 : EV _ (fv 2) w1 := hp 2 (LC (by kernel_rfl))
     refine tyAt_none rfl ?_
     refine ty_call (f := 69) (args := #[.agg #[.bool (zs a.num), .slice g1 (tln a.num.natAbs) d1, .slice g2 (tln (fd a)) d2]]) (by simp [execOp, go_sem, Act.eval, h2]) ?_
     exact (HN2.out (.agg #[.bool (zs a.num), .slice g1 (tln a.num.natAbs) d1, .slice g2 (tln (fd a)) d2]) w1 (rf_of (Sl.below (hS.get (List.mem_cons_of_mem _ (List.mem_cons_of_mem _ (List.mem_cons_of_mem _ (List.mem_cons_of_mem _ (List.mem_cons_of_mem _ (List.mem_cons_of_mem _ (List.mem_cons_of_mem _ (List.mem_cons_of_mem _ (List.mem_cons_of_mem _ (List.mem_cons_of_mem _ (List.mem_cons_of_mem _ List.mem_cons_self)))))))))))) (below_drew hb1)) (Sl.below (hS.get (List.mem_cons_of_mem _ (List.mem_cons_of_mem _ (List.mem_cons_of_mem _ (List.mem_cons_of_mem _ (List.mem_cons_of_mem _ (List.mem_cons_of_mem _ (List.mem_cons_of_mem _ (List.mem_cons_of_mem _ (List.mem_cons_of_mem _ (List.mem_cons_of_mem _ List.mem_cons_self))))))))))) (below_drew hb1)))).mono fun e w2 ⟨pv, h1, h2, h3⟩ => ⟨pv, h1, h2, h3⟩
    ·have h1 : EV _ (fv 1) w1 := hp 1 (LC (by kernel_rfl))
     have h3 : PF _ (fv 3) w1 := hp 3 (LC (by kernel_rfl))
     refine tyAt_none rfl ?_
     refine ty_call (f := 60) (args := #[fracV n, fv 3]) (by simp [execOp, go_sem, Act.eval, h1]) ?_
     exact (H5.out (fv 3) w1 (hKT.out.at ((hL0.call (below_drew hb1)).bl) kKT) h3).mono fun e w2 ⟨h1, h2⟩ => ⟨_, h1, rfl, h2⟩
    ·have h4 : EV _ (fv 4) w1 := hp 4 (LC (by kernel_rfl))
     refine tyAt_none rfl ?_
     simp [tyUpon, execOp, go_sem, Act.eval, h4, hzk, he5, he0, hi, Below.refl]
    ·have h5 : EV _ (fv 5) w1 := hp 5 (LC (by kernel_rfl))
     refine tyAt_yes (by simp [Region.wanted, yielded, h5]) ?_
     simp [tyUpon, execOp, go_sem, Act.eval, hc, h5, hzk, he5, he0, hi, Below.refl]
    ·have h6 : EV _ (fv 6) w1 := hp 6 (LC (by kernel_rfl))
     have h5 : EV _ (fv 5) w1 := hp 5 (LC (by kernel_rfl))
     refine tyAt_yes (by simp [Region.wanted, yielded, h6, h5]) ?_
     refine ty_call (f := 70) (args := #[fracV a]) (by simp [execOp, go_sem, Act.eval, h6, h5]) ?_
     exact (HP.out w1).mono fun e w2 ⟨h1, h2⟩ => ⟨_, h1, rfl, h2⟩
    ·have h5 : EV _ (fv 5) w1 := hp 5 (LC (by kernel_rfl))
     refine tyAt_yes (by simp [Region.wanted, yielded, h5]) ?_
     simp [tyUpon, execOp, go_sem, Act.eval, hc, h5, hzk, he5, he0, hi, Below.refl]
    ·have h8 : EV _ (fv 8) w1 := hp 8 (LC (by kernel_rfl))
     have h5 : EV _ (fv 5) w1 := hp 5 (LC (by kernel_rfl))
     refine tyAt_yes (by simp [Region.wanted, yielded, h8, h5]) ?_
     refine ty_call (f := 71) (args := #[.agg #[.bool (zs a.num), .slice g1 (tln a.num.natAbs) d1, .slice g2 (tln (fd a)) d2]]) (by simp [execOp, go_sem, Act.eval, h8, h5]) ?_
     exact (HP2.out (.agg #[.bool (zs a.num), .slice g1 (tln a.num.natAbs) d1, .slice g2 (tln (fd a)) d2]) w1 (rf_of (Sl.below (hS.get (List.mem_cons_of_mem _ (List.mem_cons_of_mem _ (List.mem_cons_of_mem _ (List.mem_cons_of_mem _ (List.mem_cons_of_mem _ (List.mem_cons_of_mem _ (List.mem_cons_of_mem _ (List.mem_cons_of_mem _ (List.mem_cons_of_mem _ (List.mem_cons_of_mem _ (List.mem_cons_of_mem _ List.mem_cons_self)))))))))))) (below_drew hb1)) (Sl.below (hS.get (List.mem_cons_of_mem _ (List.mem_cons_of_mem _ (List.mem_cons_of_mem _ (List.mem_cons_of_mem _ (List.mem_cons_of_mem _ (List.mem_cons_of_mem _ (List.mem_cons_of_mem _ (List.mem_cons_of_mem _ (List.mem_cons_of_mem _ (List.mem_cons_of_mem _ List.mem_cons_self))))))))))) (below_drew hb1)))).mono fun e w2 ⟨pv, h1, h2, h3⟩ => ⟨pv, h1, h2, h3⟩
    ·have h7 : EV _ (fv 7) w1 := hp 7 (LC (by kernel_rfl))
     have h9 : PF _ (fv 9) w1 := hp 9 (LC (by kernel_rfl))
     have h5 : EV _ (fv 5) w1 := hp 5 (LC (by kernel_rfl))
     refine tyAt_yes (by simp [Region.wanted, yielded, h7, h5]) ?_
     refine ty_call (f := 60) (args := #[fracV p, fv 9]) (by simp [execOp, go_sem, Act.eval, h7, h5]) ?_
     exact (H6.out (fv 9) w1 (hKT.out.at ((hL0.call (below_drew hb1)).bl) kKT) h9).mono fun e w2 ⟨h1, h2⟩ => ⟨_, h1, rfl, h2⟩
    ·have h5 : EV _ (fv 5) w1 := hp 5 (LC (by kernel_rfl))
     have h10 : EV _ (fv 10) w1 := hp 10 (LC (by kernel_rfl))
     refine tyAt_none rfl ?_
     simp [tyUpon, execOp, go_sem, Act.eval, h5, h10, hzk, he5, he0, hi, Below.refl]
    ·have h11 : EV _ (fv 11) w1 := hp 11 (LC (by kernel_rfl))
     refine tyAt_none rfl ?_
     simp [tyUpon, execOp, go_sem, Act.eval, h11, hzk, he5, he0, hi, Below.refl]
    ·have h12 : EV _ (fv 12) w1 := hp 12 (LC (by kernel_rfl))
     refine tyAt_yes (by simp [Region.wanted, yielded, h12]) ?_
     simp [tyUpon, execOp, go_sem, Act.eval, hc, h12, hzk, he5, he0, hi, Below.refl]
    ·have h13 : EV _ (fv 13) w1 := hp 13 (LC (by kernel_rfl))
     have h12 : EV _ (fv 12) w1 := hp 12 (LC (by kernel_rfl))
     refine tyAt_yes (by simp [Region.wanted, yielded, h13, h12]) ?_
     refine ty_call (f := 72) (args := #[fracV a]) (by simp [execOp, go_sem, Act.eval, h13, h12]) ?_
     exact (HS.out w1).mono fun e w2 ⟨h1, h2⟩ => ⟨_, h1, rfl, h2⟩
    ·have h12 : EV _ (fv 12) w1 := hp 12 (LC (by kernel_rfl))
     refine tyAt_yes (by simp [Region.wanted, yielded, h12]) ?_
     simp [tyUpon, execOp, go_sem, Act.eval, hc, h12, hzk, he5, he0, hi, Below.refl]
    ·have h15 : EV _ (fv 15) w1 := hp 15 (LC (by kernel_rfl))
     have h12 : EV _ (fv 12) w1 := hp 12 (LC (by kernel_rfl))
     refine tyAt_yes (by simp [Region.wanted, yielded, h15, h12]) ?_
     refine ty_call (f := 59) (args := #[.agg #[.bool (zs a.num), .slice g1 (tln a.num.natAbs) d1, .slice g2 (tln (fd a)) d2]]) (by simp [execOp, go_sem, Act.eval, h15, h12]) ?_
     exact (HS2.out (.agg #[.bool (zs a.num), .slice g1 (tln a.num.natAbs) d1, .slice g2 (tln (fd a)) d2]) w1 (rf_of (Sl.below (hS.get (List.mem_cons_of_mem _ (List.mem_cons_of_mem _ (List.mem_cons_of_mem _ (List.mem_cons_of_mem _ (List.mem_cons_of_mem _ (List.mem_cons_of_mem _ (List.mem_cons_of_mem _ (List.mem_cons_of_mem _ (List.mem_cons_of_mem _ (List.mem_cons_of_mem _ (List.mem_cons_of_mem _ List.mem_cons_self)))))))))))) (below_drew hb1)) (Sl.below (hS.get (List.mem_cons_of_mem _ (List.mem_cons_of_mem _ (List.mem_cons_of_mem _ (List.mem_cons_of_mem _ (List.mem_cons_of_mem _ (List.mem_cons_of_mem _ (List.mem_cons_of_mem _ (List.mem_cons_of_mem _ (List.mem_cons_of_mem _ (List.mem_cons_of_mem _ List.mem_cons_self))))))))))) (below_drew hb1)))).mono fun e w2 ⟨h1, h2⟩ => ⟨_, h1, rfl, h2⟩
    ·have h14 : EV _ (fv 14) w1 := hp 14 (LC (by kernel_rfl))
     have h16 : EV _ (fv 16) w1 := hp 16 (LC (by kernel_rfl))
     have h12 : EV _ (fv 12) w1 := hp 12 (LC (by kernel_rfl))
     refine tyAt_yes (by simp [Region.wanted, yielded, h14, h16, h12]) ?_
     simp [tyUpon, execOp, go_sem, Act.eval, h14, h16, h12, hzk, he5, he0, hi, Below.refl]
    ·have h12 : EV _ (fv 12) w1 := hp 12 (LC (by kernel_rfl))
     have h17 : EV _ (fv 17) w1 := hp 17 (LC (by kernel_rfl))
     refine tyAt_none rfl ?_
     simp [tyUpon, execOp, go_sem, Act.eval, h12, h17, hzk, he5, he0, hi, Below.refl]
    ·have h18 : EV _ (fv 18) w1 := hp 18 (LC (by kernel_rfl))
     refine tyAt_none rfl ?_
     simp [tyUpon, execOp, go_sem, Act.eval, h18, hzk, he5, he0, hi, Below.refl]
    ·have h19 : EV _ (fv 19) w1 := hp 19 (LC (by kernel_rfl))
     refine tyAt_yes (by simp [Region.wanted, yielded, h19]) ?_
     simp [tyUpon, execOp, go_sem, Act.eval, hc, h19, hzk, he5, he0, hi, Below.refl]
    ·have h19 : EV _ (fv 19) w1 := hp 19 (LC (by kernel_rfl))
     refine tyAt_yes (by simp [Region.wanted, yielded, h19]) ?_
     simp [tyUpon, execOp, go_sem, Act.eval, hc, h19, hzk, he5, he0, hi, Below.refl]
    ·have h20 : EV _ (fv 20) w1 := hp 20 (LC (by kernel_rfl))
     have h21 : EV _ (fv 21) w1 := hp 21 (LC (by kernel_rfl))
     have h19 : EV _ (fv 19) w1 := hp 19 (LC (by kernel_rfl))
     refine tyAt_yes (by simp [Region.wanted, yielded, h20, h21, h19]) ?_
     refine ty_call (f := 73) (args := #[fracV a, fracV b]) (by simp [execOp, go_sem, Act.eval, h20, h21, h19]) ?_
     exact (HC2.out w1).mono fun e w2 ⟨h1, h2⟩ => ⟨_, h1, rfl, h2⟩
    ·have h19 : EV _ (fv 19) w1 := hp 19 (LC (by kernel_rfl))
     refine tyAt_yes (by simp [Region.wanted, yielded, h19]) ?_
     simp [tyUpon, execOp, go_sem, Act.eval, h19, hzk, he5, he0, hi, Below.refl]
    ·have h22 : EV _ (fv 22) w1 := hp 22 (LC (by kernel_rfl))
     have h23 : EV _ (fv 23) w1 := hp 23 (LC (by kernel_rfl))
     have h19 : EV _ (fv 19) w1 := hp 19 (LC (by kernel_rfl))
     refine tyAt_yes (by simp [Region.wanted, yielded, h22, h23, h19]) ?_
     simp [tyUpon, execOp, go_sem, Act.eval, h22, h23, h19, hzk, he5, he0, hi, Below.refl]
    ·have h19 : EV _ (fv 19) w1 := hp 19 (LC (by kernel_rfl))
     have h24 : EV _ (fv 24) w1 := hp 24 (LC (by kernel_rfl))
     refine tyAt_none rfl ?_
     simp [tyUpon, execOp, go_sem, Act.eval, h19, h24, hzk, he5, he0, hi, Below.refl]
    ·have h25 : EV _ (fv 25) w1 := hp 25 (LC (by kernel_rfl))
     refine tyAt_none rfl ?_
     simp [tyUpon, execOp, go_sem, Act.eval, h25, hzk, he5, he0, hi, Below.refl]
    ·have h26 : EV _ (fv 26) w1 := hp 26 (LC (by kernel_rfl))
     refine tyAt_yes (by simp [Region.wanted, yielded, h26]) ?_
     simp [tyUpon, execOp, go_sem, Act.eval, hc, h26, hzk, he5, he0, hi, Below.refl]
    ·have h26 : EV _ (fv 26) w1 := hp 26 (LC (by kernel_rfl))
     refine tyAt_yes (by simp [Region.wanted, yielded, h26]) ?_
     simp [tyUpon, execOp, go_sem, Act.eval, hc, h26, hzk, he5, he0, hi, Below.refl]
    ·have h27 : EV _ (fv 27) w1 := hp 27 (LC (by kernel_rfl))
     have h28 : EV _ (fv 28) w1 := hp 28 (LC (by kernel_rfl))
     have h26 : EV _ (fv 26) w1 := hp 26 (LC (by kernel_rfl))
     refine tyAt_yes (by simp [Region.wanted, yielded, h27, h28, h26]) ?_
     rcases same_fr hy.out with hz | hz | hz | hz | hz | hz <;> simp [tyUpon, execOp, go_sem, Act.eval, h27, h28, h26, hzk, he5, he0, hi, hz, Below.refl]
    ·have h26 : EV _ (fv 26) w1 := hp 26 (LC (by kernel_rfl))
     refine tyAt_yes (by simp [Region.wanted, yielded, h26]) ?_
     simp [tyUpon, execOp, go_sem, Act.eval, h26, hzk, he5, he0, hi, Below.refl]
    ·have h30 : EV _ (fv 30) w1 := hp 30 (LC (by kernel_rfl))
     have h26 : EV _ (fv 26) w1 := hp 26 (LC (by kernel_rfl))
     refine tyAt_yes (by simp [Region.wanted, yielded, h30, h26]) ?_
     simp [tyUpon, execOp, go_sem, Act.eval, h30, h26, hzk, he5, he0, hi, Below.refl]
    ·have h29 : EV _ (fv 29) w1 := hp 29 (LC (by kernel_rfl))
     have h31 : EV _ (fv 31) w1 := hp 31 (LC (by kernel_rfl))
     have h26 : EV _ (fv 26) w1 := hp 26 (LC (by kernel_rfl))
     refine tyAt_yes (by simp [Region.wanted, yielded, h29, h31, h26]) ?_
     simp [tyUpon, execOp, go_sem, Act.eval, h29, h31, h26, hzk, he5, he0, hi, Below.refl]
    ·have h26 : EV _ (fv 26) w1 := hp 26 (LC (by kernel_rfl))
     have h32 : EV _ (fv 32) w1 := hp 32 (LC (by kernel_rfl))
     refine tyAt_none rfl ?_
     simp [tyUpon, execOp, go_sem, Act.eval, h26, h32, hzk, he5, he0, hi, Below.refl]
    ·have h33 : EV _ (fv 33) w1 := hp 33 (LC (by kernel_rfl))
     refine tyAt_none rfl ?_
     simp [tyUpon, execOp, go_sem, Act.eval, h33, hzk, he5, he0, hi, Below.refl]
    ·have h34 : EV _ (fv 34) w1 := hp 34 (LC (by kernel_rfl))
     refine tyAt_yes (by simp [Region.wanted, yielded, h34]) ?_
     simp [tyUpon, execOp, go_sem, Act.eval, hc, h34, hzk, he5, he0, hi, Below.refl]
    ·have h35 : EV _ (fv 35) w1 := hp 35 (LC (by kernel_rfl))
     have h34 : EV _ (fv 34) w1 := hp 34 (LC (by kernel_rfl))
     refine tyAt_yes (by simp [Region.wanted, yielded, h35, h34]) ?_
     refine ty_call (f := 75) (args := #[fracV a]) (by simp [execOp, go_sem, Act.eval, h35, h34]) ?_
     exact (HF.out w1).mono fun e w2 ⟨h1, h2⟩ => ⟨_, h1, rfl, h2⟩
    ·have h36 : EV _ (fv 36) w1 := hp 36 (LC (by kernel_rfl))
     have h34 : EV _ (fv 34) w1 := hp 34 (LC (by kernel_rfl))
     refine tyAt_yes (by simp [Region.wanted, yielded, h36, h34]) ?_
     refine ty_call (f := 74) (args := #[intV f]) (by simp [execOp, go_sem, Act.eval, h36, h34]) ?_
     exact (HT.out w1 (hKT.out.at ((hL0.call (below_drew hb1)).bl) kKT)).mono fun e w2 ⟨h1, h2⟩ => ⟨_, h1, rfl, h2⟩
    ·have h34 : EV _ (fv 34) w1 := hp 34 (LC (by kernel_rfl))
     refine tyAt_yes (by simp [Region.wanted, yielded, h34]) ?_
     simp [tyUpon, execOp, go_sem, Act.eval, hc, h34, hzk, he5, he0, hi, Below.refl]
    ·have h38 : EV _ (fv 38) w1 := hp 38 (LC (by kernel_rfl))
     have h34 : EV _ (fv 34) w1 := hp 34 (LC (by kernel_rfl))
     refine tyAt_yes (by simp [Region.wanted, yielded, h38, h34]) ?_
     refine ty_call (f := 77) (args := #[.agg #[.bool (zs a.num), .slice g1 (tln a.num.natAbs) d1, .slice g2 (tln (fd a)) d2]]) (by simp [execOp, go_sem, Act.eval, h38, h34]) ?_
     exact (HF2.out (.agg #[.bool (zs a.num), .slice g1 (tln a.num.natAbs) d1, .slice g2 (tln (fd a)) d2]) w1 (rf_of (Sl.below (hS.get (List.mem_cons_of_mem _ (List.mem_cons_of_mem _ (List.mem_cons_of_mem _ (List.mem_cons_of_mem _ (List.mem_cons_of_mem _ (List.mem_cons_of_mem _ (List.mem_cons_of_mem _ (List.mem_cons_of_mem _ (List.mem_cons_of_mem _ (List.mem_cons_of_mem _ (List.mem_cons_of_mem _ List.mem_cons_self)))))))))))) (below_drew hb1)) (Sl.below (hS.get (List.mem_cons_of_mem _ (List.mem_cons_of_mem _ (List.mem_cons_of_mem _ (List.mem_cons_of_mem _ (List.mem_cons_of_mem _ (List.mem_cons_of_mem _ (List.mem_cons_of_mem _ (List.mem_cons_of_mem _ (List.mem_cons_of_mem _ (List.mem_cons_of_mem _ List.mem_cons_self))))))))))) (below_drew hb1)))).mono fun e w2 ⟨pv, h1, h2, h3⟩ => ⟨pv, h1, h2, h3⟩
    ·have h39 : PZ _ (fv 39) w1 := hp 39 (LC (by kernel_rfl))
     have h34 : EV _ (fv 34) w1 := hp 34 (LC (by kernel_rfl))
     refine tyAt_yes (by simp [Region.wanted, yielded, h34]) ?_
     refine ty_call (f := 76) (args := #[fv 39]) (by simp [execOp, go_sem, Act.eval, h34]) ?_
     exact (HT2.out (fv 39) w1 h39).mono fun e w2 ⟨h1, h2⟩ => ⟨_, h1, rfl, h2⟩
    ·have h37 : EV _ (fv 37) w1 := hp 37 (LC (by kernel_rfl))
     have h40 : EV _ (fv 40) w1 := hp 40 (LC (by kernel_rfl))
     have h34 : EV _ (fv 34) w1 := hp 34 (LC (by kernel_rfl))
     refine tyAt_yes (by simp [Region.wanted, yielded, h37, h40, h34]) ?_
     simp [tyUpon, execOp, go_sem, Act.eval, h37, h40, h34, hzk, he5, he0, hi, Below.refl]
    ·have h34 : EV _ (fv 34) w1 := hp 34 (LC (by kernel_rfl))
     have h41 : EV _ (fv 41) w1 := hp 41 (LC (by kernel_rfl))
     refine tyAt_none rfl ?_
     simp [tyUpon, execOp, go_sem, Act.eval, h34, h41, hzk, he5, he0, hi, Below.refl]
    ·have h42 : EV _ (fv 42) w1 := hp 42 (LC (by kernel_rfl))
     refine tyAt_none rfl ?_
     simp [tyUpon, execOp, go_sem, Act.eval, h42, hzk, he5, he0, hi, Below.refl]
    ·have h43 : EV _ (fv 43) w1 := hp 43 (LC (by kernel_rfl))
     refine tyAt_yes (by simp [Region.wanted, yielded, h43]) ?_
     refine ty_call (f := 54) (args := #[]) (by simp [execOp, go_sem, Act.eval, h43]) ?_
     exact (HW.out w1 (hKT.out.at ((hL0.call (below_drew hb1)).bl) kKT)).mono fun e w2 ⟨h1, h2⟩ => ⟨_, h1, rfl, h2⟩
    ·have h43 : EV _ (fv 43) w1 := hp 43 (LC (by kernel_rfl))
     have h44 : EV _ (fv 44) w1 := hp 44 (LC (by kernel_rfl))
     refine tyAt_none rfl ?_
     simp [tyUpon, execOp, go_sem, Act.eval, h43, h44, hzk, he5, he0, hi, Below.refl]
    ·have h45 : EV _ (fv 45) w1 := hp 45 (LC (by kernel_rfl))
     refine tyAt_none rfl ?_
     simp [tyUpon, execOp, go_sem, Act.eval, h45, hzk, he5, he0, hi, Below.refl]
   ·intro fv x13 hb1 hv
    have e0 : fv 0 = _ := hv 0 (by omega)
    have e1 : fv 1 = _ := hv 1 (by omega)
    have e2 : fv 2 = _ := hv 2 (by omega)
    have q3 : RF x13 (fv 3) n := hv 3 (by omega)
    obtain ⟨g13, d13, g14, d14, e3⟩ := rf_form q3
    rw [e3] at q3
    have e4 : fv 4 = _ := hv 4 (by omega)
    have e5 : fv 5 = _ := hv 5 (by omega)
    have e6 : fv 6 = _ := hv 6 (by omega)
    have e7 : fv 7 = _ := hv 7 (by omega)
    have e8 : fv 8 = _ := hv 8 (by omega)
    have q9 : RF x13 (fv 9) p := hv 9 (by omega)
    obtain ⟨g15, d15, g16, d16, e9⟩ := rf_form q9
    rw [e9] at q9
    have e10 : fv 10 = _ := hv 10 (by omega)
    have e11 : fv 11 = _ := hv 11 (by omega)
    have e12 : fv 12 = _ := hv 12 (by omega)
    have e13 : fv 13 = _ := hv 13 (by omega)
    have e14 : fv 14 = _ := hv 14 (by omega)
    have e15 : fv 15 = _ := hv 15 (by omega)
    have e16 : fv 16 = _ := hv 16 (by omega)
    have e17 : fv 17 = _ := hv 17 (by omega)
    have e18 : fv 18 = _ := hv 18 (by omega)
    have e19 : fv 19 = _ := hv 19 (by omega)
    have e20 : fv 20 = _ := hv 20 (by omega)
    have e21 : fv 21 = _ := hv 21 (by omega)
    have e22 : fv 22 = _ := hv 22 (by omega)
    have e23 : fv 23 = _ := hv 23 (by omega)
    have e24 : fv 24 = _ := hv 24 (by omega)
    have e25 : fv 25 = _ := hv 25 (by omega)
    have e26 : fv 26 = _ := hv 26 (by omega)
    have e27 : fv 27 = _ := hv 27 (by omega)
    have e28 : fv 28 = _ := hv 28 (by omega)
    have e29 : fv 29 = _ := hv 29 (by omega)
    have e30 : fv 30 = _ := hv 30 (by omega)
    have e31 : fv 31 = _ := hv 31 (by omega)
    have e32 : fv 32 = _ := hv 32 (by omega)
    have e33 : fv 33 = _ := hv 33 (by omega)
    have e34 : fv 34 = _ := hv 34 (by omega)
    have e35 : fv 35 = _ := hv 35 (by omega)
    have e36 : fv 36 = _ := hv 36 (by omega)
    have e37 : fv 37 = _ := hv 37 (by omega)
    have e38 : fv 38 = _ := hv 38 (by omega)
    have q39 : RZ x13 (fv 39) f := hv 39 (by omega)
    obtain ⟨g17, d17, e39⟩ := rz_form q39
    rw [e39] at q39
    have e40 : fv 40 = _ := hv 40 (by omega)
    have e41 : fv 41 = _ := hv 41 (by omega)
    have e42 : fv 42 = _ := hv 42 (by omega)
    have e43 : fv 43 = _ := hv 43 (by omega)
    have e44 : fv 44 = _ := hv 44 (by omega)
    have e45 : fv 45 = _ := hv 45 (by omega)
    have e46 : fv 46 = _ := hv 46 (by omega)
    simp only [List.take_succ_cons, List.take_zero, putsV, Act.put, List.setIfInBounds_toArray, List.set_cons_succ, List.set_cons_zero, List.drop_succ_cons, List.drop_zero, Nat.zero_add, Nat.reduceAdd, e0, e1, e2, e3, e4, e5, e6, e7, e8, e9, e10, e11, e12, e13, e14, e15, e16, e17, e18, e19, e20, e21, e22, e23, e24, e25, e26, e27, e28, e29, e30, e31, e32, e33, e34, e35, e36, e37, e38, e39, e40, e41, e42, e43, e44, e45, e46]
    replace hL0 := hL0.call (below_drew hb1)
    replace hS := hS.call (below_drew hb1)
    replace hS := hS.cons (rf_rn1 q3)
    replace hS := hS.cons (rf_rn2 q3)
    replace hS := hS.cons (rf_rn1 q9)
    replace hS := hS.cons (rf_rn2 q9)
    replace hS := hS.cons (rz_rn q39)
    clear e0 e1 e2 e3 e4 e5 e6 e7 e8 e9 e10 e11 e12 e13 e14 e15 e16 e17 e18 e19 e20 e21 e22 e23 e24 e25 e26 e27 e28 e29 e30 e31 e32 e33 e34 e35 e36 e37 e38 e39 e40 e41 e42 e43 e44 e45 e46 hb1 hv q3 q9 q39 fv
    go_wp2_with fail
    exact bodyPost_ret (v := .bool true) (by simp [results, Tryz.results7, go_sem]) rfl ⟨rfl, hL0.bl⟩
end Go.Proofs.YtdmoadfnogdfnaaGreatDoor
namespace Go.Proofs.YtdmoadfnogdfnaaGreatDoor
open Go.RowKit Go.Proofs.YtdmoadfnogdfnaaGreatDoor.Rx
attribute [local irreducible] lo hs sm s64 c64 d64 b64 mh ml pd pc qd qc val hiB str cmpI srD lz nb isq decB zl zh dval txt
theorem div_both (a b : Rat) {k : Nat} (ha : Sz a k) (hb : Sz b k) (h0 : 0 < k) (hk : k ≤ 40) : ∃ (q : Rat) (ec : Int), Sz q (k + k) ∧
  (∀ w, Calls Tryz.prog 58 #[fracV a, fracV b] w fun x w' => x = .returned (.tuple #[fracV q, .int .i64 ec]) ∧ Below w.heap.size w w') ∧
  (∀ (p0 p1 : Value) (w : World), RF w p0 a → RF w p1 b → Calls Tryz.prog 67 #[p0, p1] w fun e w' => ∃ pv, e = .returned pv ∧ RF w' pv q ∧ Below w.heap.size w w') ∧
  (ec == 5) = decide (b = 0) ∧ (ec == 0) = !decide (b = 0) := by
 by_cases hb0 : b = 0
 ·subst hb0
  exact ⟨0, 5, (szc 0 (by decide) (by decide)).mono (by omega), div0F a, rdiv0 a, by simp, by simp⟩
 ·exact ⟨a / b, 0, ha.div hb hb0, divF a b k ha hb (by omega) hb0, rdivF a b ha hb hb0 (by omega), by simp [hb0], by simp [hb0]⟩
theorem absQ_sz {q : Rat} {k : Nat} (h : Sz q k) : Sz (absQ q) k := by
 unfold absQ
 split
 ·exact h.neg
 ·exact h
theorem floor_dI {q : Rat} {k : Nat} (h : Sz q k) : dI q.floor ≤ k := by rw [rfloor]; exact dI_le (Int.natAbs_ediv_le_natAbs _ _) h.1
theorem gpair_keeps (v u : Value) (l k : List Nat) : Keeps (fun w => Ws w v l ∧ Ws w u k) := Keeps.and (Keeps.ws v l) (Keeps.ws u k)
theorem tabmax_keeps : Keeps (fun w => Tab w ∧ MaxL w) := Keeps.and Keeps.tab MaxL.keeps
theorem fsums_any (sx sy : Bool) (ax qx ay qy : Option Addr) (nx cx mx dx ny cy my dy : Nat) (lx kx ly ky : List Nat) (w : World) (htab : Tab w) (hm : MaxL w) (hwx : Ws w (.slice ax nx cx) lx) (hvx : Ws w (.slice qx mx dx) kx) (hwy : Ws w (.slice ay ny cy) ly) (hvy : Ws w (.slice qy my dy) ky) :
  Calls Tryz.prog 7 #[.agg #[.bool sx, .slice ax nx cx, .slice qx mx dx], .agg #[.bool sy, .slice ay ny cy, .slice qy my dy]] w fun xe w' => xe = .returned (.bool true) ∧ Below w.heap.size w w' := by
 have e1 := hwx.len
 have e2 := hvx.len
 have e3 := hwy.len
 have e4 := hvy.len
 by_cases h : nx ≤ 8 ∧ mx ≤ 8 ∧ ny ≤ 8 ∧ my ≤ 8
 ·have hf : decide (nx ≤ 8 ∧ mx ≤ 8 ∧ ny ≤ 8 ∧ my ≤ 8) = true := decide_eq_true h
  obtain ⟨h1, h2, h3, h4⟩ := h
  have sa : Sz (gmade sx lx kx) 9 := gmade_sz (by omega) hwx hvx h1 h2
  have sb : Sz (gmade sy ly ky) 9 := gmade_sz (by omega) hwy hvy h3 h4
  have GX : ∀ w, (Ws w (.slice ax nx cx) lx ∧ Ws w (.slice qx mx dx) kx) → _ := fun w h => gof_any sx ax qx nx cx mx dx lx kx (by omega) (by omega) w h.1 h.2
  have GY : ∀ w, (Ws w (.slice ay ny cy) ly ∧ Ws w (.slice qy my dy) ky) → _ := fun w h => gof_any sy ay qy ny cy my dy ly ky (by omega) (by omega) w h.1 h.2
  have RX : ∀ w, (Ws w (.slice ax nx cx) lx ∧ Ws w (.slice qx mx dx) kx) → _ := fun w h => gref_any sx ax qx nx cx mx dx lx kx (by omega) (by omega) w h.1 h.2
  have RY : ∀ w, (Ws w (.slice ay ny cy) ly ∧ Ws w (.slice qy my dy) ky) → _ := fun w h => gref_any sy ay qy ny cy my dy ly ky (by omega) (by omega) w h.1 h.2
  generalize gmade sx lx kx = a at *
  generalize gmade sy ly ky = b at *
  have SM : ∀ (q : Rat), Sz q 19 → ∀ (p1 : Value) (w : World), (Tab w ∧ MaxL w) → RF w p1 q → _ := fun q hq p1 w ht h => sameF q hq (by omega) p1 w ht.1 h
  have WK : ∀ w, (Tab w ∧ MaxL w) → _ := fun w h => fworks_any w h.1 h.2
  have TX : ∀ w, (Tab w ∧ MaxL w) → _ := fun w h => textI a.floor (Nat.le_trans (floor_dI sa) (by omega)) w h.1
  have TY := rztextI a.floor (Nat.le_trans (dI_td (floor_dI sa)) (by omega))
  obtain ⟨q, ec, sq, HD, HD2, he5, he0⟩ := div_both a b sa sb (by omega) (by omega)
  have HC := rcmp a b sa sb (by omega)
  have HC2 := cmpF a b 9 sa sb (by omega)
  have hi : (cmpQ a b == 0) = decide (a = b) := by
   unfold cmpQ
   by_cases h1 : a < b
   ·rw [if_pos h1, decide_eq_false (by grind)]; rfl
   ·rw [if_neg h1]
    by_cases h2 : a = b
    ·rw [if_pos h2, decide_eq_true h2]; rfl
    ·rw [if_neg h2, decide_eq_false h2]; rfl
  exact fsums_w sx sy ax qx ay qy nx cx mx dx ny cy my dy a b (a + b) (a - b) (a * b) q (-a) (absQ a) (cmpQ a b) (sgnQ b) (sgnQ a) ec a.floor (ztxt a.floor) (decide (b = 0)) (decide (a = b))
   _ (gpair_keeps _ _ lx kx) GX _ (gpair_keeps _ _ ly ky) GY RX RY HC HD (rsign b) _ tabmax_keeps (SM a (sa.mono (by omega)))
   (addF a b 9 sa sb (by omega)) (radd a b sa sb (by omega)) (SM _ (sa.add sb)) (subF a b 9 sa sb (by omega)) (rsub a b sa sb (by omega)) (SM _ (sa.sub sb))
   (mulF a b 9 sa sb (by omega)) (rmul a b sa sb (by omega)) (SM _ ((sa.mul sb).mono (by omega))) HD2 (SM q (sq.mono (by omega)))
   (negF a) (rneg a) (SM _ (sa.neg.mono (by omega))) (absF a) (rabs a) (SM _ ((absQ_sz sa).mono (by omega))) (signF a) (rsign a) HC2 (floorF a 9 sa (by omega)) TX (rfloorF a sa (by omega)) TY WK
   hf sgnQ_eq0 he5 he0 rfl hi w ⟨hwx, hvx⟩ ⟨hwy, hvy⟩ ⟨htab, hm⟩
 ·exact fsums_big sx sy ax qx ay qy nx cx mx dx ny cy my dy _ tabmax_keeps (fun w h => fworks_any w h.1 h.2) (decide_eq_false h) w ⟨htab, hm⟩
end Go.Proofs.YtdmoadfnogdfnaaGreatDoor
namespace Go.Proofs.YtdmoadfnogdfnaaGreatDoor.fracsSums
open Go.ChangeShapes Go.WideShapes Go.ChangeAt Go.RowKit
set_option maxRecDepth 100000 in
theorem contract (H : Type) (enc : TypeId × Value → H) (W : World) (base : Nat) (args : Array Value) (ds gs : List (DataW H)) (before : List MemPlace)
  (hval : ∀ (j : Nat) t v, Tryz.f7.params[j]? = some t → args[j]? = some v → Value.okWide Tryz.prog W .any base t v)
  (hW : DataW.Whole enc Tryz.prog Tryz.f7.params.toList Rows.fracsSumsSpec.vars false W args.toList ds gs before) (hL : laidMetH Tryz.prog Rows.fracsSumsRow.laid W) (hSh : W.ShapedOpen Tryz.prog) :
  Calls Tryz.prog 7 args W fun e W' => ∃ v, e = .returned v ∧ Rows.fracsSumsSpec.post enc Tryz.prog Tryz.f7 false true false false W args v W' := by
 have hW' := hW
 obtain ⟨p, q, hA0, hV, rfl, _, _⟩ := hW
 have hA : DataW.TrodAll enc Tryz.prog W 0 (fun _ => true) true Tryz.f7.params.toList args.toList ds p := hA0
 rw [Tryz.params7] at hA hval
 obtain ⟨v0, v1, e0, e1, p0, p1, rfl, rfl, rfl, h0, h1⟩ := trodAll_two hA
 obtain ⟨rfl, rfl⟩ := trodVars_none hV
 clear hA0
 simp only [List.append_nil] at hW'
 have hlt : ∀ x ∈ p0 ++ p1, x.block < W.heap.size := fun x hx => by simpa using hW'.lt x hx
 have t0 : ∀ x ∈ p0, x.block < W.heap.size := fun x hx => hlt x (by simp [hx])
 obtain ⟨s0, a0, q0, n0, c0, m0, d0, l0, k0, rfl, w0, u0⟩ := great_of (hval 0 76 v0 rfl rfl) h0
 have t1 : ∀ x ∈ p1, x.block < W.heap.size := fun x hx => hlt x (by simp [hx])
 obtain ⟨s1, a1, q1, n1, c1, m1, d1, l1, k1, rfl, w1, u1⟩ := great_of (hval 1 76 v1 rfl rfl) h1
 refine (fsums_any s0 s1 a0 q0 a1 q1 n0 c0 m0 d0 n1 c1 m1 d1 l0 k0 l1 k1  W (tab_of hL) (maxL_of hSh) w0 u0 w1 u1).mono fun e W' ⟨he, hb⟩ => ?_
 subst he
 refine ⟨_, rfl, _, _, _, [], ?pl, [], hW', ?_, ?_, rfl, hb.frame _, fun h => by cases h⟩
 rotate_left
 ·exact trodAll_mk1 (shut_bool Tryz.underlying4 _)
 ·exact trodAll_mk2 (Below.trod laidOut (by kernel_rfl) (of_decide_eq_true (by kernel_rfl)) h0 hb t0) (Below.trod laidOut (by kernel_rfl) (of_decide_eq_true (by kernel_rfl)) h1 hb t1)
/-- A world for the witness: the settled one, the tables as their initialisers lay them. -/
noncomputable def laidWorld (os : Os) : World := World.laidAll Tryz.prog os Rows.fracsSumsRow.laid
theorem laid_met (os : Os) : laidMet Tryz.prog Rows.fracsSumsRow.laid ((laidWorld os).forCall (fun _ _ => 0) ⟨#[], #[.agg #[.bool false, .slice none 0 0, .slice none 0 0], .agg #[.bool false, .slice none 0 0, .slice none 0 0]], []⟩).memory :=
 laidMet_laidAll _ (by kernel_rfl) (by kernel_rfl)
theorem reads (os : Os) {H : Type} (enc : TypeId × Value → H) : ∃ places, DataW.whole enc Tryz.prog ((laidWorld os).forCall (fun _ _ => 0) ⟨#[], #[.agg #[.bool false, .slice none 0 0, .slice none 0 0], .agg #[.bool false, .slice none 0 0, .slice none 0 0]], []⟩).memory Tryz.f7.params.toList Rows.fracsSumsSpec.vars false (#[.agg #[.bool false, .slice none 0 0, .slice none 0 0], .agg #[.bool false, .slice none 0 0, .slice none 0 0]] : Array Value).toList 8 = some ([.agg [.agg [.lit (.bool false), .nil], .nil], .agg [.agg [.lit (.bool false), .nil], .nil]], [], places) :=
 ⟨[], by kernel_rfl⟩
set_option maxRecDepth 100000 in
theorem lifted (os : Os) (started : os.Started) (H : Type) (enc : TypeId × Value → H) (F : Stop.Interp) :
  ReturnsInHanded {} Tryz.checked os 7 .any ((OpenSpec.ofChange Rows.fracsSumsSpec).preRow enc Tryz.prog Tryz.f7 Rows.fracsSumsRow.domain false Rows.fracsSumsRow.laid) (((OpenSpec.ofChange Rows.fracsSumsSpec).at F).post enc Tryz.prog Tryz.f7 false true false false) := by
 obtain ⟨places, hx⟩ := reads os enc
 refine returnsInHanded_of_row (C := Tryz.checked) (s := OpenSpec.ofChange Rows.fracsSumsSpec) own started (by kernel_rfl) Tryz.func7
  (witness_row_at (enc := enc) (C := Tryz.checked) false (laidWorld os) #[.agg #[.bool false, .slice none 0 0, .slice none 0 0], .agg #[.bool false, .slice none 0 0, .slice none 0 0]] (World.laidAll_os _ _ _) (by kernel_rfl) (by kernel_rfl) (by kernel_rfl)
   (OpenSpec.preRow_of_cond 8 hx (by kernel_rfl) (fun k hk => by cases hk) (by kernel_rfl) (laid_met os))) ?_
 intro W base args ds gs before hval hW _ _ _ hL hSh _
 exact contract H enc W base args ds gs before hval hW hL hSh
theorem said : Rows.FracsSumsSaid :=
 OpenClaim.holds_of_cond 7 Tryz.f7 rfl rfl rfl rfl rfl rfl rfl ⟨rfl, rfl, rfl, rfl, rfl⟩ rfl rfl rfl rfl rfl (by kernel_rfl) Tryz.func7 (by kernel_rfl)
  (of_decide_eq_true (by kernel_rfl)) (by unfold Func.isWrapper; first | (rw [if_pos (by decide +kernel)]; kernel_rfl) | (rw [if_neg (by decide +kernel)]; exact ⟨rfl, rfl⟩))
  (fun os started H enc _ F => by rw [OpenClaim.pre_eq_preRow]; exact lifted os started H enc F)
theorem plain (f : FuncId) (fn : Func) (hf : Tryz.pinned.checked.prog.funcNamed "gusset/gussetlaw03.FracsSums" = some f) (hfn : Tryz.pinned.checked.prog.funcs[f]? = some fn) :
  false = Tryz.pinned.checked.prog.looks [] ∧ ∀ (j : Nat) t, fn.params[j]? = some t → Tryz.pinned.checked.prog.wantsStandIn t = false := by
 obtain rfl : f = 7 := Option.some.inj ((show Tryz.prog.funcNamed "gusset/gussetlaw03.FracsSums" = some 7 by kernel_rfl).symm.trans hf) |>.symm
 obtain rfl : fn = Tryz.f7 := (Option.some.inj (Tryz.func7.symm.trans hfn)).symm
 refine ⟨by kernel_rfl, fun j t ht => ?_⟩
 rw [Tryz.params7] at ht
 have hm := Array.mem_of_getElem? ht
 simp only [List.mem_toArray, List.mem_cons, List.not_mem_nil, or_false] at hm
 rcases hm with rfl | rfl
 ·exact (show Tryz.prog.wantsStandIn 76 = false by kernel_rfl)
 ·exact (show Tryz.prog.wantsStandIn 76 = false by kernel_rfl)
end Go.Proofs.YtdmoadfnogdfnaaGreatDoor.fracsSums
namespace Go.Proofs.YtdmoadfnogdfnaaGreatDoor
open Go.ChangeShapes Go.WideShapes Go.ChangeAt Go.RowKit
/-- THE CARD -/
theorem fracsSumsProved : Rows.FracsSumsCardSaid :=
 Claim7.holds_tied_plain_at .later [] _ _ _ _ fracsSums.said (fun _ h => by cases h) (by kernel_rfl) (fun _ h => by cases h) fracsSums_row_tie rfl ⟨rfl, rfl⟩ (by kernel_rfl) rfl fracsSums.plain (by kernel_rfl)
end Go.Proofs.YtdmoadfnogdfnaaGreatDoor
