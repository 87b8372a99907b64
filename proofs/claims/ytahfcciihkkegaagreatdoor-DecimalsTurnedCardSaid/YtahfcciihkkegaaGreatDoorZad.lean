/-
  The law answers true at every input, and leaves its arguments as they were: a part of the proof. CONDITIONS: the package-level tables start as the program's text lays them (the card ties them).
-/
import Derived.Test.YtahfcciihkkegaaGreatDoorZac
import Derived.Test.YtahfcciihkkegaaGreatDoorTie
import Derived.Test.YtahfcciihkkegaaGreatDoorCards
set_option linter.unusedVariables false
set_option linter.unusedSimpArgs false
namespace Go.Proofs.YtahfcciihkkegaaGreatDoor
open Go.RowKit
/-- 2^p as a fraction, and its inverse. -/
def twoQ (p : Nat) : Rat := ((2 ^ p : Nat) : Rat)
def stepR (p : Nat) : Rat := 1 / twoQ p
/-- The integer below the root of x; the one that is not below it. -/
def rtL (x : Rat) : Nat := isq x.floor.natAbs
def rtH (x : Rat) : Nat := if ((rtL x : Nat) : Rat) * ((rtL x : Nat) : Rat) = x then rtL x else rtL x + 1
end Go.Proofs.YtahfcciihkkegaaGreatDoor
namespace Go.Proofs.YtahfcciihkkegaaGreatDoor
open Go.RowKit
def scaleR (p : Nat) (a : Rat) : Rat := a * (twoQ p * twoQ p)
/-- The greatest multiple of 2^-p that is at most the root of a; the least one that is at least it. -/
def below (p : Nat) (a : Rat) : Rat := ((rtL (scaleR p a) : Nat) : Rat) * stepR p
def above (p : Nat) (a : Rat) : Rat := ((rtH (scaleR p a) : Nat) : Rat) * stepR p
end Go.Proofs.YtahfcciihkkegaaGreatDoor
namespace Go.Proofs.YtahfcciihkkegaaGreatDoor
open Go.RowKit
theorem floor_d {q : Rat} {k : Nat} (h : Sz q k) : dI q.floor ≤ k := by rw [rfloor]; exact Nat.le_trans (dI_mono (Int.natAbs_ediv_le_natAbs _ _)) h.1
theorem ceil_d {q : Rat} {k : Nat} (h : Sz q k) : dI (rceil q) ≤ k := by unfold rceil; rw [dI_neg]; exact floor_d h.neg
theorem toI_d {q : Rat} {k : Nat} (way : Int) (h : Sz q k) : dI (toI way q) ≤ k := by
 unfold toI
 split
 ·split
  ·exact ceil_d h
  ·exact floor_d h
 ·split
  ·exact ceil_d h
  ·exact floor_d h
theorem ten_d {p : Nat} (h : p ≤ 100) : (digs (10 ^ p)).length ≤ 6 := by
 refine digs_length_iff.2 (Nat.lt_of_le_of_lt (Nat.pow_le_pow_right (by decide) h) ?_)
 unfold Bs; decide +kernel
theorem two_d {p : Nat} (h : p ≤ 100) : (digs (2 ^ p)).length ≤ 2 := by
 refine digs_length_iff.2 (Nat.lt_of_le_of_lt (Nat.pow_le_pow_right (by decide) h) ?_)
 unfold Bs; decide +kernel
theorem nat_sz {n k : Nat} (h : (digs n).length ≤ k) (hk : 0 < k) : Sz ((n : Nat) : Rat) k := Sz.int (z := ((n : Nat) : Int)) (by rw [dI_nat]; exact h) hk
theorem ten_sz {p : Nat} (h : p ≤ 100) : Sz (tenQ p) 6 := nat_sz (ten_d h) (by decide)
end Go.Proofs.YtahfcciihkkegaaGreatDoor
namespace Go.Proofs.YtahfcciihkkegaaGreatDoor
open Go.RowKit
theorem frV_q0' : fracV 0 = .agg #[.int .u64 0, .string ⟨#[]⟩, .bool false, .int .u64 0, .string ⟨#[]⟩] := frV_00
end Go.Proofs.YtahfcciihkkegaaGreatDoor
namespace Go.Proofs.YtahfcciihkkegaaGreatDoor
open Go.RowKit
attribute [local irreducible] lo hs sm s64 c64 d64 b64 mh ml pd pc qd qc val hiB str cmpI srD lz nb isq decB zl zh zs
theorem szc (q : Rat) (h1 : q.num.natAbs < 18446744073709551616) (h2 : q.den < 18446744073709551616) : Sz q 1 :=
 ⟨digs_length_iff.2 (by rw [Nat.pow_one]; exact h1), digs_length_iff.2 (by rw [Nat.pow_one]; exact h2)⟩
theorem txt1 (d : Nat) (h : d < 10) : txt d = ⟨#[dch d]⟩ := by unfold txt; rw [dec_small h]
theorem zt_neg (d : Nat) (h : d < 10) (h0 : 0 < d) : ztxt (-(d : Int)) = ⟨#[45, dch d]⟩ := by
 unfold ztxt; rw [if_pos (by omega), Int.natAbs_neg, Int.natAbs_natCast, txt1 d h]; rfl
theorem qt_part {q : Rat} {z : Int} {d : Nat} (h1 : q.den = d) (hd : d ≠ 1) (h2 : q.num = z) : qtxt q = ztxt z ++ ByteArray.mk #[47] ++ txt d := by unfold qtxt; rw [if_neg (by rw [h1]; exact hd), h1, h2]
/-- The variable of package bytealg that strings.Cut looks at. -/
def MaxL (w : World) : Prop := ∃ m, w.cell? ⟨0, 0, none⟩ = some (.int .i64 m)
theorem MaxL.keeps : Keeps MaxL := fun w w' hb ⟨m, h⟩ => ⟨m, by
 have hl := World.block_lt_of_cell? w _ h
 exact (hb.cell (p := ⟨0, 0, none⟩) hl).trans h⟩
theorem maxL_of {w : World} (h : w.ShapedOpen Tryz.prog) : MaxL w := Tryz.laysM145.s1_3 w h
end Go.Proofs.YtahfcciihkkegaaGreatDoor
namespace Go.Proofs.YtahfcciihkkegaaGreatDoor
open Go.RowKit
theorem wholeD (z : Int) (hz : dI z ≤ 100000) (w : World) : Calls Tryz.prog 98 #[intV z] w fun e w' => e = .returned (fracV (z : Rat)) ∧ Below w.heap.size w w' := by
 have h := fun w => fromF z 1 (by omega) (by omega) (by have := two_d (p := 0) (by omega); exact Nat.le_trans this (by omega)) w
 rw [Rat.mkRat_one] at h
 exact dwhole_w z 0 (z : Rat) one_o h w
theorem ten_o (w : World) : Calls Tryz.prog 52 #[.int .u64 10] w fun e w' => e = .returned (natV 10) ∧ Below w.heap.size w w' := of_val 10 10 rfl (by unfold Bs; omega) w
theorem nb_ten : nb 10 ≤ 4 := by
 obtain ⟨k, h1, h2, -⟩ := nb_spec (n := 10) (by decide)
 rw [h1]
 rcases Nat.lt_or_ge k 4 with g | g
 ·omega
 ·exfalso
  have := Nat.pow_le_pow_right (show 0 < 2 by omega) g
  omega
theorem tensD (n : Nat) (h : n ≤ 100) (w : World) : Calls Tryz.prog 47 #[.int .i64 (n : Int)] w fun e w' => e = .returned (natV (10 ^ n)) ∧ Below w.heap.size w w' :=
 dtens_w n 0 (10 ^ n) ten_o (fun w => pow_ok 10 n (by omega) (by
  rcases Nat.eq_zero_or_pos n with g | g
  ·exact .inl g
  ·refine .inr (Nat.le_trans nb_ten ((Nat.le_div_iff_mul_le g).2 (by omega)))) (by have := ten_d (p := 1) (by omega); exact Nat.le_trans this (by omega)) w) w
theorem zl_one : zl 1 = 1 := by unfold zl; exact lo_small (by unfold Bs; decide)
theorem oddD (z : Int) (hz : dI z ≤ 100000) (w : World) : Calls Tryz.prog 175 #[intV z] w fun e w' => e = .returned (.bool (decide (z % 2 = 1))) ∧ Below w.heap.size w w' := by
 have H2 := fun w => ofI 2 (by decide) (by decide) w
 have H1 := fun w => ofI 1 (by decide) (by decide) w
 have HD := fun w => divI z 2 (by decide) (by omega) (by rw [show dI 2 = (digs 2).length from rfl]; have := two_d (p := 1) (by omega); exact Nat.le_trans this (by omega)) w
 rcases (show z % 2 = 1 ∨ z % 2 = 0 by omega) with h | h
 ·rw [h] at HD ⊢
  exact dodd_yes z _ H2 HD H1 w
 ·rw [h] at HD ⊢
  exact dodd_no z _ 0 H2 HD H1 (by rw [z0.1, zl_one]; rfl) (by rw [z0.1, zl_one]; rfl) (by rw [z0.1, zl_one]; decide) w
theorem nearD (a : Rat) (k : Nat) (ha : Sz a k) (hk : k ≤ 10000) (w : World) : Calls Tryz.prog 151 #[fracV a] w fun e w' => e = .returned (.bool (nearUp a)) ∧ Below w.heap.size w w' := by
 have HF := floorF a k ha (by omega)
 have hd := floor_d ha
 have HH := fun w => ofF 1 2 (by decide) (by decide) (by decide) (by decide) (by decide) w
 have eh : ((1 : Int) : Rat) / ((2 : Int) : Rat) = mkRat 1 2 := by decide +kernel
 rw [eh] at HH
 have HW := wholeD a.floor (by omega)
 have sf : Sz (a.floor : Rat) (k + 1) := Sz.int (Nat.le_trans hd (by omega)) (by omega)
 have HB := subF a (a.floor : Rat) (k + 1) (ha.mono (by omega)) sf (by omega)
 have HC := cmpF (a - (a.floor : Rat)) (mkRat 1 2) (k + k + 3) ((ha.sub sf).mono (by omega)) ((szc (mkRat 1 2) (by decide +kernel) (by decide +kernel)).mono (by omega)) (by omega)
 unfold nearUp
 by_cases h1 : a - (a.floor : Rat) < mkRat 1 2
 ·rw [if_pos h1]
  rw [show cmpQ (a - (a.floor : Rat)) (mkRat 1 2) = -1 by unfold cmpQ; rw [if_pos h1]] at HC
  exact dnear_lt a _ _ _ _ _ HF HH HW HB HC w
 ·rw [if_neg h1]
  by_cases h2 : a - (a.floor : Rat) = mkRat 1 2
  ·rw [if_pos h2]
   rw [show cmpQ (a - (a.floor : Rat)) (mkRat 1 2) = 0 by unfold cmpQ; rw [if_neg h1, if_pos h2]] at HC
   exact dnear_eq a _ _ _ _ _ _ HF HH HW HB HC (oddD a.floor (by omega)) w
  ·rw [if_neg h2]
   rw [show cmpQ (a - (a.floor : Rat)) (mkRat 1 2) = 1 by unfold cmpQ; rw [if_neg h1, if_neg h2]] at HC
   exact dnear_gt a _ _ _ _ _ HF HH HW HB HC w
theorem toID (a : Rat) (v : Int) (k : Nat) (ha : Sz a k) (hk : k ≤ 10000) (hv : 1 ≤ v ∧ v ≤ 3) (w : World) : Calls Tryz.prog 97 #[fracV a, .int .i64 v] w fun e w' => e = .returned (intV (toI v a)) ∧ Below w.heap.size w w' := by
 have HF := floorF a k ha (by omega)
 have HC := ceilF a k ha (by omega)
 have HN := nearD a k ha hk
 rcases (show v = 1 ∨ v = 2 ∨ v = 3 by omega) with rfl | rfl | rfl
 ·exact dtoi_down a _ HF w
 ·exact dtoi_up a _ HC w
 ·cases h : nearUp a with
  | false => rw [h] at HN; rw [show toI 3 a = a.floor by unfold toI; rw [if_pos rfl, h]; rfl]; exact dtoi_low a _ HN HF w
  | true => rw [h] at HN; rw [show toI 3 a = rceil a by unfold toI; rw [if_pos rfl, h]; rfl]; exact dtoi_high a _ HN HC w
/-- The code with which rounding to n places in the mode v ends. -/
def rdC (n v : Int) : Int := if n < 0 then 1 else if 100 < n then 3 else if v < 1 ∨ 3 < v then 1 else 0
theorem roundD (a : Rat) (p : Nat) (v : Int) (k : Nat) (ha : Sz a k) (hk : k ≤ 5000) (hp : p ≤ 100) (hv : 1 ≤ v ∧ v ≤ 3) (w : World) :
  Calls Tryz.prog 12 #[fracV a, .int .i64 (p : Int), .int .i64 v] w fun e w' => e = .returned (.tuple #[fracV (rnd v p a), .int .i64 0]) ∧ Below w.heap.size w w' := by
 have HT := tensD p hp
 have HI := fun w => fromI false (10 ^ p) ((10 ^ p : Nat) : Int) rfl w
 have hd : dI ((10 ^ p : Nat) : Int) ≤ 6 := by rw [dI_nat]; exact ten_d hp
 have HW := wholeD ((10 ^ p : Nat) : Int) (by omega)
 have et : (((10 ^ p : Nat) : Int) : Rat) = tenQ p := rfl
 rw [et] at HW
 have HM := mulF a (tenQ p) (k + 6) (ha.mono (by omega)) ((ten_sz hp).mono (by omega)) (by omega)
 have HN := toID (a * tenQ p) v (k + 6) (ha.mul (ten_sz hp)) (by omega) hv
 have HR := drnd_ok a _ _ (p : Int) v _ _ _ HT HI HW HM HN (decide_eq_false (by omega)) (decide_eq_false (by omega)) (decide_eq_false (by omega)) (decide_eq_false (by omega))
 have hz := toI_d v (ha.mul (ten_sz hp))
 have hpos := tenN_pos p
 have HF := fromF (toI v (a * tenQ p)) (10 ^ p) (by omega) (by omega) (by have := ten_d hp; omega)
 have e : mkRat (toI v (a * tenQ p)) (10 ^ p) = rnd v p a := by unfold rnd; rw [Rat.mkRat_eq_div]; rfl
 rw [e] at HF
 exact dround_ok a _ (p : Int) v _ 0 _ HR HT HF w
theorem intV_00 : intV 0 = .agg #[.int .u64 0, .string ⟨#[]⟩, .bool false] := by
 show Value.agg #[.int .u64 ((zl 0 : Nat) : Int), .string (zh 0), .bool (zs 0)] = _
 rw [z0.1, z0.2.1, z0.2.2]; rfl
theorem betweenD (a : Rat) (p : Nat) (k : Nat) (ha : Sz a k) (hk : k ≤ 5000) (hp : p ≤ 100) (w : World) :
  Calls Tryz.prog 26 #[fracV a, .int .i64 (p : Int)] w fun e w' => e = .returned (.tuple #[fracV (rnd 1 p a), fracV (rnd 2 p a), .int .i64 0]) ∧ Below w.heap.size w w' :=
 dbetween_ok a _ _ (p : Int) 0 (roundD a p 1 k ha hk hp (by decide)) (roundD a p 2 k ha hk hp (by decide)) w
end Go.Proofs.YtahfcciihkkegaaGreatDoor
namespace Go.Proofs.YtahfcciihkkegaaGreatDoor
open Go.RowKit
attribute [local irreducible] lo hs sm s64 c64 d64 b64 mh ml pd pc qd qc val hiB str cmpI srD lz nb isq
set_option maxHeartbeats 2000000 in
set_option maxRecDepth 100000 in
theorem wbyte_any (B b : Nat) (bs : List Value) (c : Int) (w : World) (h : Lib.IsBuilderF 155 5 B b bs w) (hlen : bs.length + 1 ≤ 140737488355328) (hBw : B ≤ w.heap.size) :
  Calls Tryz.prog 108 #[.pointer (some ⟨b, 0, none⟩), .int .u8 c] w fun e w' => e = .returned .nilIface ∧ (Lib.IsBuilderF 155 5 B b (bs ++ [.int .u8 c]) w' ∧ Below B w w' ∧ Lib.OthersKept 5 (some b) w w') := by
 obtain ⟨i0, hi, hz0, hz1, hz2⟩ := info_parts infoU8
 go_enter Tryz.func108, Tryz.ntmps108
 go_wp2_with (go_at_call 158; refine (check_any B b bs _ h).mono ?_)
 rintro e w1 ⟨rfl, h1, hb1, hk1⟩
 obtain ⟨hB, v, hbk, hown, hne⟩ := h1
 have c0 : w1.cell? ⟨b, 0, none⟩ = some (.pointer (some ⟨b, 0, none⟩)) := by rw [Lib.cell_of_heap hbk]; rfl
 have c1 : w1.cell? ⟨b, 1, none⟩ = some v := by rw [Lib.cell_of_heap hbk]; rfl
 go_wp2_with (at_builtin; refine wpList_append_ownF _ rfl _ _ 153 rfl B 5 i0 (.int .u8 0) 1 1 Tryz.underlying153 hi hz0 hz1 hz2 rfl (by decide) _ _ _ rfl (hown.alloc _) ⟨w1.heap.size, 0, none⟩ 1 1 [.int .u8 c] rfl rfl ?c1 ?c2 ?c3 ?c4 ?c5 ?_)
 case c1 =>
  intro j u hj
  match j, hj with
  | 0, hj => simp at hj; subst hj; simp [Addr.add]
 case c2 => intro u hu; simp at hu; subst hu; rfl
 case c3 => unfold maxLen; omega
 case c4 => omega
 case c5 => have := hb1.size; simp; omega
 intro v' w2 hown' hgrow _
 have hlt : b < w1.heap.size := by
  rcases Nat.lt_or_ge b w1.heap.size with h' | h'
  ·exact h'
  ·simp [Array.getElem?_eq_none h'] at hbk
 have hb2 : w2.heap[b]? = some (.cells #[.pointer (some ⟨b, 0, none⟩), v] 155 (0, 0)) := by
  rw [hgrow.block b (by simp; omega) (fun e => hne e.symm), Lib.alloc_old w1 _ b hlt]
  exact hbk
 have d0 : w2.cell? ⟨b, 0, none⟩ = some (.pointer (some ⟨b, 0, none⟩)) := by rw [Lib.cell_of_heap hb2]; rfl
 have d1 : w2.cell? ⟨b, 1, none⟩ = some v := by rw [Lib.cell_of_heap hb2]; rfl
 have f1 : w2.frozen? ⟨b, 1, none⟩ = false := Lib.frozen_of_heap hb2 1
 obtain ⟨g, cap, rfl⟩ : ∃ g cap, v' = .slice (some ⟨g, 0, none⟩) (bs.length + 1) cap := by
  rcases hown'.2 with ⟨_, h0⟩ | ⟨g, cap, cur, fz, hv, _⟩
  ·omega
  ·exact ⟨g, cap, hv⟩
 go_wp2
 go_ret
 refine ⟨rfl, ?_, ?_, ((hk1.alloc _).grown hgrow (Lib.ownsRowF_kind (hown.alloc _))).setCell ⟨b, 1, none⟩ rfl _⟩
 ·exact .inr (Lib.BuilderAtF.put (T := 155) (e := 5) hB hb2 (bs' := bs ++ [.int .u8 c]) (by simpa using hown') (by decide))
 ·exact ((hb1.alloc (by have := hb1.size; omega) _).grown hgrow (by have := hb1.size; simp; omega) (fun k hk => (hown.lt k hk).1)).setCell (p := ⟨b, 1, none⟩) hB _
theorem kept_below {w0 w w' : World} {b : Nat} (h : Lib.OthersKept 5 (some b) w0 w) (hb : Below w.heap.size w w') : Lib.OthersKept 5 (some b) w0 w' := fun k o hk hkb ho => by
 have h1 := h k o hk hkb ho
 rw [hb.block k (Array.getElem?_eq_some_iff.1 h1).1]; exact h1
theorem wbyte_l (B b : Nat) (l : List UInt8) (c : UInt8) (w : World) (h : Lib.IsBuilderF 155 5 B b (Lib.byteCells l) w) (hlen : l.length + 1 ≤ 140737488355328) (hBw : B ≤ w.heap.size) :
  Calls Tryz.prog 108 #[.pointer (some ⟨b, 0, none⟩), .int .u8 c.toNat] w fun e w' => e = .returned .nilIface ∧ Lib.IsBuilderF 155 5 B b (Lib.byteCells (l ++ [c])) w' ∧ Below B w w' ∧ Lib.OthersKept 5 (some b) w w' := by
 refine (wbyte_any B b (Lib.byteCells l) c.toNat w h (by rw [Lib.byteCells_length]; exact hlen) hBw).mono ?_
 rintro e w' ⟨rfl, h1, h2, h3⟩
 refine ⟨rfl, ?_, h2, h3⟩
 rw [Lib.byteCells_append]; exact h1
theorem wstr_l (B b : Nat) (l m : List UInt8) (w : World) (h : Lib.IsBuilderF 155 5 B b (Lib.byteCells l) w) (hlen : l.length + m.length ≤ 140737488355328) (hBw : B ≤ w.heap.size) :
  Calls Tryz.prog 109 #[.pointer (some ⟨b, 0, none⟩), .string ⟨m.toArray⟩] w fun e w' => e = .returned (.tuple #[.int .i64 m.length, .nilIface]) ∧ Lib.IsBuilderF 155 5 B b (Lib.byteCells (l ++ m)) w' ∧ Below B w w' ∧ Lib.OthersKept 5 (some b) w w' := by
 refine (write_any B b (Lib.byteCells l) ⟨m.toArray⟩ w h (by rw [Lib.byteCells_length]; exact hlen) hBw).mono ?_
 rintro e w' ⟨rfl, h1, h2, h3⟩
 refine ⟨rfl, ?_, h2, h3⟩
 rw [Lib.byteCells_append]; exact h1
end Go.Proofs.YtahfcciihkkegaaGreatDoor
namespace Go.Proofs.YtahfcciihkkegaaGreatDoor
open Go.RowKit
theorem dvd_ten (m t c : Nat) (h0 : 0 < m) : m ∣ t * c ↔ m / Nat.gcd m t ∣ c := by
 have hg : 0 < Nat.gcd m t := Nat.gcd_pos_of_pos_left t h0
 have hm : Nat.gcd m t * (m / Nat.gcd m t) = m := Nat.mul_div_cancel' (Nat.gcd_dvd_left m t)
 have ht : Nat.gcd m t * (t / Nat.gcd m t) = t := Nat.mul_div_cancel' (Nat.gcd_dvd_right m t)
 have hc : Nat.Coprime (m / Nat.gcd m t) (t / Nat.gcd m t) := Nat.coprime_div_gcd_div_gcd hg
 constructor
 ·intro h
  have h1 : Nat.gcd m t * (m / Nat.gcd m t) ∣ Nat.gcd m t * (t / Nat.gcd m t * c) := by
   rw [hm, ← Nat.mul_assoc, ht]; exact h
  exact hc.dvd_of_dvd_mul_left (Nat.dvd_of_mul_dvd_mul_left hg h1)
 ·intro h
  have h1 : Nat.gcd m t * (m / Nat.gcd m t) ∣ t * c := by
   rw [← ht, Nat.mul_assoc]
   rw [ht]
   exact Nat.mul_dvd_mul_left _ (Nat.dvd_mul_left_of_dvd h _)
  rwa [hm] at h1
/-- What is left of a denominator behind n leading digits. -/
def Eden (D : Nat) : Nat → Nat
 | 0 => D
 | n + 1 => Eden D n / Nat.gcd (Eden D n) 10
theorem Eden_pos {D : Nat} (h : 0 < D) : ∀ n, 0 < Eden D n
 | 0 => h
 | n + 1 => Nat.div_pos (Nat.gcd_le_left 10 (Eden_pos h n)) (Nat.gcd_pos_of_pos_left 10 (Eden_pos h n))
theorem Eden_dvd {D : Nat} (h : 0 < D) (n : Nat) : ∀ c, D ∣ 10 ^ n * c ↔ Eden D n ∣ c := by
 induction n with
 | zero => intro c; simp [Eden]
 | succ n ih =>
  intro c
  rw [Nat.pow_succ, Nat.mul_assoc, ih, dvd_ten _ _ _ (Eden_pos h n)]; rfl
theorem Eden_le {D : Nat} : ∀ n, Eden D n ≤ D
 | 0 => Nat.le_refl _
 | n + 1 => Nat.le_trans (Nat.div_le_self _ _) (Eden_le n)
/-- k leading digits: what is left has nothing in common with 10, and not before. -/
structure Lead (D k : Nat) : Prop where
 one : Nat.gcd (Eden D k) 10 = 1
 bef : ∀ i, i < k → Nat.gcd (Eden D i) 10 ≠ 1
theorem Eden_stay {D k : Nat} (h : Nat.gcd (Eden D k) 10 = 1) : ∀ i, Eden D (k + i) = Eden D k
 | 0 => rfl
 | i + 1 => by
  show Eden D (k + i) / Nat.gcd (Eden D (k + i)) 10 = Eden D k
  rw [Eden_stay h i, h, Nat.div_one]
theorem Lead.stay {D k m : Nat} (h : Lead D k) (hm : k ≤ m) : Eden D m = Eden D k := by
 have := Eden_stay h.one (m - k)
 rwa [Nat.add_sub_cancel' hm] at this
theorem Lead.uniq {D k m : Nat} (h : Lead D k) (g : Lead D m) : k = m := by
 rcases Nat.lt_trichotomy k m with h1 | h1 | h1
 ·exact absurd h.one (g.bef k h1)
 ·exact h1
 ·exact absurd g.one (h.bef m h1)
theorem ten_dvd {n : Nat} (h : 0 < n) : 10 ∣ 10 ^ n := by
 obtain ⟨m, rfl⟩ : ∃ m, n = m + 1 := ⟨n - 1, by omega⟩
 rw [Nat.pow_succ]; exact Nat.dvd_mul_left _ _
theorem dvd_nines {e n : Nat} (h : 0 < n) (hd : e ∣ 10 ^ n - 1) : Nat.gcd e 10 = 1 := by
 have h1 : Nat.gcd e 10 ∣ 10 ^ n - 1 := Nat.dvd_trans (Nat.gcd_dvd_left _ _) hd
 have h2 : Nat.gcd e 10 ∣ 10 ^ n := Nat.dvd_trans (Nat.gcd_dvd_right _ _) (ten_dvd h)
 have hp : 0 < 10 ^ n := Nat.pow_pos (by decide)
 have h3 : Nat.gcd e 10 ∣ 10 ^ n - (10 ^ n - 1) := Nat.dvd_sub h2 h1
 have h4 : 10 ^ n - (10 ^ n - 1) = 1 := by omega
 rw [h4] at h3
 exact Nat.dvd_one.1 h3
/-- A number times 10^m times 10^n - 1 is an integer exactly behind the leading digits and for a multiple of the period. -/
theorem Lead.round {D k : Nat} (h0 : 0 < D) (h : Lead D k) (m n : Nat) (hn : 0 < n) : D ∣ 10 ^ m * (10 ^ n - 1) ↔ k ≤ m ∧ Eden D k ∣ 10 ^ n - 1 := by
 rw [Eden_dvd h0]
 constructor
 ·intro hd
  have hk : k ≤ m := by
   rcases Nat.lt_or_ge m k with h1 | h1
   ·exact absurd (dvd_nines hn hd) (h.bef m h1)
   ·exact h1
  rw [h.stay hk] at hd
  exact ⟨hk, hd⟩
 ·rintro ⟨hk, hd⟩
  rw [h.stay hk]; exact hd
theorem Lead.ends {D k : Nat} (h0 : 0 < D) (h : Lead D k) (m : Nat) : D ∣ 10 ^ m ↔ k ≤ m ∧ Eden D k = 1 := by
 have e := Eden_dvd h0 m 1
 rw [Nat.mul_one] at e
 rw [e, Nat.dvd_one]
 constructor
 ·intro hd
  have hk : k ≤ m := by
   rcases Nat.lt_or_ge m k with h1 | h1
   ·exact absurd (by rw [hd]; rfl) (h.bef m h1)
   ·exact h1
  rw [h.stay hk] at hd
  exact ⟨hk, hd⟩
 ·rintro ⟨hk, hd⟩
  rw [h.stay hk]; exact hd
end Go.Proofs.YtahfcciihkkegaaGreatDoor
namespace Go.Proofs.YtahfcciihkkegaaGreatDoor
open Go.RowKit
attribute [local irreducible] lo hs sm s64 c64 d64 b64 mh ml pd pc qd qc val hiB str cmpI srD lz nb isq decB zl zh zs fe
set_option maxHeartbeats 16000000 in
set_option maxRecDepth 100000 in
theorem dlead_w (D : Nat) (R : Value)
  (HT : ∀ w, Calls Tryz.prog 52 #[.int .u64 10] w fun xe w' => xe = .returned (natV 10) ∧ Below w.heap.size w w')
  (HO : ∀ w, Calls Tryz.prog 52 #[.int .u64 1] w fun xe w' => xe = .returned (natV 1) ∧ Below w.heap.size w w')
  (hsz : (digs D).length ≤ 1000000) (h1 : ∀ i d : Nat, i ≤ 100 → d = Eden D i → Nat.gcd d 10 = 1 → (∀ j, j < i → Nat.gcd (Eden D j) 10 ≠ 1) → R = .tuple #[.int .i64 (i : Int), natV d]) (h2 : (∀ j, j ≤ 100 → Nat.gcd (Eden D j) 10 ≠ 1) → R = .tuple #[.int .i64 101, natV (Eden D 101)]) (w : World) :
  Calls Tryz.prog 74 #[natV D] w fun xe w' => xe = .returned R ∧ Below w.heap.size w w' := by
 replace HT := Lib.hid HT
 replace HO := Lib.hid HO
 replace hsz := Lib.hid hsz
 replace h1 := Lib.hid h1
 replace h2 := Lib.hid h2
 have hL0 : GL w w [] := GL.start w
 replace hL0 := ((hL0.new rfl [.int .u64 ((lo D : Nat) : Int), .string (hs D)] 30).new (K := w.heap.size + 1) (szA _ _) [.int .u64 0, .string ⟨#[]⟩] 30)
 generalize hweq : ((w.alloc (.cells #[.int .u64 ((lo D : Nat) : Int), .string (hs D)] 30)).alloc (.cells #[.int .u64 0, .string ⟨#[]⟩] 30)) = x1 at hL0
 go_enter Tryz.func74, Tryz.ntmps74
 go_wp2_with fail
 clear hweq
 go_loopg [6] 101 (fun gk iv wr => ∃ (i d : Nat), i + gk = 101 ∧ iv = .int .i64 (i : Int) ∧ d = Eden D i ∧ (∀ j, j < i → Nat.gcd (Eden D j) 10 ≠ 1) ∧ GL w wr [(w.heap.size + 1, [.int .u64 0, .string ⟨#[]⟩]), (w.heap.size, [.int .u64 ((lo d : Nat) : Int), .string (hs d)])])
 case atStart => exact ⟨0, _, rfl, by first | rfl | go_num, rfl, (fun j h => absurd h (Nat.not_lt_zero _)), hL0⟩
 case round =>
  clear hL0
  obtain ⟨i, d, hik, rfl, hd, hbef, hL0⟩ := hrel
  by_cases hin : i < 101
  ·have k1 : (i : Int) < 101 := by omega
   have kb : (i : Int) ≤ 101 := by omega
   have k0 : (0 : Int) ≤ (i : Int) := by omega
   have hdD : (digs d).length ≤ 1000000 := by rw [hd]; exact Nat.le_trans (digs_mono (Eden_le i)) hsz.out
   have HG := Lib.hid (fun w => gcd_any d 10 (by omega) (Nat.le_trans (digs_length_iff.2 (show 10 < Bs ^ 1 by rw [Nat.pow_one]; unfold Bs; decide)) (by omega)) w)
   obtain ⟨g, hg⟩ : ∃ g, g = Nat.gcd d 10 := ⟨_, rfl⟩
   rw [← hg] at HG
   have hg0 : 0 < g := by rw [hg]; exact Nat.gcd_pos_of_pos_right _ (by decide)
   by_cases hg1 : g = 1
   ·have hR := Lib.hid (h1.out i d (by omega) hd (by rw [← hg, hg1]) hbef)
    subst hg1
    clear hg hd hbef hg0
    go_upto_region 4 with fail
    refine region_gh (by kernel_rfl) (by kernel_rfl) ?_
    refine lex_seg (gl := []) 3 (by kernel_rfl) ?_
    intro α iα F hF1 hF2
    have hq := GL.seg hF1 hL0
    simp only [fcC, cellsC, and_true, Nat.zero_add, Nat.reduceAdd] at hq
    simp only [List.take_succ_cons, List.take_zero, List.drop_succ_cons, List.drop_zero, List.take_nil, List.drop_nil]
    repeat (go_big_quiet_step (first | fail | (go_at_call 52; with_reducible exact seg_call hF2 HT.out _) | (go_at_call 136; with_reducible exact seg_call hF2 HG.out _)))
    refine wpQuiet_nil ?_
    clear hq hF1 hF2 iα F α
    refine lex_new [.int .u64 0, .string ⟨#[]⟩] 5 30 30 rfl rfl (of_decide_eq_true (by kernel_rfl)) (by kernel_rfl) rfl new_natc ?_
    simp only [Act.put, List.setIfInBounds_toArray, List.set_cons_succ, List.set_cons_zero]
    refine lex_put [.int .u64 ((lo 1 : Nat) : Int), .string (hs 1)] [.int .u64 0, .string ⟨#[]⟩] 5 30 (.tmp 11) rfl (by kernel_rfl) (by simp [toG, upd]) rfl (fun w k h => put_natc _ _ _ _ w k h) ?_
    simp only [Act.put]
    refine lexG_nil ?_
    intro κ x2 hS
    replace hL0 := hL0.ghs hS [(5, [.int .u64 ((lo 1 : Nat) : Int), .string (hs 1)])] (by simp) (by intro p hp; simp only [List.mem_cons, List.not_mem_nil, or_false] at hp; rcases hp with rfl <;> exact ⟨_, by simp only [toG, upd]; rfl⟩)
    simp only [List.map_cons, List.map_nil, List.cons_append, List.nil_append] at hL0
    simp only [over_toG, over_nil, Act.put, List.setIfInBounds_toArray, List.set_cons_succ, List.set_cons_zero]
    clear hS
    generalize κ 5 = k2_5 at *
    go_upto_region 5 with fail
    obtain ⟨α, iα, F, hF1, hF2⟩ := cls x2
    have hq0 := cls_box hF1 hL0 _ _ List.mem_cons_self
    simp only [cellsC, and_true, Nat.zero_add, Nat.reduceAdd] at hq0
    refine region_qs 3 (C := fun w' => ∃ x, w' = F x) (by kernel_rfl) (by kernel_rfl) (cls_drew hF2) ?_
    simp only [List.take_succ_cons, List.take_zero, List.drop_succ_cons, List.drop_zero, List.take_nil, List.drop_nil]
    repeat (go_big_quiet_step (first | fail | (go_at_call 52; with_reducible exact cls_call hF1 hF2 HO.out _)))
    refine wpQuiet_nil ?_
    rintro wq ⟨xq, rfl⟩
    replace hL0 := hL0.call (hF1 xq)
    clear  hq0 hF2
    generalize F xq = x3 at hL0 ⊢
    clear hF1 xq iα F α
    go_upto_region 6 with fail
    obtain ⟨α, iα, F, hF1, hF2⟩ := cls x3
    have hq0 := cls_box hF1 hL0 _ _ (List.mem_cons_of_mem _ (List.mem_cons_of_mem _ List.mem_cons_self))
    simp only [cellsC, and_true, Nat.zero_add, Nat.reduceAdd] at hq0
    refine region_qs 3 (C := fun w' => ∃ x, w' = F x) (by kernel_rfl) (by kernel_rfl) (cls_drew hF2) ?_
    simp only [List.take_succ_cons, List.take_zero, List.drop_succ_cons, List.drop_zero, List.take_nil, List.drop_nil]
    repeat (go_big_quiet_step (first | fail))
    refine wpQuiet_nil ?_
    rintro wq ⟨xq, rfl⟩
    replace hL0 := hL0.call (hF1 xq)
    clear  hq0 hF2
    generalize F xq = x4 at hL0 ⊢
    clear hF1 xq iα F α
    have hA := hL0.fc
    simp only [fcG, cellsF, neK, and_true, ne_eq, Nat.zero_add, Nat.reduceAdd] at hA
    have hP := hL0.put 1 (w.heap.size + 1) _ rfl [.int .u64 ((lo d : Nat) : Int), .string (hs d)] rfl
    simp only [setAll, List.set_cons_zero, List.set_cons_succ] at hP
    generalize hput1 : ((x4.setCell ⟨w.heap.size + 1, 0, none⟩ (.int .u64 ((lo d : Nat) : Int))).setCell ⟨w.heap.size + 1, 1, none⟩ (.string (hs d))) = x5 at hP
    have hB1 := hP.fc
    simp only [fcG, cellsF, neK, and_true, ne_eq, Nat.zero_add, Nat.reduceAdd] at hB1
    replace hL0 := hP
    go_wp2_with fail
    exact bodyPost_ret (v := .tuple #[.int .i64 (i : Int), .agg #[.int .u64 ((lo d : Nat) : Int), .string (hs d)]]) (by simp [results, Tryz.results74, go_sem, hB1]) rfl ⟨by rw [hR.out], hL0.bl⟩
   ·have hne := ne_nat hg1
    have HD := Lib.hid (fun w => div_pos d g hg0 (by omega) w)
    have hb2 := Lib.hid (show ∀ j, j < i + 1 → Nat.gcd (Eden D j) 10 ≠ 1 from fun j hj => by
      rcases Nat.lt_or_ge j i with q | q
      ·exact hbef j q
      ·obtain rfl : j = i := by omega
       rw [← hd, ← hg]; exact hg1)
    obtain ⟨e, he⟩ : ∃ e, e = d / g := ⟨_, rfl⟩
    have hnx := Lib.hid (show e = Eden D (i + 1) from by rw [he, hg, hd]; rfl)
    rw [← he] at HD
    obtain ⟨r, hr⟩ : ∃ r, r = d % g := ⟨_, rfl⟩
    rw [← hr] at HD
    clear he hr hg hd hbef hg0 hg1 hdD
    rcases hne with e0 | ⟨e0, e1⟩
    ·have kk : 0 ≤ i := Nat.zero_le _
     go_upto_region 4 with fail
     refine region_gh (by kernel_rfl) (by kernel_rfl) ?_
     refine lex_seg (gl := []) 3 (by kernel_rfl) ?_
     intro α iα F hF1 hF2
     have hq := GL.seg hF1 hL0
     simp only [fcC, cellsC, and_true, Nat.zero_add, Nat.reduceAdd] at hq
     simp only [List.take_succ_cons, List.take_zero, List.drop_succ_cons, List.drop_zero, List.take_nil, List.drop_nil]
     repeat (go_big_quiet_step (first | fail | (go_at_call 52; with_reducible exact seg_call hF2 HT.out _) | (go_at_call 136; with_reducible exact seg_call hF2 HG.out _)))
     refine wpQuiet_nil ?_
     clear hq hF1 hF2 iα F α
     refine lex_new [.int .u64 0, .string ⟨#[]⟩] 5 30 30 rfl rfl (of_decide_eq_true (by kernel_rfl)) (by kernel_rfl) rfl new_natc ?_
     simp only [Act.put, List.setIfInBounds_toArray, List.set_cons_succ, List.set_cons_zero]
     refine lex_put [.int .u64 ((lo g : Nat) : Int), .string (hs g)] [.int .u64 0, .string ⟨#[]⟩] 5 30 (.tmp 11) rfl (by kernel_rfl) (by simp [toG, upd]) rfl (fun w k h => put_natc _ _ _ _ w k h) ?_
     simp only [Act.put]
     refine lexG_nil ?_
     intro κ x2 hS
     replace hL0 := hL0.ghs hS [(5, [.int .u64 ((lo g : Nat) : Int), .string (hs g)])] (by simp) (by intro p hp; simp only [List.mem_cons, List.not_mem_nil, or_false] at hp; rcases hp with rfl <;> exact ⟨_, by simp only [toG, upd]; rfl⟩)
     simp only [List.map_cons, List.map_nil, List.cons_append, List.nil_append] at hL0
     simp only [over_toG, over_nil, Act.put, List.setIfInBounds_toArray, List.set_cons_succ, List.set_cons_zero]
     clear hS
     generalize κ 5 = k2_5 at *
     go_upto_region 5 with fail
     obtain ⟨α, iα, F, hF1, hF2⟩ := cls x2
     have hq0 := cls_box hF1 hL0 _ _ List.mem_cons_self
     simp only [cellsC, and_true, Nat.zero_add, Nat.reduceAdd] at hq0
     refine region_qs 3 (C := fun w' => ∃ x, w' = F x) (by kernel_rfl) (by kernel_rfl) (cls_drew hF2) ?_
     simp only [List.take_succ_cons, List.take_zero, List.drop_succ_cons, List.drop_zero, List.take_nil, List.drop_nil]
     repeat (go_big_quiet_step (first | fail | (go_at_call 52; with_reducible exact cls_call hF1 hF2 HO.out _)))
     refine wpQuiet_nil ?_
     rintro wq ⟨xq, rfl⟩
     replace hL0 := hL0.call (hF1 xq)
     clear  hq0 hF2
     generalize F xq = x3 at hL0 ⊢
     clear hF1 xq iα F α
     have hN0 := cells_of _ 0 [] rfl (hL0.get _ _ List.mem_cons_self)
     simp only [cellsF, and_true, Nat.zero_add, Nat.reduceAdd] at hN0
     have hN1 := cells_of _ 0 [] rfl (hL0.get _ _ (List.mem_cons_of_mem _ (List.mem_cons_of_mem _ List.mem_cons_self)))
     simp only [cellsF, and_true, Nat.zero_add, Nat.reduceAdd] at hN1
     go_wp2_with fail
     clear hN0 hN1
     with_reducible refine Calls.mono (HD.out _) ?_
     rintro e x4 ⟨rfl, hb⟩
     replace hL0 := hL0.call hb
     clear hb
     have hA := hL0.fc
     simp only [fcG, cellsF, neK, and_true, ne_eq, Nat.zero_add, Nat.reduceAdd] at hA
     have hP := hL0.put 2 (w.heap.size) _ rfl [.int .u64 ((lo e : Nat) : Int), .string (hs e)] rfl
     simp only [setAll, List.set_cons_zero, List.set_cons_succ] at hP
     generalize hput1 : ((x4.setCell ⟨w.heap.size, 0, none⟩ (.int .u64 ((lo e : Nat) : Int))).setCell ⟨w.heap.size, 1, none⟩ (.string (hs e))) = x5 at hP
     have hB1 := hP.fc
     simp only [fcG, cellsF, neK, and_true, ne_eq, Nat.zero_add, Nat.reduceAdd] at hB1
     replace hL0 := hP
     go_wp2_with fail
     go_roundg (gk - 1)
     case measure => omega
     case rel => exact ⟨i + 1, e, by omega, by first | rfl | go_num, hnx.out, hb2.out, hL0.weak (List.Sublist.cons _ (List.Sublist.refl _))⟩
    ·have kk : 0 ≤ i := Nat.zero_le _
     go_upto_region 4 with fail
     refine region_gh (by kernel_rfl) (by kernel_rfl) ?_
     refine lex_seg (gl := []) 3 (by kernel_rfl) ?_
     intro α iα F hF1 hF2
     have hq := GL.seg hF1 hL0
     simp only [fcC, cellsC, and_true, Nat.zero_add, Nat.reduceAdd] at hq
     simp only [List.take_succ_cons, List.take_zero, List.drop_succ_cons, List.drop_zero, List.take_nil, List.drop_nil]
     repeat (go_big_quiet_step (first | fail | (go_at_call 52; with_reducible exact seg_call hF2 HT.out _) | (go_at_call 136; with_reducible exact seg_call hF2 HG.out _)))
     refine wpQuiet_nil ?_
     clear hq hF1 hF2 iα F α
     refine lex_new [.int .u64 0, .string ⟨#[]⟩] 5 30 30 rfl rfl (of_decide_eq_true (by kernel_rfl)) (by kernel_rfl) rfl new_natc ?_
     simp only [Act.put, List.setIfInBounds_toArray, List.set_cons_succ, List.set_cons_zero]
     refine lex_put [.int .u64 ((lo g : Nat) : Int), .string (hs g)] [.int .u64 0, .string ⟨#[]⟩] 5 30 (.tmp 11) rfl (by kernel_rfl) (by simp [toG, upd]) rfl (fun w k h => put_natc _ _ _ _ w k h) ?_
     simp only [Act.put]
     refine lexG_nil ?_
     intro κ x2 hS
     replace hL0 := hL0.ghs hS [(5, [.int .u64 ((lo g : Nat) : Int), .string (hs g)])] (by simp) (by intro p hp; simp only [List.mem_cons, List.not_mem_nil, or_false] at hp; rcases hp with rfl <;> exact ⟨_, by simp only [toG, upd]; rfl⟩)
     simp only [List.map_cons, List.map_nil, List.cons_append, List.nil_append] at hL0
     simp only [over_toG, over_nil, Act.put, List.setIfInBounds_toArray, List.set_cons_succ, List.set_cons_zero]
     clear hS
     generalize κ 5 = k2_5 at *
     go_upto_region 5 with fail
     obtain ⟨α, iα, F, hF1, hF2⟩ := cls x2
     have hq0 := cls_box hF1 hL0 _ _ List.mem_cons_self
     simp only [cellsC, and_true, Nat.zero_add, Nat.reduceAdd] at hq0
     refine region_qs 3 (C := fun w' => ∃ x, w' = F x) (by kernel_rfl) (by kernel_rfl) (cls_drew hF2) ?_
     simp only [List.take_succ_cons, List.take_zero, List.drop_succ_cons, List.drop_zero, List.take_nil, List.drop_nil]
     repeat (go_big_quiet_step (first | fail | (go_at_call 52; with_reducible exact cls_call hF1 hF2 HO.out _)))
     refine wpQuiet_nil ?_
     rintro wq ⟨xq, rfl⟩
     replace hL0 := hL0.call (hF1 xq)
     clear  hq0 hF2
     generalize F xq = x3 at hL0 ⊢
     clear hF1 xq iα F α
     have hN0 := cells_of _ 0 [] rfl (hL0.get _ _ List.mem_cons_self)
     simp only [cellsF, and_true, Nat.zero_add, Nat.reduceAdd] at hN0
     have hN1 := cells_of _ 0 [] rfl (hL0.get _ _ (List.mem_cons_of_mem _ (List.mem_cons_of_mem _ List.mem_cons_self)))
     simp only [cellsF, and_true, Nat.zero_add, Nat.reduceAdd] at hN1
     go_wp2_with fail
     clear hN0 hN1
     with_reducible refine Calls.mono (HD.out _) ?_
     rintro e x4 ⟨rfl, hb⟩
     replace hL0 := hL0.call hb
     clear hb
     have hA := hL0.fc
     simp only [fcG, cellsF, neK, and_true, ne_eq, Nat.zero_add, Nat.reduceAdd] at hA
     have hP := hL0.put 2 (w.heap.size) _ rfl [.int .u64 ((lo e : Nat) : Int), .string (hs e)] rfl
     simp only [setAll, List.set_cons_zero, List.set_cons_succ] at hP
     generalize hput1 : ((x4.setCell ⟨w.heap.size, 0, none⟩ (.int .u64 ((lo e : Nat) : Int))).setCell ⟨w.heap.size, 1, none⟩ (.string (hs e))) = x5 at hP
     have hB1 := hP.fc
     simp only [fcG, cellsF, neK, and_true, ne_eq, Nat.zero_add, Nat.reduceAdd] at hB1
     replace hL0 := hP
     go_wp2_with fail
     go_roundg (gk - 1)
     case measure => omega
     case rel => exact ⟨i + 1, e, by omega, by first | rfl | go_num, hnx.out, hb2.out, hL0.weak (List.Sublist.cons _ (List.Sublist.refl _))⟩
  ·obtain rfl : i = 101 := by omega
   have k1 : ¬ ((101 : Nat) : Int) < 101 := by decide
   have hR := Lib.hid (h2.out (fun j hj => hbef j (by omega)))
   rw [← hd] at hR
   clear hd hbef hik
   go_upto_region 9 with fail
   obtain ⟨α, iα, F, hF1, hF2⟩ := cls wr
   have hq0 := cls_box hF1 hL0 _ _ (List.mem_cons_of_mem _ List.mem_cons_self)
   simp only [cellsC, and_true, Nat.zero_add, Nat.reduceAdd] at hq0
   refine region_qs 2 (C := fun w' => ∃ x, w' = F x) (by kernel_rfl) (by kernel_rfl) (cls_drew hF2) ?_
   simp only [List.take_succ_cons, List.take_zero, List.drop_succ_cons, List.drop_zero, List.take_nil, List.drop_nil]
   repeat (go_big_quiet_step (first | fail))
   refine wpQuiet_nil ?_
   rintro wq ⟨xq, rfl⟩
   replace hL0 := hL0.call (hF1 xq)
   clear  hq0 hF2
   generalize F xq = x2 at hL0 ⊢
   clear hF1 xq iα F α
   have hA := hL0.fc
   simp only [fcG, cellsF, neK, and_true, ne_eq, Nat.zero_add, Nat.reduceAdd] at hA
   have hP := hL0.put 0 (w.heap.size + 1) _ rfl [.int .u64 ((lo d : Nat) : Int), .string (hs d)] rfl
   simp only [setAll, List.set_cons_zero, List.set_cons_succ] at hP
   generalize hput1 : ((x2.setCell ⟨w.heap.size + 1, 0, none⟩ (.int .u64 ((lo d : Nat) : Int))).setCell ⟨w.heap.size + 1, 1, none⟩ (.string (hs d))) = x3 at hP
   have hB1 := hP.fc
   simp only [fcG, cellsF, neK, and_true, ne_eq, Nat.zero_add, Nat.reduceAdd] at hB1
   replace hL0 := hP
   go_wp2_with fail
   exact bodyPost_ret (v := .tuple #[.int .i64 101, .agg #[.int .u64 ((lo d : Nat) : Int), .string (hs d)]]) (by simp [results, Tryz.results74, go_sem, hB1]) rfl ⟨by rw [hR.out], hL0.bl⟩
set_option maxHeartbeats 16000000 in
set_option maxRecDepth 100000 in
theorem dper_w (d n : Nat) (R : Value)
  (HT : ∀ w, Calls Tryz.prog 52 #[.int .u64 10] w fun xe w' => xe = .returned (natV 10) ∧ Below w.heap.size w w')
  (HO : ∀ w, Calls Tryz.prog 52 #[.int .u64 1] w fun xe w' => xe = .returned (natV 1) ∧ Below w.heap.size w w')
  (hsz : (digs d).length ≤ 1000000) (hd1 : 1 < d) (hn : n ≤ 100) (h1 : ∀ k : Nat, 1 ≤ k → k ≤ n → 10 ^ k % d = 1 → (∀ j, 1 ≤ j → j < k → 10 ^ j % d ≠ 1) → R = .tuple #[.int .i64 (k : Int), .bool true]) (h2 : (∀ j, 1 ≤ j → j ≤ n → 10 ^ j % d ≠ 1) → R = .tuple #[.int .i64 0, .bool false]) (w : World) :
  Calls Tryz.prog 76 #[natV d, .int .i64 (n : Int)] w fun xe w' => xe = .returned R ∧ Below w.heap.size w w' := by
 replace HT := Lib.hid HT
 replace HO := Lib.hid HO
 replace hsz := Lib.hid hsz
 replace hd1 := Lib.hid hd1
 replace hn := Lib.hid hn
 replace h1 := Lib.hid h1
 replace h2 := Lib.hid h2
 have hL0 : GL w w [] := GL.start w
 replace hL0 := (hL0.new rfl [.int .u64 ((lo d : Nat) : Int), .string (hs d)] 30)
 generalize hweq : (w.alloc (.cells #[.int .u64 ((lo d : Nat) : Int), .string (hs d)] 30)) = x1 at hL0
 go_enter Tryz.func76, Tryz.ntmps76
 go_wp2_with fail
 with_reducible refine Calls.mono (HO.out _) ?_
 rintro e x2 ⟨rfl, hb⟩
 replace hL0 := hL0.call hb
 clear hb hweq
 replace hL0 := (hL0.new rfl [.int .u64 ((lo 1 : Nat) : Int), .string (hs 1)] 30)
 generalize hweq : (x2.alloc (.cells #[.int .u64 ((lo 1 : Nat) : Int), .string (hs 1)] 30)) = x3 at hL0
 go_wp2_with fail
 clear hweq
 go_loopg [10] n (fun gk iv wr => ∃ (i r : Nat), i + gk = n ∧ iv = .int .i64 (i : Int) ∧ r = 10 ^ i % d ∧ (∀ j, 1 ≤ j → j ≤ i → 10 ^ j % d ≠ 1) ∧ GL w wr [(x2.heap.size, [.int .u64 ((lo r : Nat) : Int), .string (hs r)]), (w.heap.size, [.int .u64 ((lo d : Nat) : Int), .string (hs d)])])
 case atStart => exact ⟨0, 1, Nat.zero_add n, by first | rfl | go_num, by rw [Nat.pow_zero, Nat.mod_eq_of_lt hd1.out], (fun j h1 h2 => by omega), hL0⟩
 case round =>
  clear hL0
  obtain ⟨i, r, hik, rfl, hr, hbef, hL0⟩ := hrel
  by_cases hin : i < n
  ·have k1 : (i : Int) < (n : Int) := by omega
   have kb : (i : Int) ≤ 1000 := by have := hn.out; omega
   have k0 : (0 : Int) ≤ (i : Int) := by omega
   have hrd : r < d := by rw [hr]; exact Nat.mod_lt _ (by have := hd1.out; omega)
   have hrs : (digs r).length ≤ 1000000 := Nat.le_trans (digs_mono (Nat.le_of_lt hrd)) hsz.out
   have h10 : (digs 10).length ≤ 1 := digs_length_iff.2 (by rw [Nat.pow_one]; unfold Bs; decide)
   have HM := Lib.hid (fun w => mul_any r 10 (by omega) (by omega) w)
   have hms : (digs (r * 10)).length ≤ 1000001 := Nat.le_trans (digs_mul_le hrs h10) (by omega)
   obtain ⟨m, hm⟩ : ∃ m, m = r * 10 := ⟨_, rfl⟩
   rw [← hm] at HM hms
   have HD := Lib.hid (fun w => div_pos m d (by have := hd1.out; omega) (by omega) w)
   obtain ⟨q, hq⟩ : ∃ q, q = m / d := ⟨_, rfl⟩
   obtain ⟨t, ht⟩ : ∃ t, t = m % d := ⟨_, rfl⟩
   rw [← hq, ← ht] at HD
   have hnx : t = 10 ^ (i + 1) % d := by rw [ht, hm, hr, Nat.pow_succ, Nat.mod_mul_mod]
   clear hq ht hm hr hrd hrs h10 hms
   by_cases ht1 : t = 1
   ·have hR := Lib.hid (h1.out (i + 1) (by omega) (by omega) (by rw [← hnx, ht1]) (fun j q1 q2 => hbef j q1 (by omega)))
    subst ht1
    clear hnx hbef
    go_upto_region 5 with fail
    obtain ⟨α, iα, F, hF1, hF2⟩ := cls wr
    have hq0 := cls_box hF1 hL0 _ _ List.mem_cons_self
    simp only [cellsC, and_true, Nat.zero_add, Nat.reduceAdd] at hq0
    have hq1 := cls_box hF1 hL0 _ _ (List.mem_cons_of_mem _ List.mem_cons_self)
    simp only [cellsC, and_true, Nat.zero_add, Nat.reduceAdd] at hq1
    refine region_qa 6 (C := fun w' => ∃ x, w' = F x) (by kernel_rfl) (by kernel_rfl) (cls_drew hF2) ?_
    simp only [List.take_succ_cons, List.take_zero, List.drop_succ_cons, List.drop_zero, List.take_nil, List.drop_nil]
    repeat (go_big_quiet_step (first | fail | (go_at_call 52; with_reducible exact cls_call hF1 hF2 HT.out _) | (go_at_call 68; with_reducible exact cls_call hF1 hF2 HM.out _) | (go_at_call 110; with_reducible exact cls_call hF1 hF2 HD.out _)))
    refine wpQuiet_nil ?_
    rintro wq ⟨xq, rfl⟩
    replace hL0 := hL0.call (hF1 xq)
    clear  hq0 hq1 hF2
    generalize F xq = x4 at hL0 ⊢
    clear hF1 xq iα F α
    refine any_pure (i := 6) (m := 3) _ (.agg #[.int .u64 ((lo q : Nat) : Int), .string (hs q)]) rfl rfl (by kernel_rfl) (fun _ _ _ h => h) (fun w => by simp [execOp, go_sem]) ?_
    refine any_pure (i := 7) (m := 2) _ (.agg #[.int .u64 ((lo 1 : Nat) : Int), .string (hs 1)]) rfl rfl (by kernel_rfl) (fun _ _ _ h => h) (fun w => by simp [execOp, go_sem]) ?_
    refine any_pure (i := 8) (m := 1) _ (.bool true) rfl rfl (by kernel_rfl) (fun _ _ _ h => h) (fun w => by simp [execOp, go_sem]) ?_
    refine any_seq 9 rfl (by kernel_rfl) ?_
    simp only [List.take_succ_cons, List.take_zero, List.drop_succ_cons, List.drop_zero, List.take_nil, List.drop_nil]
    have hA := hL0.fc
    simp only [fcG, cellsF, neK, and_true, ne_eq, Nat.zero_add, Nat.reduceAdd] at hA
    have hP := hL0.put 0 (x2.heap.size) _ rfl [.int .u64 ((lo 1 : Nat) : Int), .string (hs 1)] rfl
    simp only [setAll, List.set_cons_zero, List.set_cons_succ] at hP
    generalize hput1 : ((x4.setCell ⟨x2.heap.size, 0, none⟩ (.int .u64 ((lo 1 : Nat) : Int))).setCell ⟨x2.heap.size, 1, none⟩ (.string (hs 1))) = x5 at hP
    have hB1 := hP.fc
    simp only [fcG, cellsF, neK, and_true, ne_eq, Nat.zero_add, Nat.reduceAdd] at hB1
    replace hL0 := hP
    go_upto_region 6 with fail
    clear hA
    clear hput1 hB1
    obtain ⟨α, iα, F, hF1, hF2⟩ := cls x5
    have hq0 := cls_box hF1 hL0 _ _ List.mem_cons_self
    simp only [cellsC, and_true, Nat.zero_add, Nat.reduceAdd] at hq0
    refine region_qs 3 (C := fun w' => ∃ x, w' = F x) (by kernel_rfl) (by kernel_rfl) (cls_drew hF2) ?_
    simp only [List.take_succ_cons, List.take_zero, List.drop_succ_cons, List.drop_zero, List.take_nil, List.drop_nil]
    repeat (go_big_quiet_step (first | fail | (go_at_call 52; with_reducible exact cls_call hF1 hF2 HO.out _)))
    refine wpQuiet_nil ?_
    rintro wq ⟨xq, rfl⟩
    replace hL0 := hL0.call (hF1 xq)
    clear  hq0 hF2
    generalize F xq = x6 at hL0 ⊢
    clear hF1 xq iα F α
    go_wp2_with fail
    exact bodyPost_ret (v := .tuple #[.int .i64 ((i : Int) + 1), .bool true]) (by simp [results, Tryz.results76, go_sem]) rfl ⟨by rw [hR.out]; rfl, hL0.bl⟩
   ·have hne := ne_nat ht1
    have hb2 := Lib.hid (show ∀ j, 1 ≤ j → j ≤ i + 1 → 10 ^ j % d ≠ 1 from fun j q1 q2 => by
      rcases Nat.lt_or_ge i j with q | q
      ·obtain rfl : j = i + 1 := by omega
       rw [← hnx]; exact ht1
      ·exact hbef j q1 q)
    replace hnx := Lib.hid hnx
    clear hbef ht1
    rcases hne with e0 | ⟨e0, e1⟩
    ·have kk : 0 ≤ i := Nat.zero_le _
     go_upto_region 5 with fail
     obtain ⟨α, iα, F, hF1, hF2⟩ := cls wr
     have hq0 := cls_box hF1 hL0 _ _ List.mem_cons_self
     simp only [cellsC, and_true, Nat.zero_add, Nat.reduceAdd] at hq0
     have hq1 := cls_box hF1 hL0 _ _ (List.mem_cons_of_mem _ List.mem_cons_self)
     simp only [cellsC, and_true, Nat.zero_add, Nat.reduceAdd] at hq1
     refine region_qa 6 (C := fun w' => ∃ x, w' = F x) (by kernel_rfl) (by kernel_rfl) (cls_drew hF2) ?_
     simp only [List.take_succ_cons, List.take_zero, List.drop_succ_cons, List.drop_zero, List.take_nil, List.drop_nil]
     repeat (go_big_quiet_step (first | fail | (go_at_call 52; with_reducible exact cls_call hF1 hF2 HT.out _) | (go_at_call 68; with_reducible exact cls_call hF1 hF2 HM.out _) | (go_at_call 110; with_reducible exact cls_call hF1 hF2 HD.out _)))
     refine wpQuiet_nil ?_
     rintro wq ⟨xq, rfl⟩
     replace hL0 := hL0.call (hF1 xq)
     clear  hq0 hq1 hF2
     generalize F xq = x4 at hL0 ⊢
     clear hF1 xq iα F α
     refine any_pure (i := 6) (m := 3) _ (.agg #[.int .u64 ((lo q : Nat) : Int), .string (hs q)]) rfl rfl (by kernel_rfl) (fun _ _ _ h => h) (fun w => by simp [execOp, go_sem]) ?_
     refine any_pure (i := 7) (m := 2) _ (.agg #[.int .u64 ((lo t : Nat) : Int), .string (hs t)]) rfl rfl (by kernel_rfl) (fun _ _ _ h => h) (fun w => by simp [execOp, go_sem]) ?_
     refine any_pure (i := 8) (m := 1) _ (.bool true) rfl rfl (by kernel_rfl) (fun _ _ _ h => h) (fun w => by simp [execOp, go_sem]) ?_
     refine any_seq 9 rfl (by kernel_rfl) ?_
     simp only [List.take_succ_cons, List.take_zero, List.drop_succ_cons, List.drop_zero, List.take_nil, List.drop_nil]
     have hA := hL0.fc
     simp only [fcG, cellsF, neK, and_true, ne_eq, Nat.zero_add, Nat.reduceAdd] at hA
     have hP := hL0.put 0 (x2.heap.size) _ rfl [.int .u64 ((lo t : Nat) : Int), .string (hs t)] rfl
     simp only [setAll, List.set_cons_zero, List.set_cons_succ] at hP
     generalize hput1 : ((x4.setCell ⟨x2.heap.size, 0, none⟩ (.int .u64 ((lo t : Nat) : Int))).setCell ⟨x2.heap.size, 1, none⟩ (.string (hs t))) = x5 at hP
     have hB1 := hP.fc
     simp only [fcG, cellsF, neK, and_true, ne_eq, Nat.zero_add, Nat.reduceAdd] at hB1
     replace hL0 := hP
     go_upto_region 6 with fail
     clear hA
     clear hput1 hB1
     obtain ⟨α, iα, F, hF1, hF2⟩ := cls x5
     have hq0 := cls_box hF1 hL0 _ _ List.mem_cons_self
     simp only [cellsC, and_true, Nat.zero_add, Nat.reduceAdd] at hq0
     refine region_qs 3 (C := fun w' => ∃ x, w' = F x) (by kernel_rfl) (by kernel_rfl) (cls_drew hF2) ?_
     simp only [List.take_succ_cons, List.take_zero, List.drop_succ_cons, List.drop_zero, List.take_nil, List.drop_nil]
     repeat (go_big_quiet_step (first | fail | (go_at_call 52; with_reducible exact cls_call hF1 hF2 HO.out _)))
     refine wpQuiet_nil ?_
     rintro wq ⟨xq, rfl⟩
     replace hL0 := hL0.call (hF1 xq)
     clear  hq0 hF2
     generalize F xq = x6 at hL0 ⊢
     clear hF1 xq iα F α
     go_wp2_with fail
     go_roundg (gk - 1)
     case measure => omega
     case rel => exact ⟨i + 1, t, by omega, by first | rfl | go_num, hnx.out, hb2.out, hL0⟩
    ·have kk : 0 ≤ i := Nat.zero_le _
     go_upto_region 5 with fail
     obtain ⟨α, iα, F, hF1, hF2⟩ := cls wr
     have hq0 := cls_box hF1 hL0 _ _ List.mem_cons_self
     simp only [cellsC, and_true, Nat.zero_add, Nat.reduceAdd] at hq0
     have hq1 := cls_box hF1 hL0 _ _ (List.mem_cons_of_mem _ List.mem_cons_self)
     simp only [cellsC, and_true, Nat.zero_add, Nat.reduceAdd] at hq1
     refine region_qa 6 (C := fun w' => ∃ x, w' = F x) (by kernel_rfl) (by kernel_rfl) (cls_drew hF2) ?_
     simp only [List.take_succ_cons, List.take_zero, List.drop_succ_cons, List.drop_zero, List.take_nil, List.drop_nil]
     repeat (go_big_quiet_step (first | fail | (go_at_call 52; with_reducible exact cls_call hF1 hF2 HT.out _) | (go_at_call 68; with_reducible exact cls_call hF1 hF2 HM.out _) | (go_at_call 110; with_reducible exact cls_call hF1 hF2 HD.out _)))
     refine wpQuiet_nil ?_
     rintro wq ⟨xq, rfl⟩
     replace hL0 := hL0.call (hF1 xq)
     clear  hq0 hq1 hF2
     generalize F xq = x4 at hL0 ⊢
     clear hF1 xq iα F α
     refine any_pure (i := 6) (m := 3) _ (.agg #[.int .u64 ((lo q : Nat) : Int), .string (hs q)]) rfl rfl (by kernel_rfl) (fun _ _ _ h => h) (fun w => by simp [execOp, go_sem]) ?_
     refine any_pure (i := 7) (m := 2) _ (.agg #[.int .u64 ((lo t : Nat) : Int), .string (hs t)]) rfl rfl (by kernel_rfl) (fun _ _ _ h => h) (fun w => by simp [execOp, go_sem]) ?_
     refine any_pure (i := 8) (m := 1) _ (.bool true) rfl rfl (by kernel_rfl) (fun _ _ _ h => h) (fun w => by simp [execOp, go_sem]) ?_
     refine any_seq 9 rfl (by kernel_rfl) ?_
     simp only [List.take_succ_cons, List.take_zero, List.drop_succ_cons, List.drop_zero, List.take_nil, List.drop_nil]
     have hA := hL0.fc
     simp only [fcG, cellsF, neK, and_true, ne_eq, Nat.zero_add, Nat.reduceAdd] at hA
     have hP := hL0.put 0 (x2.heap.size) _ rfl [.int .u64 ((lo t : Nat) : Int), .string (hs t)] rfl
     simp only [setAll, List.set_cons_zero, List.set_cons_succ] at hP
     generalize hput1 : ((x4.setCell ⟨x2.heap.size, 0, none⟩ (.int .u64 ((lo t : Nat) : Int))).setCell ⟨x2.heap.size, 1, none⟩ (.string (hs t))) = x5 at hP
     have hB1 := hP.fc
     simp only [fcG, cellsF, neK, and_true, ne_eq, Nat.zero_add, Nat.reduceAdd] at hB1
     replace hL0 := hP
     go_upto_region 6 with fail
     clear hA
     clear hput1 hB1
     obtain ⟨α, iα, F, hF1, hF2⟩ := cls x5
     have hq0 := cls_box hF1 hL0 _ _ List.mem_cons_self
     simp only [cellsC, and_true, Nat.zero_add, Nat.reduceAdd] at hq0
     refine region_qs 3 (C := fun w' => ∃ x, w' = F x) (by kernel_rfl) (by kernel_rfl) (cls_drew hF2) ?_
     simp only [List.take_succ_cons, List.take_zero, List.drop_succ_cons, List.drop_zero, List.take_nil, List.drop_nil]
     repeat (go_big_quiet_step (first | fail | (go_at_call 52; with_reducible exact cls_call hF1 hF2 HO.out _)))
     refine wpQuiet_nil ?_
     rintro wq ⟨xq, rfl⟩
     replace hL0 := hL0.call (hF1 xq)
     clear  hq0 hF2
     generalize F xq = x6 at hL0 ⊢
     clear hF1 xq iα F α
     go_wp2_with fail
     go_roundg (gk - 1)
     case measure => omega
     case rel => exact ⟨i + 1, t, by omega, by first | rfl | go_num, hnx.out, hb2.out, hL0⟩
  ·obtain rfl : i = n := by omega
   have k1 : ¬ (i : Int) < (i : Int) := by omega
   have hR := Lib.hid (h2.out hbef)
   clear hr hbef hik
   go_wp2_with fail
   exact bodyPost_ret (v := .tuple #[.int .i64 0, .bool false]) (by simp [results, Tryz.results76, go_sem]) rfl ⟨by rw [hR.out], hL0.bl⟩
set_option maxHeartbeats 4000000 in
set_option maxRecDepth 100000 in
theorem dcyc_far (a : Rat) (m d : Nat) (k : Int) (HN : ∀ w, Calls Tryz.prog 75 #[fracV a] w fun xe w' => xe = .returned (natV m) ∧ Below w.heap.size w w') (HL : ∀ w, Calls Tryz.prog 74 #[natV m] w fun xe w' => xe = .returned (.tuple #[.int .i64 k, natV d]) ∧ Below w.heap.size w w') (hk : decide (100 < k) = true) (w : World) :
  Calls Tryz.prog 21 #[fracV a] w fun xe w' => xe = .returned (.tuple #[.int .i64 0, .int .i64 0, .int .i64 3]) ∧ Below w.heap.size w w' := by
 have hL0 : GL w w [] := GL.start w
 replace HN := Lib.hid HN
 replace HL := Lib.hid HL
 replace hL0 := (hL0.new rfl [.int .u64 ((zl a.num : Nat) : Int), .string (zh a.num), .bool (zs a.num), .int .u64 ((lo (fe a) : Nat) : Int), .string (hs (fe a))] 34)
 generalize hweq : (w.alloc (.cells #[.int .u64 ((zl a.num : Nat) : Int), .string (zh a.num), .bool (zs a.num), .int .u64 ((lo (fe a) : Nat) : Int), .string (hs (fe a))] 34)) = x1 at hL0
 go_enter Tryz.func21, Tryz.ntmps21
 have hN0 := cells_of _ 0 [] rfl (hL0.get _ _ List.mem_cons_self)
 simp only [cellsF, and_true, Nat.zero_add, Nat.reduceAdd] at hN0
 go_wp2_with fail
 clear hN0
 with_reducible refine Calls.mono (HN.out _) ?_
 rintro e x2 ⟨rfl, hb⟩
 replace hL0 := hL0.call hb
 clear hb hweq
 go_wp2_with fail
 with_reducible refine Calls.mono (HL.out _) ?_
 rintro e x3 ⟨rfl, hb⟩
 replace hL0 := hL0.call hb
 clear hb
 replace hL0 := (hL0.new rfl [.int .u64 ((lo d : Nat) : Int), .string (hs d)] 30)
 generalize hweq : (x3.alloc (.cells #[.int .u64 ((lo d : Nat) : Int), .string (hs d)] 30)) = x4 at hL0
 go_wp2_with fail
 exact bodyPost_ret (v := .tuple #[.int .i64 0, .int .i64 0, .int .i64 3]) (by simp [results, Tryz.results21, go_sem]) rfl ⟨rfl, hL0.bl⟩
set_option maxHeartbeats 4000000 in
set_option maxRecDepth 100000 in
theorem dcyc_end (a : Rat) (m : Nat) (k : Int) (HN : ∀ w, Calls Tryz.prog 75 #[fracV a] w fun xe w' => xe = .returned (natV m) ∧ Below w.heap.size w w') (HL : ∀ w, Calls Tryz.prog 74 #[natV m] w fun xe w' => xe = .returned (.tuple #[.int .i64 k, natV 1]) ∧ Below w.heap.size w w') (HO : ∀ w, Calls Tryz.prog 52 #[.int .u64 1] w fun xe w' => xe = .returned (natV 1) ∧ Below w.heap.size w w') (hk : decide (100 < k) = false) (w : World) :
  Calls Tryz.prog 21 #[fracV a] w fun xe w' => xe = .returned (.tuple #[.int .i64 k, .int .i64 0, .int .i64 0]) ∧ Below w.heap.size w w' := by
 have hL0 : GL w w [] := GL.start w
 replace HN := Lib.hid HN
 replace HL := Lib.hid HL
 replace HO := Lib.hid HO
 replace hL0 := (hL0.new rfl [.int .u64 ((zl a.num : Nat) : Int), .string (zh a.num), .bool (zs a.num), .int .u64 ((lo (fe a) : Nat) : Int), .string (hs (fe a))] 34)
 generalize hweq : (w.alloc (.cells #[.int .u64 ((zl a.num : Nat) : Int), .string (zh a.num), .bool (zs a.num), .int .u64 ((lo (fe a) : Nat) : Int), .string (hs (fe a))] 34)) = x1 at hL0
 go_enter Tryz.func21, Tryz.ntmps21
 have hN0 := cells_of _ 0 [] rfl (hL0.get _ _ List.mem_cons_self)
 simp only [cellsF, and_true, Nat.zero_add, Nat.reduceAdd] at hN0
 go_wp2_with fail
 clear hN0
 with_reducible refine Calls.mono (HN.out _) ?_
 rintro e x2 ⟨rfl, hb⟩
 replace hL0 := hL0.call hb
 clear hb hweq
 go_wp2_with fail
 with_reducible refine Calls.mono (HL.out _) ?_
 rintro e x3 ⟨rfl, hb⟩
 replace hL0 := hL0.call hb
 clear hb
 replace hL0 := (hL0.new rfl [.int .u64 ((lo 1 : Nat) : Int), .string (hs 1)] 30)
 generalize hweq : (x3.alloc (.cells #[.int .u64 ((lo 1 : Nat) : Int), .string (hs 1)] 30)) = x4 at hL0
 go_upto_region 4 with fail
 clear hweq
 obtain ⟨α, iα, F, hF1, hF2⟩ := cls x4
 have hq0 := cls_box hF1 hL0 _ _ List.mem_cons_self
 simp only [cellsC, and_true, Nat.zero_add, Nat.reduceAdd] at hq0
 refine region_qs 3 (C := fun w' => ∃ x, w' = F x) (by kernel_rfl) (by kernel_rfl) (cls_drew hF2) ?_
 simp only [List.take_succ_cons, List.take_zero, List.drop_succ_cons, List.drop_zero, List.take_nil, List.drop_nil]
 repeat (go_big_quiet_step (first | fail | (go_at_call 52; with_reducible exact cls_call hF1 hF2 HO.out _)))
 refine wpQuiet_nil ?_
 rintro wq ⟨xq, rfl⟩
 replace hL0 := hL0.call (hF1 xq)
 clear  hq0 hF2
 generalize F xq = x5 at hL0 ⊢
 clear hF1 xq iα F α
 go_wp2_with fail
 exact bodyPost_ret (v := .tuple #[.int .i64 k, .int .i64 0, .int .i64 0]) (by simp [results, Tryz.results21, go_sem]) rfl ⟨rfl, hL0.bl⟩
set_option maxHeartbeats 4000000 in
set_option maxRecDepth 100000 in
theorem dcyc_round (a : Rat) (m d : Nat) (k l n : Int) (HN : ∀ w, Calls Tryz.prog 75 #[fracV a] w fun xe w' => xe = .returned (natV m) ∧ Below w.heap.size w w') (HL : ∀ w, Calls Tryz.prog 74 #[natV m] w fun xe w' => xe = .returned (.tuple #[.int .i64 k, natV d]) ∧ Below w.heap.size w w') (HO : ∀ w, Calls Tryz.prog 52 #[.int .u64 1] w fun xe w' => xe = .returned (natV 1) ∧ Below w.heap.size w w') (HP : ∀ w, Calls Tryz.prog 76 #[natV d, .int .i64 l] w fun xe w' => xe = .returned (.tuple #[.int .i64 n, .bool true]) ∧ Below w.heap.size w w') (hk : decide (100 < k) = false) (hl : IntKind.i64.wrap (100 - k) = l) (hl2 : wrap64 (100 - k) = l) (hd : d ≠ 1) (w : World) :
  Calls Tryz.prog 21 #[fracV a] w fun xe w' => xe = .returned (.tuple #[.int .i64 k, .int .i64 n, .int .i64 0]) ∧ Below w.heap.size w w' := by
 have hL0 : GL w w [] := GL.start w
 replace HN := Lib.hid HN
 replace HL := Lib.hid HL
 replace HO := Lib.hid HO
 replace HP := Lib.hid HP
 have hz := ne_nat hd
 clear hd
 rcases hz with e0 | ⟨e0, e1⟩
 all_goals (
  replace hL0 := (hL0.new rfl [.int .u64 ((zl a.num : Nat) : Int), .string (zh a.num), .bool (zs a.num), .int .u64 ((lo (fe a) : Nat) : Int), .string (hs (fe a))] 34)
  generalize hweq : (w.alloc (.cells #[.int .u64 ((zl a.num : Nat) : Int), .string (zh a.num), .bool (zs a.num), .int .u64 ((lo (fe a) : Nat) : Int), .string (hs (fe a))] 34)) = x1 at hL0
  go_enter Tryz.func21, Tryz.ntmps21
  have hN0 := cells_of _ 0 [] rfl (hL0.get _ _ List.mem_cons_self)
  simp only [cellsF, and_true, Nat.zero_add, Nat.reduceAdd] at hN0
  go_wp2_with fail
  clear hN0
  with_reducible refine Calls.mono (HN.out _) ?_
  rintro e x2 ⟨rfl, hb⟩
  replace hL0 := hL0.call hb
  clear hb hweq
  go_wp2_with fail
  with_reducible refine Calls.mono (HL.out _) ?_
  rintro e x3 ⟨rfl, hb⟩
  replace hL0 := hL0.call hb
  clear hb
  replace hL0 := (hL0.new rfl [.int .u64 ((lo d : Nat) : Int), .string (hs d)] 30)
  generalize hweq : (x3.alloc (.cells #[.int .u64 ((lo d : Nat) : Int), .string (hs d)] 30)) = x4 at hL0
  go_upto_region 4 with fail
  clear hweq
  obtain ⟨α, iα, F, hF1, hF2⟩ := cls x4
  have hq0 := cls_box hF1 hL0 _ _ List.mem_cons_self
  simp only [cellsC, and_true, Nat.zero_add, Nat.reduceAdd] at hq0
  refine region_qs 3 (C := fun w' => ∃ x, w' = F x) (by kernel_rfl) (by kernel_rfl) (cls_drew hF2) ?_
  simp only [List.take_succ_cons, List.take_zero, List.drop_succ_cons, List.drop_zero, List.take_nil, List.drop_nil]
  repeat (go_big_quiet_step (first | fail | (go_at_call 52; with_reducible exact cls_call hF1 hF2 HO.out _)))
  refine wpQuiet_nil ?_
  rintro wq ⟨xq, rfl⟩
  replace hL0 := hL0.call (hF1 xq)
  clear  hq0 hF2
  generalize F xq = x5 at hL0 ⊢
  clear hF1 xq iα F α
  have hN0 := cells_of _ 0 [] rfl (hL0.get _ _ List.mem_cons_self)
  simp only [cellsF, and_true, Nat.zero_add, Nat.reduceAdd] at hN0
  go_wp2_with fail
  clear hN0
  with_reducible refine Calls.mono (HP.out _) ?_
  rintro e x6 ⟨rfl, hb⟩
  replace hL0 := hL0.call hb
  clear hb
  go_wp2_with fail
  exact bodyPost_ret (v := .tuple #[.int .i64 k, .int .i64 n, .int .i64 0]) (by simp [results, Tryz.results21, go_sem]) rfl ⟨rfl, hL0.bl⟩)
set_option maxHeartbeats 4000000 in
set_option maxRecDepth 100000 in
theorem dcyc_none (a : Rat) (m d : Nat) (k l n : Int) (HN : ∀ w, Calls Tryz.prog 75 #[fracV a] w fun xe w' => xe = .returned (natV m) ∧ Below w.heap.size w w') (HL : ∀ w, Calls Tryz.prog 74 #[natV m] w fun xe w' => xe = .returned (.tuple #[.int .i64 k, natV d]) ∧ Below w.heap.size w w') (HO : ∀ w, Calls Tryz.prog 52 #[.int .u64 1] w fun xe w' => xe = .returned (natV 1) ∧ Below w.heap.size w w') (HP : ∀ w, Calls Tryz.prog 76 #[natV d, .int .i64 l] w fun xe w' => xe = .returned (.tuple #[.int .i64 n, .bool false]) ∧ Below w.heap.size w w') (hk : decide (100 < k) = false) (hl : IntKind.i64.wrap (100 - k) = l) (hl2 : wrap64 (100 - k) = l) (hd : d ≠ 1) (w : World) :
  Calls Tryz.prog 21 #[fracV a] w fun xe w' => xe = .returned (.tuple #[.int .i64 0, .int .i64 0, .int .i64 3]) ∧ Below w.heap.size w w' := by
 have hL0 : GL w w [] := GL.start w
 replace HN := Lib.hid HN
 replace HL := Lib.hid HL
 replace HO := Lib.hid HO
 replace HP := Lib.hid HP
 have hz := ne_nat hd
 clear hd
 rcases hz with e0 | ⟨e0, e1⟩
 all_goals (
  replace hL0 := (hL0.new rfl [.int .u64 ((zl a.num : Nat) : Int), .string (zh a.num), .bool (zs a.num), .int .u64 ((lo (fe a) : Nat) : Int), .string (hs (fe a))] 34)
  generalize hweq : (w.alloc (.cells #[.int .u64 ((zl a.num : Nat) : Int), .string (zh a.num), .bool (zs a.num), .int .u64 ((lo (fe a) : Nat) : Int), .string (hs (fe a))] 34)) = x1 at hL0
  go_enter Tryz.func21, Tryz.ntmps21
  have hN0 := cells_of _ 0 [] rfl (hL0.get _ _ List.mem_cons_self)
  simp only [cellsF, and_true, Nat.zero_add, Nat.reduceAdd] at hN0
  go_wp2_with fail
  clear hN0
  with_reducible refine Calls.mono (HN.out _) ?_
  rintro e x2 ⟨rfl, hb⟩
  replace hL0 := hL0.call hb
  clear hb hweq
  go_wp2_with fail
  with_reducible refine Calls.mono (HL.out _) ?_
  rintro e x3 ⟨rfl, hb⟩
  replace hL0 := hL0.call hb
  clear hb
  replace hL0 := (hL0.new rfl [.int .u64 ((lo d : Nat) : Int), .string (hs d)] 30)
  generalize hweq : (x3.alloc (.cells #[.int .u64 ((lo d : Nat) : Int), .string (hs d)] 30)) = x4 at hL0
  go_upto_region 4 with fail
  clear hweq
  obtain ⟨α, iα, F, hF1, hF2⟩ := cls x4
  have hq0 := cls_box hF1 hL0 _ _ List.mem_cons_self
  simp only [cellsC, and_true, Nat.zero_add, Nat.reduceAdd] at hq0
  refine region_qs 3 (C := fun w' => ∃ x, w' = F x) (by kernel_rfl) (by kernel_rfl) (cls_drew hF2) ?_
  simp only [List.take_succ_cons, List.take_zero, List.drop_succ_cons, List.drop_zero, List.take_nil, List.drop_nil]
  repeat (go_big_quiet_step (first | fail | (go_at_call 52; with_reducible exact cls_call hF1 hF2 HO.out _)))
  refine wpQuiet_nil ?_
  rintro wq ⟨xq, rfl⟩
  replace hL0 := hL0.call (hF1 xq)
  clear  hq0 hF2
  generalize F xq = x5 at hL0 ⊢
  clear hF1 xq iα F α
  have hN0 := cells_of _ 0 [] rfl (hL0.get _ _ List.mem_cons_self)
  simp only [cellsF, and_true, Nat.zero_add, Nat.reduceAdd] at hN0
  go_wp2_with fail
  clear hN0
  with_reducible refine Calls.mono (HP.out _) ?_
  rintro e x6 ⟨rfl, hb⟩
  replace hL0 := hL0.call hb
  clear hb
  go_wp2_with fail
  exact bodyPost_ret (v := .tuple #[.int .i64 0, .int .i64 0, .int .i64 3]) (by simp [results, Tryz.results21, go_sem]) rfl ⟨rfl, hL0.bl⟩)
set_option maxHeartbeats 4000000 in
set_option maxRecDepth 100000 in
theorem dcycles_w (a : Rat) (i j k n e : Int) (b : Bool) (HC : ∀ w, Calls Tryz.prog 21 #[fracV a] w fun xe w' => xe = .returned (.tuple #[.int .i64 i, .int .i64 j, .int .i64 0]) ∧ Below w.heap.size w w') (w : World) :
  Calls Tryz.prog 44 #[fracV a, .int .i64 i, .int .i64 j] w fun xe w' => xe = .returned (.bool true) ∧ Below w.heap.size w w' := by
 have hL0 : GL w w [] := GL.start w
 replace HC := Lib.hid HC
 replace hL0 := (hL0.new rfl [.int .u64 ((zl a.num : Nat) : Int), .string (zh a.num), .bool (zs a.num), .int .u64 ((lo (fe a) : Nat) : Int), .string (hs (fe a))] 34)
 generalize hweq : (w.alloc (.cells #[.int .u64 ((zl a.num : Nat) : Int), .string (zh a.num), .bool (zs a.num), .int .u64 ((lo (fe a) : Nat) : Int), .string (hs (fe a))] 34)) = x1 at hL0
 go_enter Tryz.func44, Tryz.ntmps44
 have hN0 := cells_of _ 0 [] rfl (hL0.get _ _ List.mem_cons_self)
 simp only [cellsF, and_true, Nat.zero_add, Nat.reduceAdd] at hN0
 go_wp2_with fail
 clear hN0
 with_reducible refine Calls.mono (HC.out _) ?_
 rintro e x2 ⟨rfl, hb⟩
 replace hL0 := hL0.call hb
 clear hb hweq
 go_wp2_with fail
 exact bodyPost_ret (v := .bool true) (by simp [results, Tryz.results44, go_sem]) rfl ⟨rfl, hL0.bl⟩
end Go.Proofs.YtahfcciihkkegaaGreatDoor
namespace Go.Proofs.YtahfcciihkkegaaGreatDoor
open Go.RowKit
attribute [local irreducible] lo hs sm s64 c64 d64 b64 mh ml pd pc qd qc val hiB str cmpI srD lz nb isq txt
/-- The builder at b holds l. -/
def Bd (B b : Nat) (l : List UInt8) (w : World) : Prop := Lib.IsBuilderF 155 5 B b (Lib.byteCells l) w
/-- What writes into the builder leave as it is. -/
def Wr (B b : Nat) (w w' : World) : Prop := Below B w w' ∧ Lib.OthersKept 5 (some b) w w'
theorem Wr.trans {B b : Nat} {u v w : World} (h : Wr B b u v) (k : Wr B b v w) : Wr B b u w := ⟨h.1.trans k.1, h.2.trans k.2⟩
theorem Wr.below {B b : Nat} {u v w : World} (h : Wr B b u v) (hB : B ≤ v.heap.size) (k : Below v.heap.size v w) : Wr B b u w := ⟨h.1.trans (k.mono hB), kept_below h.2 k⟩
theorem Wr.refl (B b : Nat) (w : World) : Wr B b w w := ⟨Below.refl B w, Lib.OthersKept.refl _ _ w⟩
theorem Bd.below {B b : Nat} {l : List UInt8} {w w' : World} (h : Bd B b l w) (hb : Below w.heap.size w w') : Bd B b l w' := bf_below h hb
theorem wb_any (B b : Nat) (l m : List UInt8) (w : World) (h : Bd B b l w) (hm : l ++ [48] = m) (hlen : m.length ≤ 140737488355328) (hBw : B ≤ w.heap.size) :
  Calls Tryz.prog 108 #[.pointer (some ⟨b, 0, none⟩), .int .u8 48] w fun e w' => e = .returned .nilIface ∧ Bd B b m w' ∧ Wr B b w w' := by
 subst hm
 refine (wbyte_l B b l 48 w h (by simpa using hlen) hBw).mono ?_
 rintro e w' ⟨rfl, h1, h2, h3⟩
 exact ⟨rfl, h1, h2, h3⟩
theorem ws_any (B b : Nat) (l m r : List UInt8) (s : ByteArray) (hs : s = ⟨m.toArray⟩) (hr : l ++ m = r) (w : World) (h : Bd B b l w) (hlen : r.length ≤ 140737488355328) (hBw : B ≤ w.heap.size) :
  Calls Tryz.prog 109 #[.pointer (some ⟨b, 0, none⟩), .string s] w fun e w' => (∃ v, e = .returned v) ∧ Bd B b r w' ∧ Wr B b w w' := by
 subst hs; subst hr
 refine (wstr_l B b l m w h (by simpa using hlen) hBw).mono ?_
 rintro e w' ⟨rfl, h1, h2, h3⟩
 exact ⟨⟨_, rfl⟩, h1, h2, h3⟩
theorem txt_size (n : Nat) : (txt n).size = (Lib.decDigits n).length := by unfold txt; simp [ByteArray.size]
set_option maxHeartbeats 4000000 in
set_option maxRecDepth 100000 in
theorem not1_any (B b part k : Nat) (l : List UInt8) (hl : (digs part).length ≤ 1000000) (hk : k ≤ 1000) (hll : l.length ≤ 1000000000) (w : World) (hB : Bd B b l w) (htab : Tab w) (hBw : B ≤ w.heap.size) :
  Calls Tryz.prog 107 #[natV part, .int .i64 (k : Int), .pointer (some ⟨b, 0, none⟩)] w fun e w' => e = .returned (.tuple #[]) ∧ Bd B b (l ++ (List.replicate (k - (Lib.decDigits part).length) 48 ++ Lib.decDigits part)) w' ∧ Wr B b w w' := by
 obtain ⟨w0, hw0, hA, hb0, hsz0⟩ := boxes1 w (.int .u64 ((lo part : Nat) : Int)) (.string (hs part)) 30
 obtain ⟨a0, a1, af⟩ := id hA
 have HT := Lib.hid (fun w ht => text_any part hl w ht)
 have hm0 := dec_len_bound hl (by decide)
 have hts := txt_size part
 have HW := Lib.hid (fun (l m r : List UInt8) s hs hr w h h2 h3 => ws_any B b l m r s hs hr w h h2 h3)
 obtain ⟨S, hS⟩ : ∃ S, S = txt part := ⟨_, rfl⟩
 obtain ⟨m, hm⟩ : ∃ m, m = (Lib.decDigits part).length := ⟨_, rfl⟩
 rw [← hS] at HT hts
 rw [← hm] at hts hm0 ⊢
 have hS2 : S = ⟨(Lib.decDigits part).toArray⟩ := by rw [hS]; unfold txt; rfl
 have hB0 := Lib.hid (Bd.below hB hb0)
 have hW0 := Lib.hid ((Wr.refl B b w).below hBw hb0)
 have ht0 := Lib.hid (htab.below hb0)
 replace hS2 := Lib.hid hS2
 replace hm := Lib.hid hm
 have hBw0 : B ≤ w0.heap.size := by omega
 clear hB htab hb0 hl hS
 go_enter Tryz.func107, Tryz.ntmps107
 go_wp2_with fail
 refine (HT.out _ ht0.out).mono ?_
 rintro e w1 ⟨rfl, hb1⟩
 have hB1 := Lib.hid (hB0.out.below hb1)
 have hW1 := Lib.hid (hW0.out.below hBw0 hb1)
 have hBw1 : B ≤ w1.heap.size := by have := hb1.size; omega
 clear a0 a1 af hA ht0 hb1 hB0 hW0
 have q1 : (m : Int) ≤ 1000000000 := by omega
 have q2 : (0 : Int) ≤ (m : Int) := by omega
 have q3 : (k : Int) ≤ 1000 := by omega
 have q4 : (0 : Int) ≤ (k : Int) := by omega
 go_wp2_with fail
 go_loopg [12] (k - m) (fun gk iv wr => ∃ i : Nat, i + gk = k - m ∧ iv = .int .i64 (i : Int) ∧ Bd B b (l ++ List.replicate i 48) wr ∧ Wr B b w wr ∧ B ≤ wr.heap.size)
 case atStart => exact ⟨0, Nat.zero_add _, by first | rfl | go_num, by simpa using hB1.out, hW1.out, hBw1⟩
 case round =>
  clear hB1 hW1 hBw1
  obtain ⟨i, hik, rfl, hBi, hWi, hBwi⟩ := hrel
  replace hBi := Lib.hid hBi
  replace hWi := Lib.hid hWi
  by_cases hin : i < k - m
  ·have k1 : (i : Int) < (k : Int) - (m : Int) := by omega
   have kb : (i : Int) ≤ 1000 := by omega
   have k0 : (0 : Int) ≤ (i : Int) := by omega
   go_wp2_with fail
   refine (wb_any B b _ (l ++ List.replicate (i + 1) 48) _ hBi.out (by rw [List.append_assoc, List.replicate_succ']) (by simp; omega) hBwi).mono ?_
   rintro e w2 ⟨rfl, hB2, hW2⟩
   replace hB2 := Lib.hid hB2
   replace hW2 := Lib.hid (hWi.out.trans hW2)
   go_wp2_with fail
   go_roundg (gk - 1)
   case measure => omega
   case rel => exact ⟨i + 1, by omega, by first | rfl | go_num, hB2.out, hW2.out, by have := hW2.out.1.size; omega⟩
  ·obtain rfl : i = k - m := by omega
   have k1 : ¬ ((k - m : Nat) : Int) < (k : Int) - (m : Int) := by omega
   go_wp2_with fail
   refine (HW.out _ (Lib.decDigits part) _ S hS2.out rfl _ hBi.out (by simp; have := hm.out; omega) hBwi).mono ?_
   rintro e w2 ⟨⟨v, rfl⟩, hB2, hW2⟩
   go_wp2_with fail
   go_end0
   exact ⟨rfl, by rw [← List.append_assoc]; exact hB2, hWi.out.trans hW2⟩
end Go.Proofs.YtahfcciihkkegaaGreatDoor
namespace Go.Proofs.YtahfcciihkkegaaGreatDoor
open Go.RowKit
attribute [local irreducible] lo hs sm s64 c64 d64 b64 mh ml pd pc qd qc val hiB str cmpI srD lz nb isq decB zl zh zs fe txt
theorem not1_v (B b part k : Nat) (kv : Int) (hkv : (k : Int) = kv) (l : List UInt8) (hl : (digs part).length ≤ 1000000) (hk : k ≤ 1000) (hll : l.length ≤ 1000000000) (w : World) (hB : Bd B b l w) (htab : Tab w) (hBw : B ≤ w.heap.size) :
  Calls Tryz.prog 107 #[natV part, .int .i64 kv, .pointer (some ⟨b, 0, none⟩)] w fun e w' => e = .returned (.tuple #[]) ∧ Bd B b (l ++ (List.replicate (k - (Lib.decDigits part).length) 48 ++ Lib.decDigits part)) w' ∧ Wr B b w w' := by
 subst hkv
 exact not1_any B b part k l hl hk hll w hB htab hBw
set_option maxHeartbeats 16000000 in
set_option maxRecDepth 100000 in
theorem dnot_w (z sv : Int) (p m t q r : Nat) (s T : List UInt8) (HA : ∀ w, Calls Tryz.prog 50 #[intV z] w fun xe w' => xe = .returned (natV m) ∧ Below w.heap.size w w') (HT : ∀ w, Calls Tryz.prog 47 #[.int .i64 (p : Int)] w fun xe w' => xe = .returned (natV t) ∧ Below w.heap.size w w') (HD : ∀ w, Calls Tryz.prog 110 #[natV m, natV t] w fun xe w' => xe = .returned (.tuple #[natV q, natV r, .bool true]) ∧ Below w.heap.size w w') (HS : ∀ w, Calls Tryz.prog 92 #[intV z] w fun xe w' => xe = .returned (.int .i64 sv) ∧ Below w.heap.size w w') (hq : (digs q).length ≤ 1000000) (hr : (digs r).length ≤ 1000000) (hp : p ≤ 1000)
  (hs1 : sv < 0 → s = [45]) (hs0 : ¬ sv < 0 → s = []) (ht1 : 0 < p → T = [46] ++ (List.replicate (p - (Lib.decDigits r).length) 48 ++ Lib.decDigits r)) (ht0 : ¬ 0 < p → T = []) (w : World) (htab : Tab w) :
  Calls Tryz.prog 53 #[intV z, .int .i64 (p : Int)] w fun xe w' => xe = .returned (.string ⟨(s ++ (List.replicate (1 - (Lib.decDigits q).length) 48 ++ Lib.decDigits q) ++ T).toArray⟩) ∧ Below w.heap.size w w' := by
 replace HA := Lib.hid HA
 replace HT := Lib.hid HT
 replace HD := Lib.hid HD
 replace HS := Lib.hid HS
 replace hs1 := Lib.hid hs1
 replace hs0 := Lib.hid hs0
 replace ht1 := Lib.hid ht1
 replace ht0 := Lib.hid ht0
 replace htab := Lib.hid htab
 have hL0 : GL w w [] := GL.start w
 replace hL0 := ((hL0.new rfl [.int .u64 ((zl z : Nat) : Int), .string (zh z), .bool (zs z)] 32).new (K := w.heap.size + 1) (szA _ _) [.pointer none, .slice none 0 0] 155)
 generalize hweq : ((w.alloc (.cells #[.int .u64 ((zl z : Nat) : Int), .string (zh z), .bool (zs z)] 32)).alloc (.cells #[.pointer none, .slice none 0 0] 155)) = x1 at hL0
 have hM0 : GL x1 x1 [] := GL.start x1
 have hx1 : x1.heap.size = w.heap.size + 1 + 1 := by rw [← hweq, World.size_alloc, World.size_alloc]
 replace hx1 := Lib.hid hx1
 have hBd : Bd (w.heap.size + 1) (w.heap.size + 1) [] x1 := by
  have := Lib.IsBuilderF.of (Lib.fresh_isBuilder 155 5 (w.alloc (.cells #[.int .u64 ((zl z : Nat) : Int), .string (zh z), .bool (zs z)] 32)))
  rw [hweq, World.size_alloc] at this
  exact this
 replace hBd := Lib.hid hBd
 go_enter Tryz.func53, Tryz.ntmps53
 have hN0 := cells_of _ 0 [] rfl (hL0.get _ _ (List.mem_cons_of_mem _ List.mem_cons_self))
 simp only [cellsF, and_true, Nat.zero_add, Nat.reduceAdd] at hN0
 go_wp2_with fail
 clear hN0
 with_reducible refine Calls.mono (HA.out _) ?_
 rintro e x2 ⟨rfl, hb⟩
 replace hL0 := hL0.call hb
 replace hM0 := hM0.call hb
 clear hb hweq
 go_wp2_with fail
 with_reducible refine Calls.mono (HT.out _) ?_
 rintro e x3 ⟨rfl, hb⟩
 replace hL0 := hL0.call hb
 replace hM0 := hM0.call hb
 clear hb
 go_wp2_with fail
 with_reducible refine Calls.mono (HD.out _) ?_
 rintro e x4 ⟨rfl, hb⟩
 replace hL0 := hL0.call hb
 replace hM0 := hM0.call hb
 clear hb
 replace hL0 := ((hL0.new rfl [.int .u64 ((lo q : Nat) : Int), .string (hs q)] 30).new (K := x4.heap.size + 1) (szA _ _) [.int .u64 ((lo r : Nat) : Int), .string (hs r)] 30)
 have hx4 := Lib.hid hM0.bl.size
 replace hM0 := ((hM0.new rfl [.int .u64 ((lo q : Nat) : Int), .string (hs q)] 30).new (K := x4.heap.size + 1) (szA _ _) [.int .u64 ((lo r : Nat) : Int), .string (hs r)] 30)
 generalize hweq : ((x4.alloc (.cells #[.int .u64 ((lo q : Nat) : Int), .string (hs q)] 30)).alloc (.cells #[.int .u64 ((lo r : Nat) : Int), .string (hs r)] 30)) = x5 at hL0 hM0
 have e7 : x5.heap[x4.heap.size]? = some (.cells #[.int .u64 ((lo q : Nat) : Int), .string (hs q)] 30 (0, 0)) := by
  rw [← hweq, Lib.alloc_old _ _ _ (by simp)]
  exact heap_alloc_new _ _
 have e8 : x5.heap[x4.heap.size + 1]? = some (.cells #[.int .u64 ((lo r : Nat) : Int), .string (hs r)] 30 (0, 0)) := by
  rw [← hweq]
  have := heap_alloc_new (x4.alloc (.cells #[.int .u64 ((lo q : Nat) : Int), .string (hs q)] 30)) (.cells #[.int .u64 ((lo r : Nat) : Int), .string (hs r)] 30)
  rw [World.size_alloc] at this
  exact this
 replace e7 := Lib.hid e7
 replace e8 := Lib.hid e8
 have hx5 : x5.heap.size = x4.heap.size + 1 + 1 := by rw [← hweq, World.size_alloc, World.size_alloc]
 replace hx5 := Lib.hid hx5
 replace hBd := Lib.hid (hBd.out.below hM0.bl)
 have hN0 := cells_of _ 0 [] rfl (hL0.get _ _ (List.mem_cons_of_mem _ (List.mem_cons_of_mem _ (List.mem_cons_of_mem _ List.mem_cons_self))))
 simp only [cellsF, and_true, Nat.zero_add, Nat.reduceAdd] at hN0
 go_upto_region 4 with fail
 clear hweq
 go_wp2_with fail
 clear hN0
 with_reducible refine Calls.mono (HS.out _) ?_
 rintro e x6 ⟨rfl, hb⟩
 replace e7 := Lib.hid ((hb.block x4.heap.size (by rw [hx5.out]; omega)).trans e7.out)
 replace e8 := Lib.hid ((hb.block (x4.heap.size + 1) (by rw [hx5.out]; omega)).trans e8.out)
 replace hBd := Lib.hid (hBd.out.below hb)
 have n7 : x4.heap.size ≠ w.heap.size + 1 := by have := hx4.out; have := hx1.out; omega
 have n8 : x4.heap.size + 1 ≠ w.heap.size + 1 := by have := hx4.out; have := hx1.out; omega
 have s6 : w.heap.size + 1 ≤ x6.heap.size := by have := hb.size; have := hx5.out; have := hx4.out; have := hx1.out; omega
 have hbl := Lib.hid (hL0.call hb).bl
 have hq1 := Lib.hid (dec_len_bound hq (by decide))
 have hr1 := Lib.hid (dec_len_bound hr (by decide))
 replace hq := Lib.hid hq
 replace hr := Lib.hid hr
 replace hp := Lib.hid hp
 replace n7 := Lib.hid n7
 replace n8 := Lib.hid n8
 clear hL0 hM0 hb hx1 hx4 hx5
 by_cases g1 : sv < 0
 ·by_cases g2 : 0 < p
  ·obtain rfl : s = [45] := hs1.out (by omega)
   obtain rfl : T = [46] ++ (List.replicate (p - (Lib.decDigits r).length) 48 ++ Lib.decDigits r) := ht1.out (by omega)
   have p4 : 0 < (p : Int) := by omega
   have W6 := Lib.hid (Wr.refl (w.heap.size + 1) (w.heap.size + 1) x6)
   go_wp2_with fail
   refine (ws_any (w.heap.size + 1) (w.heap.size + 1) [] [45] [45] _ rfl rfl _ hBd.out (by decide) s6).mono ?_
   rintro e x7 ⟨⟨v, rfl⟩, hB7, hW7⟩
   replace hBd := Lib.hid hB7
   replace W6 := Lib.hid (W6.out.trans hW7)
   clear hB7 hW7
   have s7 : w.heap.size + 1 ≤ x7.heap.size := by have := W6.out.1.size; omega
   have t7 := Lib.hid (htab.out.below (hbl.out.trans (W6.out.1.mono (by omega))))
   have E7 : x7.heap[x4.heap.size]? = _ := W6.out.2 (x4.heap.size) _ e7.out (fun e => n7.out (Option.some.inj e)) (fun c fz e => by simp at e)
   have f0 : x7.cell? ⟨x4.heap.size, 0, none⟩ = some (.int .u64 ((lo q : Nat) : Int)) := by rw [Lib.cell_of_heap E7]; rfl
   have f1 : x7.cell? ⟨x4.heap.size, 1, none⟩ = some (.string (hs q)) := by rw [Lib.cell_of_heap E7]; rfl
   clear E7
   go_wp2_with fail
   refine (not1_v (w.heap.size + 1) (w.heap.size + 1) q 1 1 rfl [45] hq.out (by decide) (by decide) _ hBd.out t7.out s7).mono ?_
   rintro e x8 ⟨rfl, hB7, hW7⟩
   replace hBd := Lib.hid hB7
   replace W6 := Lib.hid (W6.out.trans hW7)
   clear hB7 hW7 s7 t7 f0 f1
   have s7 : w.heap.size + 1 ≤ x8.heap.size := by have := W6.out.1.size; omega
   go_wp2_with fail
   refine (ws_any (w.heap.size + 1) (w.heap.size + 1) ([45] ++ (List.replicate (1 - (Lib.decDigits q).length) 48 ++ Lib.decDigits q)) [46] (([45] ++ (List.replicate (1 - (Lib.decDigits q).length) 48 ++ Lib.decDigits q)) ++ [46]) _ rfl rfl _ hBd.out (by have := hq1.out; simp; omega) s7).mono ?_
   rintro e x9 ⟨⟨v2, rfl⟩, hB7, hW7⟩
   replace hBd := Lib.hid hB7
   replace W6 := Lib.hid (W6.out.trans hW7)
   clear hB7 hW7 s7
   have s7 : w.heap.size + 1 ≤ x9.heap.size := by have := W6.out.1.size; omega
   have t7 := Lib.hid (htab.out.below (hbl.out.trans (W6.out.1.mono (by omega))))
   have E7 : x9.heap[x4.heap.size + 1]? = _ := W6.out.2 (x4.heap.size + 1) _ e8.out (fun e => n8.out (Option.some.inj e)) (fun c fz e => by simp at e)
   have f0 : x9.cell? ⟨x4.heap.size + 1, 0, none⟩ = some (.int .u64 ((lo r : Nat) : Int)) := by rw [Lib.cell_of_heap E7]; rfl
   have f1 : x9.cell? ⟨x4.heap.size + 1, 1, none⟩ = some (.string (hs r)) := by rw [Lib.cell_of_heap E7]; rfl
   clear E7
   go_wp2_with fail
   refine (not1_v (w.heap.size + 1) (w.heap.size + 1) r p (p : Int) rfl (([45] ++ (List.replicate (1 - (Lib.decDigits q).length) 48 ++ Lib.decDigits q)) ++ [46]) hr.out hp.out (by have := hq1.out; simp; omega) _ hBd.out t7.out s7).mono ?_
   rintro e x10 ⟨rfl, hB7, hW7⟩
   replace hBd := Lib.hid hB7
   replace W6 := Lib.hid (W6.out.trans hW7)
   clear hB7 hW7 s7 t7 f0 f1
   have s7 : w.heap.size + 1 ≤ x10.heap.size := by have := W6.out.1.size; omega
   have hfin := hBd.out
   obtain ⟨fin, hf⟩ : ∃ f, f = (([45] ++ (List.replicate (1 - (Lib.decDigits q).length) 48 ++ Lib.decDigits q)) ++ [46]) ++ (List.replicate (p - (Lib.decDigits r).length) 48 ++ Lib.decDigits r) := ⟨_, rfl⟩
   rw [← hf] at hfin
   replace hf := Lib.hid hf
   replace hfin := Lib.hid hfin
   clear hBd
   go_wp2_with fail
   refine (Tryz.Builder_String_any_k _ _ fin _ hfin.out s7).mono ?_
   rintro e xe ⟨rfl, h1, h2, h3⟩
   replace W6 := Lib.hid (hbl.out.trans ((W6.out.1.trans h2).mono (by omega)))
   clear h1 h2 h3
   go_wp2_with fail
   exact bodyPost_ret (v := .string ⟨fin.toArray⟩) (by simp [results, Tryz.results53, go_sem]) rfl ⟨by rw [hf.out]; simp, W6.out⟩
  ·obtain rfl : s = [45] := hs1.out (by omega)
   obtain rfl : T = [] := ht0.out (by omega)
   have p4 : ¬ 0 < (p : Int) := by omega
   have W6 := Lib.hid (Wr.refl (w.heap.size + 1) (w.heap.size + 1) x6)
   go_wp2_with fail
   refine (ws_any (w.heap.size + 1) (w.heap.size + 1) [] [45] [45] _ rfl rfl _ hBd.out (by decide) s6).mono ?_
   rintro e x7 ⟨⟨v, rfl⟩, hB7, hW7⟩
   replace hBd := Lib.hid hB7
   replace W6 := Lib.hid (W6.out.trans hW7)
   clear hB7 hW7
   have s7 : w.heap.size + 1 ≤ x7.heap.size := by have := W6.out.1.size; omega
   have t7 := Lib.hid (htab.out.below (hbl.out.trans (W6.out.1.mono (by omega))))
   have E7 : x7.heap[x4.heap.size]? = _ := W6.out.2 (x4.heap.size) _ e7.out (fun e => n7.out (Option.some.inj e)) (fun c fz e => by simp at e)
   have f0 : x7.cell? ⟨x4.heap.size, 0, none⟩ = some (.int .u64 ((lo q : Nat) : Int)) := by rw [Lib.cell_of_heap E7]; rfl
   have f1 : x7.cell? ⟨x4.heap.size, 1, none⟩ = some (.string (hs q)) := by rw [Lib.cell_of_heap E7]; rfl
   clear E7
   go_wp2_with fail
   refine (not1_v (w.heap.size + 1) (w.heap.size + 1) q 1 1 rfl [45] hq.out (by decide) (by decide) _ hBd.out t7.out s7).mono ?_
   rintro e x8 ⟨rfl, hB7, hW7⟩
   replace hBd := Lib.hid hB7
   replace W6 := Lib.hid (W6.out.trans hW7)
   clear hB7 hW7 s7 t7 f0 f1
   have s7 : w.heap.size + 1 ≤ x8.heap.size := by have := W6.out.1.size; omega
   have hfin := hBd.out
   obtain ⟨fin, hf⟩ : ∃ f, f = ([45] ++ (List.replicate (1 - (Lib.decDigits q).length) 48 ++ Lib.decDigits q)) := ⟨_, rfl⟩
   rw [← hf] at hfin
   replace hf := Lib.hid hf
   replace hfin := Lib.hid hfin
   clear hBd
   go_wp2_with fail
   refine (Tryz.Builder_String_any_k _ _ fin _ hfin.out s7).mono ?_
   rintro e xe ⟨rfl, h1, h2, h3⟩
   replace W6 := Lib.hid (hbl.out.trans ((W6.out.1.trans h2).mono (by omega)))
   clear h1 h2 h3
   go_wp2_with fail
   exact bodyPost_ret (v := .string ⟨fin.toArray⟩) (by simp [results, Tryz.results53, go_sem]) rfl ⟨by rw [hf.out]; simp, W6.out⟩
 ·by_cases g2 : 0 < p
  ·obtain rfl : s = [] := hs0.out (by omega)
   obtain rfl : T = [46] ++ (List.replicate (p - (Lib.decDigits r).length) 48 ++ Lib.decDigits r) := ht1.out (by omega)
   have p4 : 0 < (p : Int) := by omega
   have W6 := Lib.hid (Wr.refl (w.heap.size + 1) (w.heap.size + 1) x6)
   have s7 : w.heap.size + 1 ≤ x6.heap.size := by have := W6.out.1.size; omega
   have t7 := Lib.hid (htab.out.below (hbl.out.trans (W6.out.1.mono (by omega))))
   have E7 : x6.heap[x4.heap.size]? = _ := W6.out.2 (x4.heap.size) _ e7.out (fun e => n7.out (Option.some.inj e)) (fun c fz e => by simp at e)
   have f0 : x6.cell? ⟨x4.heap.size, 0, none⟩ = some (.int .u64 ((lo q : Nat) : Int)) := by rw [Lib.cell_of_heap E7]; rfl
   have f1 : x6.cell? ⟨x4.heap.size, 1, none⟩ = some (.string (hs q)) := by rw [Lib.cell_of_heap E7]; rfl
   clear E7
   go_wp2_with fail
   refine (not1_v (w.heap.size + 1) (w.heap.size + 1) q 1 1 rfl [] hq.out (by decide) (by decide) _ hBd.out t7.out s7).mono ?_
   rintro e x8 ⟨rfl, hB7, hW7⟩
   replace hBd := Lib.hid hB7
   replace W6 := Lib.hid (W6.out.trans hW7)
   clear hB7 hW7 s7 t7 f0 f1
   have s7 : w.heap.size + 1 ≤ x8.heap.size := by have := W6.out.1.size; omega
   go_wp2_with fail
   refine (ws_any (w.heap.size + 1) (w.heap.size + 1) ([] ++ (List.replicate (1 - (Lib.decDigits q).length) 48 ++ Lib.decDigits q)) [46] (([] ++ (List.replicate (1 - (Lib.decDigits q).length) 48 ++ Lib.decDigits q)) ++ [46]) _ rfl rfl _ hBd.out (by have := hq1.out; simp; omega) s7).mono ?_
   rintro e x9 ⟨⟨v2, rfl⟩, hB7, hW7⟩
   replace hBd := Lib.hid hB7
   replace W6 := Lib.hid (W6.out.trans hW7)
   clear hB7 hW7 s7
   have s7 : w.heap.size + 1 ≤ x9.heap.size := by have := W6.out.1.size; omega
   have t7 := Lib.hid (htab.out.below (hbl.out.trans (W6.out.1.mono (by omega))))
   have E7 : x9.heap[x4.heap.size + 1]? = _ := W6.out.2 (x4.heap.size + 1) _ e8.out (fun e => n8.out (Option.some.inj e)) (fun c fz e => by simp at e)
   have f0 : x9.cell? ⟨x4.heap.size + 1, 0, none⟩ = some (.int .u64 ((lo r : Nat) : Int)) := by rw [Lib.cell_of_heap E7]; rfl
   have f1 : x9.cell? ⟨x4.heap.size + 1, 1, none⟩ = some (.string (hs r)) := by rw [Lib.cell_of_heap E7]; rfl
   clear E7
   go_wp2_with fail
   refine (not1_v (w.heap.size + 1) (w.heap.size + 1) r p (p : Int) rfl (([] ++ (List.replicate (1 - (Lib.decDigits q).length) 48 ++ Lib.decDigits q)) ++ [46]) hr.out hp.out (by have := hq1.out; simp; omega) _ hBd.out t7.out s7).mono ?_
   rintro e x10 ⟨rfl, hB7, hW7⟩
   replace hBd := Lib.hid hB7
   replace W6 := Lib.hid (W6.out.trans hW7)
   clear hB7 hW7 s7 t7 f0 f1
   have s7 : w.heap.size + 1 ≤ x10.heap.size := by have := W6.out.1.size; omega
   have hfin := hBd.out
   obtain ⟨fin, hf⟩ : ∃ f, f = (([] ++ (List.replicate (1 - (Lib.decDigits q).length) 48 ++ Lib.decDigits q)) ++ [46]) ++ (List.replicate (p - (Lib.decDigits r).length) 48 ++ Lib.decDigits r) := ⟨_, rfl⟩
   rw [← hf] at hfin
   replace hf := Lib.hid hf
   replace hfin := Lib.hid hfin
   clear hBd
   go_wp2_with fail
   refine (Tryz.Builder_String_any_k _ _ fin _ hfin.out s7).mono ?_
   rintro e xe ⟨rfl, h1, h2, h3⟩
   replace W6 := Lib.hid (hbl.out.trans ((W6.out.1.trans h2).mono (by omega)))
   clear h1 h2 h3
   go_wp2_with fail
   exact bodyPost_ret (v := .string ⟨fin.toArray⟩) (by simp [results, Tryz.results53, go_sem]) rfl ⟨by rw [hf.out]; simp, W6.out⟩
  ·obtain rfl : s = [] := hs0.out (by omega)
   obtain rfl : T = [] := ht0.out (by omega)
   have p4 : ¬ 0 < (p : Int) := by omega
   have W6 := Lib.hid (Wr.refl (w.heap.size + 1) (w.heap.size + 1) x6)
   have s7 : w.heap.size + 1 ≤ x6.heap.size := by have := W6.out.1.size; omega
   have t7 := Lib.hid (htab.out.below (hbl.out.trans (W6.out.1.mono (by omega))))
   have E7 : x6.heap[x4.heap.size]? = _ := W6.out.2 (x4.heap.size) _ e7.out (fun e => n7.out (Option.some.inj e)) (fun c fz e => by simp at e)
   have f0 : x6.cell? ⟨x4.heap.size, 0, none⟩ = some (.int .u64 ((lo q : Nat) : Int)) := by rw [Lib.cell_of_heap E7]; rfl
   have f1 : x6.cell? ⟨x4.heap.size, 1, none⟩ = some (.string (hs q)) := by rw [Lib.cell_of_heap E7]; rfl
   clear E7
   go_wp2_with fail
   refine (not1_v (w.heap.size + 1) (w.heap.size + 1) q 1 1 rfl [] hq.out (by decide) (by decide) _ hBd.out t7.out s7).mono ?_
   rintro e x8 ⟨rfl, hB7, hW7⟩
   replace hBd := Lib.hid hB7
   replace W6 := Lib.hid (W6.out.trans hW7)
   clear hB7 hW7 s7 t7 f0 f1
   have s7 : w.heap.size + 1 ≤ x8.heap.size := by have := W6.out.1.size; omega
   have hfin := hBd.out
   obtain ⟨fin, hf⟩ : ∃ f, f = ([] ++ (List.replicate (1 - (Lib.decDigits q).length) 48 ++ Lib.decDigits q)) := ⟨_, rfl⟩
   rw [← hf] at hfin
   replace hf := Lib.hid hf
   replace hfin := Lib.hid hfin
   clear hBd
   go_wp2_with fail
   refine (Tryz.Builder_String_any_k _ _ fin _ hfin.out s7).mono ?_
   rintro e xe ⟨rfl, h1, h2, h3⟩
   replace W6 := Lib.hid (hbl.out.trans ((W6.out.1.trans h2).mono (by omega)))
   clear h1 h2 h3
   go_wp2_with fail
   exact bodyPost_ret (v := .string ⟨fin.toArray⟩) (by simp [results, Tryz.results53, go_sem]) rfl ⟨by rw [hf.out]; simp, W6.out⟩
end Go.Proofs.YtahfcciihkkegaaGreatDoor
namespace Go.Proofs.YtahfcciihkkegaaGreatDoor
open Go.RowKit
attribute [local irreducible] lo hs sm s64 c64 d64 b64 mh ml pd pc qd qc val hiB str cmpI srD lz nb isq decB zl zh zs fe txt
set_option maxHeartbeats 4000000 in
set_option maxRecDepth 100000 in
theorem dtext_err (a : Rat) (n v z c : Int) (HR : ∀ w, Calls Tryz.prog 45 #[fracV a, .int .i64 n, .int .i64 v] w fun xe w' => xe = .returned (.tuple #[intV z, .int .i64 c]) ∧ Below w.heap.size w w') (h1 : (c != 0) = true) (w : World) :
  Calls Tryz.prog 14 #[fracV a, .int .i64 n, .int .i64 v] w fun xe w' => xe = .returned (.tuple #[.string ⟨#[]⟩, .int .i64 c]) ∧ Below w.heap.size w w' := by
 have hL0 : GL w w [] := GL.start w
 replace HR := Lib.hid HR
 replace hL0 := (hL0.new rfl [.int .u64 ((zl a.num : Nat) : Int), .string (zh a.num), .bool (zs a.num), .int .u64 ((lo (fe a) : Nat) : Int), .string (hs (fe a))] 34)
 generalize hweq : (w.alloc (.cells #[.int .u64 ((zl a.num : Nat) : Int), .string (zh a.num), .bool (zs a.num), .int .u64 ((lo (fe a) : Nat) : Int), .string (hs (fe a))] 34)) = x1 at hL0
 go_enter Tryz.func14, Tryz.ntmps14
 have hN0 := cells_of _ 0 [] rfl (hL0.get _ _ List.mem_cons_self)
 simp only [cellsF, and_true, Nat.zero_add, Nat.reduceAdd] at hN0
 go_wp2_with fail
 clear hN0
 with_reducible refine Calls.mono (HR.out _) ?_
 rintro e x2 ⟨rfl, hb⟩
 replace hL0 := hL0.call hb
 clear hb hweq
 replace hL0 := (hL0.new rfl [.int .u64 ((zl z : Nat) : Int), .string (zh z), .bool (zs z)] 32)
 generalize hweq : (x2.alloc (.cells #[.int .u64 ((zl z : Nat) : Int), .string (zh z), .bool (zs z)] 32)) = x3 at hL0
 go_wp2_with fail
 exact bodyPost_ret (v := .tuple #[.string ⟨#[]⟩, .int .i64 c]) (by simp [results, Tryz.results14, go_sem]) rfl ⟨rfl, hL0.bl⟩
set_option maxHeartbeats 4000000 in
set_option maxRecDepth 100000 in
theorem dtext_ok (a : Rat) (n v z : Int) (s : ByteArray) (HR : ∀ w, Calls Tryz.prog 45 #[fracV a, .int .i64 n, .int .i64 v] w fun xe w' => xe = .returned (.tuple #[intV z, .int .i64 0]) ∧ Below w.heap.size w w') (HN : ∀ w, Tab w → Calls Tryz.prog 53 #[intV z, .int .i64 n] w fun xe w' => xe = .returned (.string s) ∧ Below w.heap.size w w') (w : World) (htab : Tab w) :
  Calls Tryz.prog 14 #[fracV a, .int .i64 n, .int .i64 v] w fun xe w' => xe = .returned (.tuple #[.string s, .int .i64 0]) ∧ Below w.heap.size w w' := by
 have hL0 : GL w w [] := GL.start w
 replace HR := Lib.hid HR
 replace HN := Lib.hid HN
 replace hL0 := (hL0.new rfl [.int .u64 ((zl a.num : Nat) : Int), .string (zh a.num), .bool (zs a.num), .int .u64 ((lo (fe a) : Nat) : Int), .string (hs (fe a))] 34)
 generalize hweq : (w.alloc (.cells #[.int .u64 ((zl a.num : Nat) : Int), .string (zh a.num), .bool (zs a.num), .int .u64 ((lo (fe a) : Nat) : Int), .string (hs (fe a))] 34)) = x1 at hL0
 go_enter Tryz.func14, Tryz.ntmps14
 have hN0 := cells_of _ 0 [] rfl (hL0.get _ _ List.mem_cons_self)
 simp only [cellsF, and_true, Nat.zero_add, Nat.reduceAdd] at hN0
 go_wp2_with fail
 clear hN0
 with_reducible refine Calls.mono (HR.out _) ?_
 rintro e x2 ⟨rfl, hb⟩
 replace hL0 := hL0.call hb
 clear hb hweq
 replace hL0 := (hL0.new rfl [.int .u64 ((zl z : Nat) : Int), .string (zh z), .bool (zs z)] 32)
 generalize hweq : (x2.alloc (.cells #[.int .u64 ((zl z : Nat) : Int), .string (zh z), .bool (zs z)] 32)) = x3 at hL0
 have hN0 := cells_of _ 0 [] rfl (hL0.get _ _ List.mem_cons_self)
 simp only [cellsF, and_true, Nat.zero_add, Nat.reduceAdd] at hN0
 go_wp2_with fail
 clear hN0
 with_reducible refine Calls.mono (HN.out _ (htab.below hL0.bl)) ?_
 rintro e x4 ⟨rfl, hb⟩
 replace hL0 := hL0.call hb
 clear hb hweq
 go_wp2_with fail
 exact bodyPost_ret (v := .tuple #[.string s, .int .i64 0]) (by simp [results, Tryz.results14, go_sem]) rfl ⟨rfl, hL0.bl⟩
set_option maxHeartbeats 4000000 in
set_option maxRecDepth 100000 in
theorem dbeh_ok (s t : ByteArray) (n k u r : Nat) (b : Bool) (HP : ∀ w, Calls Tryz.prog 66 #[.string t] w fun xe w' => xe = .returned (.tuple #[natV n, .int .i64 0]) ∧ Below w.heap.size w w') (HT : ∀ w, Calls Tryz.prog 47 #[.int .i64 (k : Int)] w fun xe w' => xe = .returned (natV u) ∧ Below w.heap.size w w') (HS : ∀ w, Calls Tryz.prog 130 #[natV n, natV u] w fun xe w' => xe = .returned (.tuple #[natV r, .bool b]) ∧ Below w.heap.size w w') (hp : (ByteArray.mk #[49]) ++ s = t) (hk : s.size = k) (hk2 : ¬ 9223372036854775807 < 1 + k) (hk3 : ¬ 9223372036854775806 < k) (hk4 : 1 + k ≤ 9223372036854775807) (w : World) :
  Calls Tryz.prog 67 #[.string s] w fun xe w' => xe = .returned (.tuple #[natV r, .int .i64 0]) ∧ Below w.heap.size w w' := by
 have hL0 : GL w w [] := GL.start w
 replace HP := Lib.hid HP
 replace HT := Lib.hid HT
 replace HS := Lib.hid HS
 replace hL0 := (hL0.new rfl [.int .u64 0, .string ⟨#[]⟩] 30)
 generalize hweq : (w.alloc (.cells #[.int .u64 0, .string ⟨#[]⟩] 30)) = x1 at hL0
 go_enter Tryz.func67, Tryz.ntmps67
 go_wp2_with fail
 with_reducible refine Calls.mono (HP.out _) ?_
 rintro e x2 ⟨rfl, hb⟩
 replace hL0 := hL0.call hb
 clear hb hweq
 replace hL0 := (hL0.new rfl [.int .u64 ((lo n : Nat) : Int), .string (hs n)] 30)
 generalize hweq : (x2.alloc (.cells #[.int .u64 ((lo n : Nat) : Int), .string (hs n)] 30)) = x3 at hL0
 go_upto_region 4 with fail
 clear hweq
 refine region_gh (by kernel_rfl) (by kernel_rfl) ?_
 refine lex_seg (gl := []) 8 (by kernel_rfl) ?_
 intro α iα F hF1 hF2
 have hq := GL.seg hF1 hL0
 simp only [fcC, cellsC, and_true, Nat.zero_add, Nat.reduceAdd] at hq
 simp only [List.take_succ_cons, List.take_zero, List.drop_succ_cons, List.drop_zero, List.take_nil, List.drop_nil]
 repeat (go_big_quiet_step (first | fail | (go_at_call 47; with_reducible exact seg_call hF2 HT.out _) | (go_at_call 130; with_reducible exact seg_call hF2 HS.out _)))
 refine wpQuiet_nil ?_
 clear hq hF1 hF2 iα F α
 refine lex_new [.int .u64 0, .string ⟨#[]⟩] 6 30 30 rfl rfl (of_decide_eq_true (by kernel_rfl)) (by kernel_rfl) rfl new_natc ?_
 simp only [Act.put, List.setIfInBounds_toArray, List.set_cons_succ, List.set_cons_zero]
 refine lex_put [.int .u64 ((lo r : Nat) : Int), .string (hs r)] [.int .u64 0, .string ⟨#[]⟩] 6 30 (.tmp 24) rfl (by kernel_rfl) (by simp [toG, upd]) rfl (fun w k h => put_natc _ _ _ _ w k h) ?_
 simp only [Act.put]
 refine lex_seg (gl := [(6, [.int .u64 ((lo r : Nat) : Int), .string (hs r)], true), (6, [.int .u64 0, .string ⟨#[]⟩], false)]) 1 (by kernel_rfl) ?_
 intro α iα F hF1 hF2
 have hq := GL.seg hF1 hL0
 simp only [fcC, cellsC, and_true, Nat.zero_add, Nat.reduceAdd] at hq
 simp only [List.take_succ_cons, List.take_zero, List.drop_succ_cons, List.drop_zero, List.take_nil, List.drop_nil]
 repeat (go_big_quiet_step (first | fail | (go_at_call 47; with_reducible exact seg_call hF2 HT.out _) | (go_at_call 130; with_reducible exact seg_call hF2 HS.out _)))
 refine wpQuiet_nil ?_
 clear hq hF1 hF2 iα F α
 refine lexG_nil ?_
 intro κ x4 hS
 replace hL0 := hL0.ghs hS [(6, [.int .u64 ((lo r : Nat) : Int), .string (hs r)])] (by simp) (by intro p hp; simp only [List.mem_cons, List.not_mem_nil, or_false] at hp; rcases hp with rfl <;> exact ⟨_, by simp only [toG, upd]; rfl⟩)
 simp only [List.map_cons, List.map_nil, List.cons_append, List.nil_append] at hL0
 simp only [over_toG, over_nil, Act.put, List.setIfInBounds_toArray, List.set_cons_succ, List.set_cons_zero]
 clear hS
 generalize κ 6 = k4_6 at *
 have hA := hL0.fc
 simp only [fcG, cellsF, neK, and_true, ne_eq, Nat.zero_add, Nat.reduceAdd] at hA
 have hP := hL0.put 2 (w.heap.size) _ rfl [.int .u64 ((lo r : Nat) : Int), .string (hs r)] rfl
 simp only [setAll, List.set_cons_zero, List.set_cons_succ] at hP
 generalize hput1 : ((x4.setCell ⟨w.heap.size, 0, none⟩ (.int .u64 ((lo r : Nat) : Int))).setCell ⟨w.heap.size, 1, none⟩ (.string (hs r))) = x5 at hP
 have hB1 := hP.fc
 simp only [fcG, cellsF, neK, and_true, ne_eq, Nat.zero_add, Nat.reduceAdd] at hB1
 replace hL0 := hP
 go_wp2_with fail
 exact bodyPost_ret (v := .tuple #[.agg #[.int .u64 ((lo r : Nat) : Int), .string (hs r)], .int .i64 0]) (by simp [results, Tryz.results67, go_sem, hB1]) rfl ⟨rfl, hL0.bl⟩
set_option maxHeartbeats 4000000 in
set_option maxRecDepth 100000 in
theorem dparse_end (s d p : ByteArray) (l : Nat) (g : Bool) (HC : ∀ w, Calls Tryz.prog 64 #[.string s, .string (ByteArray.mk #[45])] w fun xe w' => xe = .returned (.tuple #[.string d, .bool g]) ∧ Below w.heap.size w w') (KT : World → Prop) (hKT : Keeps KT) (HU : ∀ w, KT w → Calls Tryz.prog 65 #[.string d, .string (ByteArray.mk #[46])] w fun xe w' => xe = .returned (.tuple #[.string p, .string ⟨#[]⟩, .bool true]) ∧ Below w.heap.size w w') (hl : s.size = l) (h0 : decide (4096 < (l : Int)) = false) (w : World) (kKT : KT w) :
  Calls Tryz.prog 19 #[.string s] w fun xe w' => xe = .returned (.tuple #[.agg #[.int .u64 0, .string ⟨#[]⟩, .bool false, .int .u64 0, .string ⟨#[]⟩], .int .i64 4]) ∧ Below w.heap.size w w' := by
 have hL0 : GL w w [] := GL.start w
 replace HC := Lib.hid HC
 replace hKT := Lib.hid hKT
 replace HU := Lib.hid HU
 replace hL0 := (hL0.new rfl [.int .u64 0, .string ⟨#[]⟩, .bool false, .int .u64 0, .string ⟨#[]⟩] 34)
 generalize hweq : (w.alloc (.cells #[.int .u64 0, .string ⟨#[]⟩, .bool false, .int .u64 0, .string ⟨#[]⟩] 34)) = x1 at hL0
 go_enter Tryz.func19, Tryz.ntmps19
 go_wp2_with fail
 with_reducible refine Calls.mono (HC.out _) ?_
 rintro e x2 ⟨rfl, hb⟩
 replace hL0 := hL0.call hb
 clear hb hweq
 go_wp2_with fail
 with_reducible refine Calls.mono (HU.out _ (hKT.out.at hL0.bl kKT)) ?_
 rintro e x3 ⟨rfl, hb⟩
 replace hL0 := hL0.call hb
 clear hb
 have hA := hL0.fc
 simp only [fcG, cellsF, neK, and_true, ne_eq, Nat.zero_add, Nat.reduceAdd] at hA
 have hP := hL0.put 0 (w.heap.size) _ rfl [.int .u64 0, .string ⟨#[]⟩, .bool false, .int .u64 0, .string ⟨#[]⟩] rfl
 simp only [setAll, List.set_cons_zero, List.set_cons_succ] at hP
 generalize hput1 : (((((x3.setCell ⟨w.heap.size, 0, none⟩ (.int .u64 0)).setCell ⟨w.heap.size, 1, none⟩ (.string ⟨#[]⟩)).setCell ⟨w.heap.size, 2, none⟩ (.bool false)).setCell ⟨w.heap.size, 3, none⟩ (.int .u64 0)).setCell ⟨w.heap.size, 4, none⟩ (.string ⟨#[]⟩)) = x4 at hP
 have hB1 := hP.fc
 simp only [fcG, cellsF, neK, and_true, ne_eq, Nat.zero_add, Nat.reduceAdd] at hB1
 replace hL0 := hP
 go_wp2_with fail
 exact bodyPost_ret (v := .tuple #[.agg #[.int .u64 0, .string ⟨#[]⟩, .bool false, .int .u64 0, .string ⟨#[]⟩], .int .i64 4]) (by simp [results, Tryz.results19, go_sem, hB1]) rfl ⟨rfl, hL0.bl⟩
set_option maxHeartbeats 4000000 in
set_option maxRecDepth 100000 in
theorem dparse_high_f (s d p q : ByteArray) (l h : Nat) (c : Int) (g : Bool) (HC : ∀ w, Calls Tryz.prog 64 #[.string s, .string (ByteArray.mk #[45])] w fun xe w' => xe = .returned (.tuple #[.string d, .bool g]) ∧ Below w.heap.size w w') (KT : World → Prop) (hKT : Keeps KT) (HU : ∀ w, KT w → Calls Tryz.prog 65 #[.string d, .string (ByteArray.mk #[46])] w fun xe w' => xe = .returned (.tuple #[.string p, .string q, .bool false]) ∧ Below w.heap.size w w') (HP : ∀ w, Calls Tryz.prog 66 #[.string p] w fun xe w' => xe = .returned (.tuple #[natV h, .int .i64 c]) ∧ Below w.heap.size w w') (hl : s.size = l) (h0 : decide (4096 < (l : Int)) = false) (h1 : (c != 0) = true) (w : World) (kKT : KT w) :
  Calls Tryz.prog 19 #[.string s] w fun xe w' => xe = .returned (.tuple #[.agg #[.int .u64 0, .string ⟨#[]⟩, .bool false, .int .u64 0, .string ⟨#[]⟩], .int .i64 c]) ∧ Below w.heap.size w w' := by
 have hL0 : GL w w [] := GL.start w
 replace HC := Lib.hid HC
 replace hKT := Lib.hid hKT
 replace HU := Lib.hid HU
 replace HP := Lib.hid HP
 replace hL0 := (hL0.new rfl [.int .u64 0, .string ⟨#[]⟩, .bool false, .int .u64 0, .string ⟨#[]⟩] 34)
 generalize hweq : (w.alloc (.cells #[.int .u64 0, .string ⟨#[]⟩, .bool false, .int .u64 0, .string ⟨#[]⟩] 34)) = x1 at hL0
 go_enter Tryz.func19, Tryz.ntmps19
 go_wp2_with fail
 with_reducible refine Calls.mono (HC.out _) ?_
 rintro e x2 ⟨rfl, hb⟩
 replace hL0 := hL0.call hb
 clear hb hweq
 go_wp2_with fail
 with_reducible refine Calls.mono (HU.out _ (hKT.out.at hL0.bl kKT)) ?_
 rintro e x3 ⟨rfl, hb⟩
 replace hL0 := hL0.call hb
 clear hb
 go_wp2_with fail
 with_reducible refine Calls.mono (HP.out _) ?_
 rintro e x4 ⟨rfl, hb⟩
 replace hL0 := hL0.call hb
 clear hb
 replace hL0 := (hL0.new rfl [.int .u64 ((lo h : Nat) : Int), .string (hs h)] 30)
 generalize hweq : (x4.alloc (.cells #[.int .u64 ((lo h : Nat) : Int), .string (hs h)] 30)) = x5 at hL0
 have hA := hL0.fc
 simp only [fcG, cellsF, neK, and_true, ne_eq, Nat.zero_add, Nat.reduceAdd] at hA
 have hP := hL0.put 1 (w.heap.size) _ rfl [.int .u64 0, .string ⟨#[]⟩, .bool false, .int .u64 0, .string ⟨#[]⟩] rfl
 simp only [setAll, List.set_cons_zero, List.set_cons_succ] at hP
 generalize hput1 : (((((x5.setCell ⟨w.heap.size, 0, none⟩ (.int .u64 0)).setCell ⟨w.heap.size, 1, none⟩ (.string ⟨#[]⟩)).setCell ⟨w.heap.size, 2, none⟩ (.bool false)).setCell ⟨w.heap.size, 3, none⟩ (.int .u64 0)).setCell ⟨w.heap.size, 4, none⟩ (.string ⟨#[]⟩)) = x6 at hP
 have hB1 := hP.fc
 simp only [fcG, cellsF, neK, and_true, ne_eq, Nat.zero_add, Nat.reduceAdd] at hB1
 replace hL0 := hP
 go_wp2_with fail
 exact bodyPost_ret (v := .tuple #[.agg #[.int .u64 0, .string ⟨#[]⟩, .bool false, .int .u64 0, .string ⟨#[]⟩], .int .i64 c]) (by simp [results, Tryz.results19, go_sem, hB1]) rfl ⟨rfl, hL0.bl⟩
set_option maxHeartbeats 4000000 in
set_option maxRecDepth 100000 in
theorem dparse_zero_f (s d p q : ByteArray) (l h m k u x : Nat) (HC : ∀ w, Calls Tryz.prog 64 #[.string s, .string (ByteArray.mk #[45])] w fun xe w' => xe = .returned (.tuple #[.string d, .bool true]) ∧ Below w.heap.size w w') (KT : World → Prop) (hKT : Keeps KT) (HU : ∀ w, KT w → Calls Tryz.prog 65 #[.string d, .string (ByteArray.mk #[46])] w fun xe w' => xe = .returned (.tuple #[.string p, .string q, .bool false]) ∧ Below w.heap.size w w') (HP : ∀ w, Calls Tryz.prog 66 #[.string p] w fun xe w' => xe = .returned (.tuple #[natV h, .int .i64 0]) ∧ Below w.heap.size w w') (HB : ∀ w, Calls Tryz.prog 67 #[.string q] w fun xe w' => xe = .returned (.tuple #[natV m, .int .i64 0]) ∧ Below w.heap.size w w') (HT : ∀ w, Calls Tryz.prog 47 #[.int .i64 (k : Int)] w fun xe w' => xe = .returned (natV u) ∧ Below w.heap.size w w') (HM : ∀ w, Calls Tryz.prog 68 #[natV h, natV u] w fun xe w' => xe = .returned (natV x) ∧ Below w.heap.size w w') (HA : ∀ w, Calls Tryz.prog 49 #[natV x, natV m] w fun xe w' => xe = .returned (natV 0) ∧ Below w.heap.size w w') (HO : ∀ w, Calls Tryz.prog 52 #[.int .u64 0] w fun xe w' => xe = .returned (natV 0) ∧ Below w.heap.size w w') (hl : s.size = l) (h0 : decide (4096 < (l : Int)) = false) (hk : q.size = k) (w : World) (kKT : KT w) :
  Calls Tryz.prog 19 #[.string s] w fun xe w' => xe = .returned (.tuple #[.agg #[.int .u64 0, .string ⟨#[]⟩, .bool false, .int .u64 0, .string ⟨#[]⟩], .int .i64 4]) ∧ Below w.heap.size w w' := by
 have hL0 : GL w w [] := GL.start w
 replace HC := Lib.hid HC
 replace hKT := Lib.hid hKT
 replace HU := Lib.hid HU
 replace HP := Lib.hid HP
 replace HB := Lib.hid HB
 replace HT := Lib.hid HT
 replace HM := Lib.hid HM
 replace HA := Lib.hid HA
 replace HO := Lib.hid HO
 replace hL0 := (hL0.new rfl [.int .u64 0, .string ⟨#[]⟩, .bool false, .int .u64 0, .string ⟨#[]⟩] 34)
 generalize hweq : (w.alloc (.cells #[.int .u64 0, .string ⟨#[]⟩, .bool false, .int .u64 0, .string ⟨#[]⟩] 34)) = x1 at hL0
 go_enter Tryz.func19, Tryz.ntmps19
 go_wp2_with fail
 with_reducible refine Calls.mono (HC.out _) ?_
 rintro e x2 ⟨rfl, hb⟩
 replace hL0 := hL0.call hb
 clear hb hweq
 go_wp2_with fail
 with_reducible refine Calls.mono (HU.out _ (hKT.out.at hL0.bl kKT)) ?_
 rintro e x3 ⟨rfl, hb⟩
 replace hL0 := hL0.call hb
 clear hb
 go_wp2_with fail
 with_reducible refine Calls.mono (HP.out _) ?_
 rintro e x4 ⟨rfl, hb⟩
 replace hL0 := hL0.call hb
 clear hb
 replace hL0 := (hL0.new rfl [.int .u64 ((lo h : Nat) : Int), .string (hs h)] 30)
 generalize hweq : (x4.alloc (.cells #[.int .u64 ((lo h : Nat) : Int), .string (hs h)] 30)) = x5 at hL0
 go_wp2_with fail
 with_reducible refine Calls.mono (HB.out _) ?_
 rintro e x6 ⟨rfl, hb⟩
 replace hL0 := hL0.call hb
 clear hb hweq
 replace hL0 := (hL0.new rfl [.int .u64 ((lo m : Nat) : Int), .string (hs m)] 30)
 generalize hweq : (x6.alloc (.cells #[.int .u64 ((lo m : Nat) : Int), .string (hs m)] 30)) = x7 at hL0
 go_wp2_with fail
 with_reducible refine Calls.mono (HT.out _) ?_
 rintro e x8 ⟨rfl, hb⟩
 replace hL0 := hL0.call hb
 clear hb hweq
 replace hL0 := (hL0.new rfl [.int .u64 ((lo u : Nat) : Int), .string (hs u)] 30)
 generalize hweq : (x8.alloc (.cells #[.int .u64 ((lo u : Nat) : Int), .string (hs u)] 30)) = x9 at hL0
 go_upto_region 14 with fail
 clear hweq
 refine region_gh (by kernel_rfl) (by kernel_rfl) ?_
 refine lex_seg (gl := []) 5 (by kernel_rfl) ?_
 intro α iα F hF1 hF2
 have hq := GL.seg hF1 hL0
 simp only [fcC, cellsC, and_true, Nat.zero_add, Nat.reduceAdd] at hq
 simp only [List.take_succ_cons, List.take_zero, List.drop_succ_cons, List.drop_zero, List.take_nil, List.drop_nil]
 repeat (go_big_quiet_step (first | fail | (go_at_call 68; with_reducible exact seg_call hF2 HM.out _) | (go_at_call 49; with_reducible exact seg_call hF2 HA.out _)))
 refine wpQuiet_nil ?_
 clear hq hF1 hF2 iα F α
 refine lex_new [.int .u64 0, .string ⟨#[]⟩] 13 30 30 rfl rfl (of_decide_eq_true (by kernel_rfl)) (by kernel_rfl) rfl new_natc ?_
 simp only [Act.put, List.setIfInBounds_toArray, List.set_cons_succ, List.set_cons_zero]
 refine lex_put [.int .u64 ((lo 0 : Nat) : Int), .string (hs 0)] [.int .u64 0, .string ⟨#[]⟩] 13 30 (.tmp 60) rfl (by kernel_rfl) (by simp [toG, upd]) rfl (fun w k h => put_natc _ _ _ _ w k h) ?_
 simp only [Act.put]
 refine lexG_nil ?_
 intro κ x10 hS
 replace hL0 := hL0.ghs hS [(13, [.int .u64 ((lo 0 : Nat) : Int), .string (hs 0)])] (by simp) (by intro p hp; simp only [List.mem_cons, List.not_mem_nil, or_false] at hp; rcases hp with rfl <;> exact ⟨_, by simp only [toG, upd]; rfl⟩)
 simp only [List.map_cons, List.map_nil, List.cons_append, List.nil_append] at hL0
 simp only [over_toG, over_nil, Act.put, List.setIfInBounds_toArray, List.set_cons_succ, List.set_cons_zero]
 clear hS
 generalize κ 13 = k10_13 at *
 go_upto_region 15 with fail
 obtain ⟨α, iα, F, hF1, hF2⟩ := cls x10
 have hq0 := cls_box hF1 hL0 _ _ List.mem_cons_self
 simp only [cellsC, and_true, Nat.zero_add, Nat.reduceAdd] at hq0
 refine region_qs 6 (C := fun w' => ∃ x, w' = F x) (by kernel_rfl) (by kernel_rfl) (cls_drew hF2) ?_
 simp only [List.take_succ_cons, List.take_zero, List.drop_succ_cons, List.drop_zero, List.take_nil, List.drop_nil]
 repeat (go_big_quiet_step (first | fail | (go_at_call 52; with_reducible exact cls_call hF1 hF2 HO.out _)))
 refine wpQuiet_nil ?_
 rintro wq ⟨xq, rfl⟩
 replace hL0 := hL0.call (hF1 xq)
 clear  hq0 hF2
 generalize F xq = x11 at hL0 ⊢
 clear hF1 xq iα F α
 have hA := hL0.fc
 simp only [fcG, cellsF, neK, and_true, ne_eq, Nat.zero_add, Nat.reduceAdd] at hA
 have hP := hL0.put 4 (w.heap.size) _ rfl [.int .u64 0, .string ⟨#[]⟩, .bool false, .int .u64 0, .string ⟨#[]⟩] rfl
 simp only [setAll, List.set_cons_zero, List.set_cons_succ] at hP
 generalize hput1 : (((((x11.setCell ⟨w.heap.size, 0, none⟩ (.int .u64 0)).setCell ⟨w.heap.size, 1, none⟩ (.string ⟨#[]⟩)).setCell ⟨w.heap.size, 2, none⟩ (.bool false)).setCell ⟨w.heap.size, 3, none⟩ (.int .u64 0)).setCell ⟨w.heap.size, 4, none⟩ (.string ⟨#[]⟩)) = x12 at hP
 have hB1 := hP.fc
 simp only [fcG, cellsF, neK, and_true, ne_eq, Nat.zero_add, Nat.reduceAdd] at hB1
 replace hL0 := hP
 go_wp2_with fail
 exact bodyPost_ret (v := .tuple #[.agg #[.int .u64 0, .string ⟨#[]⟩, .bool false, .int .u64 0, .string ⟨#[]⟩], .int .i64 4]) (by simp [results, Tryz.results19, go_sem, hB1]) rfl ⟨rfl, hL0.bl⟩
set_option maxHeartbeats 4000000 in
set_option maxRecDepth 100000 in
theorem dparse_pos_f (s d p q : ByteArray) (l h m k u x y : Nat) (z e : Int) (a : Rat) (HC : ∀ w, Calls Tryz.prog 64 #[.string s, .string (ByteArray.mk #[45])] w fun xe w' => xe = .returned (.tuple #[.string d, .bool false]) ∧ Below w.heap.size w w') (KT : World → Prop) (hKT : Keeps KT) (HU : ∀ w, KT w → Calls Tryz.prog 65 #[.string d, .string (ByteArray.mk #[46])] w fun xe w' => xe = .returned (.tuple #[.string p, .string q, .bool false]) ∧ Below w.heap.size w w') (HP : ∀ w, Calls Tryz.prog 66 #[.string p] w fun xe w' => xe = .returned (.tuple #[natV h, .int .i64 0]) ∧ Below w.heap.size w w') (HB : ∀ w, Calls Tryz.prog 67 #[.string q] w fun xe w' => xe = .returned (.tuple #[natV m, .int .i64 0]) ∧ Below w.heap.size w w') (HT : ∀ w, Calls Tryz.prog 47 #[.int .i64 (k : Int)] w fun xe w' => xe = .returned (natV u) ∧ Below w.heap.size w w') (HM : ∀ w, Calls Tryz.prog 68 #[natV h, natV u] w fun xe w' => xe = .returned (natV x) ∧ Below w.heap.size w w') (HA : ∀ w, Calls Tryz.prog 49 #[natV x, natV m] w fun xe w' => xe = .returned (natV y) ∧ Below w.heap.size w w') (HJ : ∀ w, Calls Tryz.prog 69 #[.bool false, natV y] w fun xe w' => xe = .returned (intV z) ∧ Below w.heap.size w w') (HF : ∀ w, Calls Tryz.prog 46 #[intV z, natV u] w fun xe w' => xe = .returned (.tuple #[fracV a, .int .i64 e]) ∧ Below w.heap.size w w') (hl : s.size = l) (h0 : decide (4096 < (l : Int)) = false) (hk : q.size = k) (w : World) (kKT : KT w) :
  Calls Tryz.prog 19 #[.string s] w fun xe w' => xe = .returned (.tuple #[fracV a, .int .i64 e]) ∧ Below w.heap.size w w' := by
 have hL0 : GL w w [] := GL.start w
 replace HC := Lib.hid HC
 replace hKT := Lib.hid hKT
 replace HU := Lib.hid HU
 replace HP := Lib.hid HP
 replace HB := Lib.hid HB
 replace HT := Lib.hid HT
 replace HM := Lib.hid HM
 replace HA := Lib.hid HA
 replace HJ := Lib.hid HJ
 replace HF := Lib.hid HF
 replace hL0 := (hL0.new rfl [.int .u64 0, .string ⟨#[]⟩, .bool false, .int .u64 0, .string ⟨#[]⟩] 34)
 generalize hweq : (w.alloc (.cells #[.int .u64 0, .string ⟨#[]⟩, .bool false, .int .u64 0, .string ⟨#[]⟩] 34)) = x1 at hL0
 go_enter Tryz.func19, Tryz.ntmps19
 go_wp2_with fail
 with_reducible refine Calls.mono (HC.out _) ?_
 rintro e x2 ⟨rfl, hb⟩
 replace hL0 := hL0.call hb
 clear hb hweq
 go_wp2_with fail
 with_reducible refine Calls.mono (HU.out _ (hKT.out.at hL0.bl kKT)) ?_
 rintro e x3 ⟨rfl, hb⟩
 replace hL0 := hL0.call hb
 clear hb
 go_wp2_with fail
 with_reducible refine Calls.mono (HP.out _) ?_
 rintro e x4 ⟨rfl, hb⟩
 replace hL0 := hL0.call hb
 clear hb
 replace hL0 := (hL0.new rfl [.int .u64 ((lo h : Nat) : Int), .string (hs h)] 30)
 generalize hweq : (x4.alloc (.cells #[.int .u64 ((lo h : Nat) : Int), .string (hs h)] 30)) = x5 at hL0
 go_wp2_with fail
 with_reducible refine Calls.mono (HB.out _) ?_
 rintro e x6 ⟨rfl, hb⟩
 replace hL0 := hL0.call hb
 clear hb hweq
 replace hL0 := (hL0.new rfl [.int .u64 ((lo m : Nat) : Int), .string (hs m)] 30)
 generalize hweq : (x6.alloc (.cells #[.int .u64 ((lo m : Nat) : Int), .string (hs m)] 30)) = x7 at hL0
 go_wp2_with fail
 with_reducible refine Calls.mono (HT.out _) ?_
 rintro e x8 ⟨rfl, hb⟩
 replace hL0 := hL0.call hb
 clear hb hweq
 replace hL0 := (hL0.new rfl [.int .u64 ((lo u : Nat) : Int), .string (hs u)] 30)
 generalize hweq : (x8.alloc (.cells #[.int .u64 ((lo u : Nat) : Int), .string (hs u)] 30)) = x9 at hL0
 go_upto_region 14 with fail
 clear hweq
 refine region_gh (by kernel_rfl) (by kernel_rfl) ?_
 refine lex_seg (gl := []) 5 (by kernel_rfl) ?_
 intro α iα F hF1 hF2
 have hq := GL.seg hF1 hL0
 simp only [fcC, cellsC, and_true, Nat.zero_add, Nat.reduceAdd] at hq
 simp only [List.take_succ_cons, List.take_zero, List.drop_succ_cons, List.drop_zero, List.take_nil, List.drop_nil]
 repeat (go_big_quiet_step (first | fail | (go_at_call 68; with_reducible exact seg_call hF2 HM.out _) | (go_at_call 49; with_reducible exact seg_call hF2 HA.out _)))
 refine wpQuiet_nil ?_
 clear hq hF1 hF2 iα F α
 refine lex_new [.int .u64 0, .string ⟨#[]⟩] 13 30 30 rfl rfl (of_decide_eq_true (by kernel_rfl)) (by kernel_rfl) rfl new_natc ?_
 simp only [Act.put, List.setIfInBounds_toArray, List.set_cons_succ, List.set_cons_zero]
 refine lex_put [.int .u64 ((lo y : Nat) : Int), .string (hs y)] [.int .u64 0, .string ⟨#[]⟩] 13 30 (.tmp 60) rfl (by kernel_rfl) (by simp [toG, upd]) rfl (fun w k h => put_natc _ _ _ _ w k h) ?_
 simp only [Act.put]
 refine lexG_nil ?_
 intro κ x10 hS
 replace hL0 := hL0.ghs hS [(13, [.int .u64 ((lo y : Nat) : Int), .string (hs y)])] (by simp) (by intro p hp; simp only [List.mem_cons, List.not_mem_nil, or_false] at hp; rcases hp with rfl <;> exact ⟨_, by simp only [toG, upd]; rfl⟩)
 simp only [List.map_cons, List.map_nil, List.cons_append, List.nil_append] at hL0
 simp only [over_toG, over_nil, Act.put, List.setIfInBounds_toArray, List.set_cons_succ, List.set_cons_zero]
 clear hS
 generalize κ 13 = k10_13 at *
 go_upto_region 15 with fail
 obtain ⟨α, iα, F, hF1, hF2⟩ := cls x10
 refine region_qs 6 (C := fun w' => ∃ x, w' = F x) (by kernel_rfl) (by kernel_rfl) (cls_drew hF2) ?_
 simp only [List.take_succ_cons, List.take_zero, List.drop_succ_cons, List.drop_zero, List.take_nil, List.drop_nil]
 repeat (go_big_quiet_step (first | fail))
 refine wpQuiet_nil ?_
 rintro wq ⟨xq, rfl⟩
 replace hL0 := hL0.call (hF1 xq)
 clear  hF2
 generalize F xq = x11 at hL0 ⊢
 clear hF1 xq iα F α
 go_upto_region 17 with fail
 obtain ⟨α, iα, F, hF1, hF2⟩ := cls x11
 have hq0 := cls_box hF1 hL0 _ _ List.mem_cons_self
 simp only [cellsC, and_true, Nat.zero_add, Nat.reduceAdd] at hq0
 have hq1 := cls_box hF1 hL0 _ _ (List.mem_cons_of_mem _ List.mem_cons_self)
 simp only [cellsC, and_true, Nat.zero_add, Nat.reduceAdd] at hq1
 refine region_qs 7 (C := fun w' => ∃ x, w' = F x) (by kernel_rfl) (by kernel_rfl) (cls_drew hF2) ?_
 simp only [List.take_succ_cons, List.take_zero, List.drop_succ_cons, List.drop_zero, List.take_nil, List.drop_nil]
 repeat (go_big_quiet_step (first | fail | (go_at_call 69; with_reducible exact cls_call hF1 hF2 HJ.out _) | (go_at_call 46; with_reducible exact cls_call hF1 hF2 HF.out _)))
 refine wpQuiet_nil ?_
 rintro wq ⟨xq, rfl⟩
 replace hL0 := hL0.call (hF1 xq)
 clear  hq0 hq1 hF2
 generalize F xq = x12 at hL0 ⊢
 clear hF1 xq iα F α
 have hA := hL0.fc
 simp only [fcG, cellsF, neK, and_true, ne_eq, Nat.zero_add, Nat.reduceAdd] at hA
 have hP := hL0.put 4 (w.heap.size) _ rfl [.int .u64 ((zl a.num : Nat) : Int), .string (zh a.num), .bool (zs a.num), .int .u64 ((lo (fe a) : Nat) : Int), .string (hs (fe a))] rfl
 simp only [setAll, List.set_cons_zero, List.set_cons_succ] at hP
 generalize hput1 : (((((x12.setCell ⟨w.heap.size, 0, none⟩ (.int .u64 ((zl a.num : Nat) : Int))).setCell ⟨w.heap.size, 1, none⟩ (.string (zh a.num))).setCell ⟨w.heap.size, 2, none⟩ (.bool (zs a.num))).setCell ⟨w.heap.size, 3, none⟩ (.int .u64 ((lo (fe a) : Nat) : Int))).setCell ⟨w.heap.size, 4, none⟩ (.string (hs (fe a)))) = x13 at hP
 have hB1 := hP.fc
 simp only [fcG, cellsF, neK, and_true, ne_eq, Nat.zero_add, Nat.reduceAdd] at hB1
 replace hL0 := hP
 go_wp2_with fail
 exact bodyPost_ret (v := .tuple #[.agg #[.int .u64 ((zl a.num : Nat) : Int), .string (zh a.num), .bool (zs a.num), .int .u64 ((lo (fe a) : Nat) : Int), .string (hs (fe a))], .int .i64 e]) (by simp [results, Tryz.results19, go_sem, hB1]) rfl ⟨rfl, hL0.bl⟩
set_option maxHeartbeats 4000000 in
set_option maxRecDepth 100000 in
theorem dparse_neg_f (s d p q : ByteArray) (l h m k u x y : Nat) (z e : Int) (a : Rat) (HC : ∀ w, Calls Tryz.prog 64 #[.string s, .string (ByteArray.mk #[45])] w fun xe w' => xe = .returned (.tuple #[.string d, .bool true]) ∧ Below w.heap.size w w') (KT : World → Prop) (hKT : Keeps KT) (HU : ∀ w, KT w → Calls Tryz.prog 65 #[.string d, .string (ByteArray.mk #[46])] w fun xe w' => xe = .returned (.tuple #[.string p, .string q, .bool false]) ∧ Below w.heap.size w w') (HP : ∀ w, Calls Tryz.prog 66 #[.string p] w fun xe w' => xe = .returned (.tuple #[natV h, .int .i64 0]) ∧ Below w.heap.size w w') (HB : ∀ w, Calls Tryz.prog 67 #[.string q] w fun xe w' => xe = .returned (.tuple #[natV m, .int .i64 0]) ∧ Below w.heap.size w w') (HT : ∀ w, Calls Tryz.prog 47 #[.int .i64 (k : Int)] w fun xe w' => xe = .returned (natV u) ∧ Below w.heap.size w w') (HM : ∀ w, Calls Tryz.prog 68 #[natV h, natV u] w fun xe w' => xe = .returned (natV x) ∧ Below w.heap.size w w') (HA : ∀ w, Calls Tryz.prog 49 #[natV x, natV m] w fun xe w' => xe = .returned (natV y) ∧ Below w.heap.size w w') (HO : ∀ w, Calls Tryz.prog 52 #[.int .u64 0] w fun xe w' => xe = .returned (natV 0) ∧ Below w.heap.size w w') (HJ : ∀ w, Calls Tryz.prog 69 #[.bool true, natV y] w fun xe w' => xe = .returned (intV z) ∧ Below w.heap.size w w') (HF : ∀ w, Calls Tryz.prog 46 #[intV z, natV u] w fun xe w' => xe = .returned (.tuple #[fracV a, .int .i64 e]) ∧ Below w.heap.size w w') (hl : s.size = l) (h0 : decide (4096 < (l : Int)) = false) (hk : q.size = k) (hy : 0 < y) (w : World) (kKT : KT w) :
  Calls Tryz.prog 19 #[.string s] w fun xe w' => xe = .returned (.tuple #[fracV a, .int .i64 e]) ∧ Below w.heap.size w w' := by
 have hL0 : GL w w [] := GL.start w
 replace HC := Lib.hid HC
 replace hKT := Lib.hid hKT
 replace HU := Lib.hid HU
 replace HP := Lib.hid HP
 replace HB := Lib.hid HB
 replace HT := Lib.hid HT
 replace HM := Lib.hid HM
 replace HA := Lib.hid HA
 replace HO := Lib.hid HO
 replace HJ := Lib.hid HJ
 replace HF := Lib.hid HF
 have hz := eq_zero hy
 clear hy
 rcases hz with e0 | ⟨e0, e1⟩
 all_goals (
  replace hL0 := (hL0.new rfl [.int .u64 0, .string ⟨#[]⟩, .bool false, .int .u64 0, .string ⟨#[]⟩] 34)
  generalize hweq : (w.alloc (.cells #[.int .u64 0, .string ⟨#[]⟩, .bool false, .int .u64 0, .string ⟨#[]⟩] 34)) = x1 at hL0
  go_enter Tryz.func19, Tryz.ntmps19
  go_wp2_with fail
  with_reducible refine Calls.mono (HC.out _) ?_
  rintro e x2 ⟨rfl, hb⟩
  replace hL0 := hL0.call hb
  clear hb hweq
  go_wp2_with fail
  with_reducible refine Calls.mono (HU.out _ (hKT.out.at hL0.bl kKT)) ?_
  rintro e x3 ⟨rfl, hb⟩
  replace hL0 := hL0.call hb
  clear hb
  go_wp2_with fail
  with_reducible refine Calls.mono (HP.out _) ?_
  rintro e x4 ⟨rfl, hb⟩
  replace hL0 := hL0.call hb
  clear hb
  replace hL0 := (hL0.new rfl [.int .u64 ((lo h : Nat) : Int), .string (hs h)] 30)
  generalize hweq : (x4.alloc (.cells #[.int .u64 ((lo h : Nat) : Int), .string (hs h)] 30)) = x5 at hL0
  go_wp2_with fail
  with_reducible refine Calls.mono (HB.out _) ?_
  rintro e x6 ⟨rfl, hb⟩
  replace hL0 := hL0.call hb
  clear hb hweq
  replace hL0 := (hL0.new rfl [.int .u64 ((lo m : Nat) : Int), .string (hs m)] 30)
  generalize hweq : (x6.alloc (.cells #[.int .u64 ((lo m : Nat) : Int), .string (hs m)] 30)) = x7 at hL0
  go_wp2_with fail
  with_reducible refine Calls.mono (HT.out _) ?_
  rintro e x8 ⟨rfl, hb⟩
  replace hL0 := hL0.call hb
  clear hb hweq
  replace hL0 := (hL0.new rfl [.int .u64 ((lo u : Nat) : Int), .string (hs u)] 30)
  generalize hweq : (x8.alloc (.cells #[.int .u64 ((lo u : Nat) : Int), .string (hs u)] 30)) = x9 at hL0
  go_upto_region 14 with fail
  clear hweq
  refine region_gh (by kernel_rfl) (by kernel_rfl) ?_
  refine lex_seg (gl := []) 5 (by kernel_rfl) ?_
  intro α iα F hF1 hF2
  have hq := GL.seg hF1 hL0
  simp only [fcC, cellsC, and_true, Nat.zero_add, Nat.reduceAdd] at hq
  simp only [List.take_succ_cons, List.take_zero, List.drop_succ_cons, List.drop_zero, List.take_nil, List.drop_nil]
  repeat (go_big_quiet_step (first | fail | (go_at_call 68; with_reducible exact seg_call hF2 HM.out _) | (go_at_call 49; with_reducible exact seg_call hF2 HA.out _)))
  refine wpQuiet_nil ?_
  clear hq hF1 hF2 iα F α
  refine lex_new [.int .u64 0, .string ⟨#[]⟩] 13 30 30 rfl rfl (of_decide_eq_true (by kernel_rfl)) (by kernel_rfl) rfl new_natc ?_
  simp only [Act.put, List.setIfInBounds_toArray, List.set_cons_succ, List.set_cons_zero]
  refine lex_put [.int .u64 ((lo y : Nat) : Int), .string (hs y)] [.int .u64 0, .string ⟨#[]⟩] 13 30 (.tmp 60) rfl (by kernel_rfl) (by simp [toG, upd]) rfl (fun w k h => put_natc _ _ _ _ w k h) ?_
  simp only [Act.put]
  refine lexG_nil ?_
  intro κ x10 hS
  replace hL0 := hL0.ghs hS [(13, [.int .u64 ((lo y : Nat) : Int), .string (hs y)])] (by simp) (by intro p hp; simp only [List.mem_cons, List.not_mem_nil, or_false] at hp; rcases hp with rfl <;> exact ⟨_, by simp only [toG, upd]; rfl⟩)
  simp only [List.map_cons, List.map_nil, List.cons_append, List.nil_append] at hL0
  simp only [over_toG, over_nil, Act.put, List.setIfInBounds_toArray, List.set_cons_succ, List.set_cons_zero]
  clear hS
  generalize κ 13 = k10_13 at *
  go_upto_region 15 with fail
  obtain ⟨α, iα, F, hF1, hF2⟩ := cls x10
  have hq0 := cls_box hF1 hL0 _ _ List.mem_cons_self
  simp only [cellsC, and_true, Nat.zero_add, Nat.reduceAdd] at hq0
  refine region_qs 6 (C := fun w' => ∃ x, w' = F x) (by kernel_rfl) (by kernel_rfl) (cls_drew hF2) ?_
  simp only [List.take_succ_cons, List.take_zero, List.drop_succ_cons, List.drop_zero, List.take_nil, List.drop_nil]
  repeat (go_big_quiet_step (first | fail | (go_at_call 52; with_reducible exact cls_call hF1 hF2 HO.out _)))
  refine wpQuiet_nil ?_
  rintro wq ⟨xq, rfl⟩
  replace hL0 := hL0.call (hF1 xq)
  clear  hq0 hF2
  generalize F xq = x11 at hL0 ⊢
  clear hF1 xq iα F α
  go_upto_region 17 with fail
  obtain ⟨α, iα, F, hF1, hF2⟩ := cls x11
  have hq0 := cls_box hF1 hL0 _ _ List.mem_cons_self
  simp only [cellsC, and_true, Nat.zero_add, Nat.reduceAdd] at hq0
  have hq1 := cls_box hF1 hL0 _ _ (List.mem_cons_of_mem _ List.mem_cons_self)
  simp only [cellsC, and_true, Nat.zero_add, Nat.reduceAdd] at hq1
  refine region_qs 7 (C := fun w' => ∃ x, w' = F x) (by kernel_rfl) (by kernel_rfl) (cls_drew hF2) ?_
  simp only [List.take_succ_cons, List.take_zero, List.drop_succ_cons, List.drop_zero, List.take_nil, List.drop_nil]
  repeat (go_big_quiet_step (first | fail | (go_at_call 69; with_reducible exact cls_call hF1 hF2 HJ.out _) | (go_at_call 46; with_reducible exact cls_call hF1 hF2 HF.out _)))
  refine wpQuiet_nil ?_
  rintro wq ⟨xq, rfl⟩
  replace hL0 := hL0.call (hF1 xq)
  clear  hq0 hq1 hF2
  generalize F xq = x12 at hL0 ⊢
  clear hF1 xq iα F α
  have hA := hL0.fc
  simp only [fcG, cellsF, neK, and_true, ne_eq, Nat.zero_add, Nat.reduceAdd] at hA
  have hP := hL0.put 4 (w.heap.size) _ rfl [.int .u64 ((zl a.num : Nat) : Int), .string (zh a.num), .bool (zs a.num), .int .u64 ((lo (fe a) : Nat) : Int), .string (hs (fe a))] rfl
  simp only [setAll, List.set_cons_zero, List.set_cons_succ] at hP
  generalize hput1 : (((((x12.setCell ⟨w.heap.size, 0, none⟩ (.int .u64 ((zl a.num : Nat) : Int))).setCell ⟨w.heap.size, 1, none⟩ (.string (zh a.num))).setCell ⟨w.heap.size, 2, none⟩ (.bool (zs a.num))).setCell ⟨w.heap.size, 3, none⟩ (.int .u64 ((lo (fe a) : Nat) : Int))).setCell ⟨w.heap.size, 4, none⟩ (.string (hs (fe a)))) = x13 at hP
  have hB1 := hP.fc
  simp only [fcG, cellsF, neK, and_true, ne_eq, Nat.zero_add, Nat.reduceAdd] at hB1
  replace hL0 := hP
  go_wp2_with fail
  exact bodyPost_ret (v := .tuple #[.agg #[.int .u64 ((zl a.num : Nat) : Int), .string (zh a.num), .bool (zs a.num), .int .u64 ((lo (fe a) : Nat) : Int), .string (hs (fe a))], .int .i64 e]) (by simp [results, Tryz.results19, go_sem, hB1]) rfl ⟨rfl, hL0.bl⟩)
set_option maxHeartbeats 4000000 in
set_option maxRecDepth 100000 in
theorem dparse_high_t (s d p q : ByteArray) (l h : Nat) (c : Int) (g : Bool) (HC : ∀ w, Calls Tryz.prog 64 #[.string s, .string (ByteArray.mk #[45])] w fun xe w' => xe = .returned (.tuple #[.string d, .bool g]) ∧ Below w.heap.size w w') (KT : World → Prop) (hKT : Keeps KT) (HU : ∀ w, KT w → Calls Tryz.prog 65 #[.string d, .string (ByteArray.mk #[46])] w fun xe w' => xe = .returned (.tuple #[.string p, .string q, .bool true]) ∧ Below w.heap.size w w') (HP : ∀ w, Calls Tryz.prog 66 #[.string p] w fun xe w' => xe = .returned (.tuple #[natV h, .int .i64 c]) ∧ Below w.heap.size w w') (hl : s.size = l) (h0 : decide (4096 < (l : Int)) = false) (hq : ¬ q.toList = []) (h1 : (c != 0) = true) (w : World) (kKT : KT w) :
  Calls Tryz.prog 19 #[.string s] w fun xe w' => xe = .returned (.tuple #[.agg #[.int .u64 0, .string ⟨#[]⟩, .bool false, .int .u64 0, .string ⟨#[]⟩], .int .i64 c]) ∧ Below w.heap.size w w' := by
 have hL0 : GL w w [] := GL.start w
 replace HC := Lib.hid HC
 replace hKT := Lib.hid hKT
 replace HU := Lib.hid HU
 replace HP := Lib.hid HP
 have hq1 : (q.toList == []) = false := by simpa using hq
 have hq2 : q.toList.isEmpty = false := by simpa using hq
 replace hL0 := (hL0.new rfl [.int .u64 0, .string ⟨#[]⟩, .bool false, .int .u64 0, .string ⟨#[]⟩] 34)
 generalize hweq : (w.alloc (.cells #[.int .u64 0, .string ⟨#[]⟩, .bool false, .int .u64 0, .string ⟨#[]⟩] 34)) = x1 at hL0
 go_enter Tryz.func19, Tryz.ntmps19
 go_wp2_with fail
 with_reducible refine Calls.mono (HC.out _) ?_
 rintro e x2 ⟨rfl, hb⟩
 replace hL0 := hL0.call hb
 clear hb hweq
 go_wp2_with fail
 with_reducible refine Calls.mono (HU.out _ (hKT.out.at hL0.bl kKT)) ?_
 rintro e x3 ⟨rfl, hb⟩
 replace hL0 := hL0.call hb
 clear hb
 go_wp2_with fail
 with_reducible refine Calls.mono (HP.out _) ?_
 rintro e x4 ⟨rfl, hb⟩
 replace hL0 := hL0.call hb
 clear hb
 replace hL0 := (hL0.new rfl [.int .u64 ((lo h : Nat) : Int), .string (hs h)] 30)
 generalize hweq : (x4.alloc (.cells #[.int .u64 ((lo h : Nat) : Int), .string (hs h)] 30)) = x5 at hL0
 have hA := hL0.fc
 simp only [fcG, cellsF, neK, and_true, ne_eq, Nat.zero_add, Nat.reduceAdd] at hA
 have hP := hL0.put 1 (w.heap.size) _ rfl [.int .u64 0, .string ⟨#[]⟩, .bool false, .int .u64 0, .string ⟨#[]⟩] rfl
 simp only [setAll, List.set_cons_zero, List.set_cons_succ] at hP
 generalize hput1 : (((((x5.setCell ⟨w.heap.size, 0, none⟩ (.int .u64 0)).setCell ⟨w.heap.size, 1, none⟩ (.string ⟨#[]⟩)).setCell ⟨w.heap.size, 2, none⟩ (.bool false)).setCell ⟨w.heap.size, 3, none⟩ (.int .u64 0)).setCell ⟨w.heap.size, 4, none⟩ (.string ⟨#[]⟩)) = x6 at hP
 have hB1 := hP.fc
 simp only [fcG, cellsF, neK, and_true, ne_eq, Nat.zero_add, Nat.reduceAdd] at hB1
 replace hL0 := hP
 go_wp2_with fail
 exact bodyPost_ret (v := .tuple #[.agg #[.int .u64 0, .string ⟨#[]⟩, .bool false, .int .u64 0, .string ⟨#[]⟩], .int .i64 c]) (by simp [results, Tryz.results19, go_sem, hB1]) rfl ⟨rfl, hL0.bl⟩
set_option maxHeartbeats 4000000 in
set_option maxRecDepth 100000 in
theorem dparse_zero_t (s d p q : ByteArray) (l h m k u x : Nat) (HC : ∀ w, Calls Tryz.prog 64 #[.string s, .string (ByteArray.mk #[45])] w fun xe w' => xe = .returned (.tuple #[.string d, .bool true]) ∧ Below w.heap.size w w') (KT : World → Prop) (hKT : Keeps KT) (HU : ∀ w, KT w → Calls Tryz.prog 65 #[.string d, .string (ByteArray.mk #[46])] w fun xe w' => xe = .returned (.tuple #[.string p, .string q, .bool true]) ∧ Below w.heap.size w w') (HP : ∀ w, Calls Tryz.prog 66 #[.string p] w fun xe w' => xe = .returned (.tuple #[natV h, .int .i64 0]) ∧ Below w.heap.size w w') (HB : ∀ w, Calls Tryz.prog 67 #[.string q] w fun xe w' => xe = .returned (.tuple #[natV m, .int .i64 0]) ∧ Below w.heap.size w w') (HT : ∀ w, Calls Tryz.prog 47 #[.int .i64 (k : Int)] w fun xe w' => xe = .returned (natV u) ∧ Below w.heap.size w w') (HM : ∀ w, Calls Tryz.prog 68 #[natV h, natV u] w fun xe w' => xe = .returned (natV x) ∧ Below w.heap.size w w') (HA : ∀ w, Calls Tryz.prog 49 #[natV x, natV m] w fun xe w' => xe = .returned (natV 0) ∧ Below w.heap.size w w') (HO : ∀ w, Calls Tryz.prog 52 #[.int .u64 0] w fun xe w' => xe = .returned (natV 0) ∧ Below w.heap.size w w') (hl : s.size = l) (h0 : decide (4096 < (l : Int)) = false) (hq : ¬ q.toList = []) (hk : q.size = k) (w : World) (kKT : KT w) :
  Calls Tryz.prog 19 #[.string s] w fun xe w' => xe = .returned (.tuple #[.agg #[.int .u64 0, .string ⟨#[]⟩, .bool false, .int .u64 0, .string ⟨#[]⟩], .int .i64 4]) ∧ Below w.heap.size w w' := by
 have hL0 : GL w w [] := GL.start w
 replace HC := Lib.hid HC
 replace hKT := Lib.hid hKT
 replace HU := Lib.hid HU
 replace HP := Lib.hid HP
 replace HB := Lib.hid HB
 replace HT := Lib.hid HT
 replace HM := Lib.hid HM
 replace HA := Lib.hid HA
 replace HO := Lib.hid HO
 have hq1 : (q.toList == []) = false := by simpa using hq
 have hq2 : q.toList.isEmpty = false := by simpa using hq
 replace hL0 := (hL0.new rfl [.int .u64 0, .string ⟨#[]⟩, .bool false, .int .u64 0, .string ⟨#[]⟩] 34)
 generalize hweq : (w.alloc (.cells #[.int .u64 0, .string ⟨#[]⟩, .bool false, .int .u64 0, .string ⟨#[]⟩] 34)) = x1 at hL0
 go_enter Tryz.func19, Tryz.ntmps19
 go_wp2_with fail
 with_reducible refine Calls.mono (HC.out _) ?_
 rintro e x2 ⟨rfl, hb⟩
 replace hL0 := hL0.call hb
 clear hb hweq
 go_wp2_with fail
 with_reducible refine Calls.mono (HU.out _ (hKT.out.at hL0.bl kKT)) ?_
 rintro e x3 ⟨rfl, hb⟩
 replace hL0 := hL0.call hb
 clear hb
 go_wp2_with fail
 with_reducible refine Calls.mono (HP.out _) ?_
 rintro e x4 ⟨rfl, hb⟩
 replace hL0 := hL0.call hb
 clear hb
 replace hL0 := (hL0.new rfl [.int .u64 ((lo h : Nat) : Int), .string (hs h)] 30)
 generalize hweq : (x4.alloc (.cells #[.int .u64 ((lo h : Nat) : Int), .string (hs h)] 30)) = x5 at hL0
 go_wp2_with fail
 with_reducible refine Calls.mono (HB.out _) ?_
 rintro e x6 ⟨rfl, hb⟩
 replace hL0 := hL0.call hb
 clear hb hweq
 replace hL0 := (hL0.new rfl [.int .u64 ((lo m : Nat) : Int), .string (hs m)] 30)
 generalize hweq : (x6.alloc (.cells #[.int .u64 ((lo m : Nat) : Int), .string (hs m)] 30)) = x7 at hL0
 go_wp2_with fail
 with_reducible refine Calls.mono (HT.out _) ?_
 rintro e x8 ⟨rfl, hb⟩
 replace hL0 := hL0.call hb
 clear hb hweq
 replace hL0 := (hL0.new rfl [.int .u64 ((lo u : Nat) : Int), .string (hs u)] 30)
 generalize hweq : (x8.alloc (.cells #[.int .u64 ((lo u : Nat) : Int), .string (hs u)] 30)) = x9 at hL0
 go_upto_region 14 with fail
 clear hweq
 refine region_gh (by kernel_rfl) (by kernel_rfl) ?_
 refine lex_seg (gl := []) 5 (by kernel_rfl) ?_
 intro α iα F hF1 hF2
 have hq := GL.seg hF1 hL0
 simp only [fcC, cellsC, and_true, Nat.zero_add, Nat.reduceAdd] at hq
 simp only [List.take_succ_cons, List.take_zero, List.drop_succ_cons, List.drop_zero, List.take_nil, List.drop_nil]
 repeat (go_big_quiet_step (first | fail | (go_at_call 68; with_reducible exact seg_call hF2 HM.out _) | (go_at_call 49; with_reducible exact seg_call hF2 HA.out _)))
 refine wpQuiet_nil ?_
 clear hq hF1 hF2 iα F α
 refine lex_new [.int .u64 0, .string ⟨#[]⟩] 13 30 30 rfl rfl (of_decide_eq_true (by kernel_rfl)) (by kernel_rfl) rfl new_natc ?_
 simp only [Act.put, List.setIfInBounds_toArray, List.set_cons_succ, List.set_cons_zero]
 refine lex_put [.int .u64 ((lo 0 : Nat) : Int), .string (hs 0)] [.int .u64 0, .string ⟨#[]⟩] 13 30 (.tmp 60) rfl (by kernel_rfl) (by simp [toG, upd]) rfl (fun w k h => put_natc _ _ _ _ w k h) ?_
 simp only [Act.put]
 refine lexG_nil ?_
 intro κ x10 hS
 replace hL0 := hL0.ghs hS [(13, [.int .u64 ((lo 0 : Nat) : Int), .string (hs 0)])] (by simp) (by intro p hp; simp only [List.mem_cons, List.not_mem_nil, or_false] at hp; rcases hp with rfl <;> exact ⟨_, by simp only [toG, upd]; rfl⟩)
 simp only [List.map_cons, List.map_nil, List.cons_append, List.nil_append] at hL0
 simp only [over_toG, over_nil, Act.put, List.setIfInBounds_toArray, List.set_cons_succ, List.set_cons_zero]
 clear hS
 generalize κ 13 = k10_13 at *
 go_upto_region 15 with fail
 obtain ⟨α, iα, F, hF1, hF2⟩ := cls x10
 have hq0 := cls_box hF1 hL0 _ _ List.mem_cons_self
 simp only [cellsC, and_true, Nat.zero_add, Nat.reduceAdd] at hq0
 refine region_qs 6 (C := fun w' => ∃ x, w' = F x) (by kernel_rfl) (by kernel_rfl) (cls_drew hF2) ?_
 simp only [List.take_succ_cons, List.take_zero, List.drop_succ_cons, List.drop_zero, List.take_nil, List.drop_nil]
 repeat (go_big_quiet_step (first | fail | (go_at_call 52; with_reducible exact cls_call hF1 hF2 HO.out _)))
 refine wpQuiet_nil ?_
 rintro wq ⟨xq, rfl⟩
 replace hL0 := hL0.call (hF1 xq)
 clear  hq0 hF2
 generalize F xq = x11 at hL0 ⊢
 clear hF1 xq iα F α
 have hA := hL0.fc
 simp only [fcG, cellsF, neK, and_true, ne_eq, Nat.zero_add, Nat.reduceAdd] at hA
 have hP := hL0.put 4 (w.heap.size) _ rfl [.int .u64 0, .string ⟨#[]⟩, .bool false, .int .u64 0, .string ⟨#[]⟩] rfl
 simp only [setAll, List.set_cons_zero, List.set_cons_succ] at hP
 generalize hput1 : (((((x11.setCell ⟨w.heap.size, 0, none⟩ (.int .u64 0)).setCell ⟨w.heap.size, 1, none⟩ (.string ⟨#[]⟩)).setCell ⟨w.heap.size, 2, none⟩ (.bool false)).setCell ⟨w.heap.size, 3, none⟩ (.int .u64 0)).setCell ⟨w.heap.size, 4, none⟩ (.string ⟨#[]⟩)) = x12 at hP
 have hB1 := hP.fc
 simp only [fcG, cellsF, neK, and_true, ne_eq, Nat.zero_add, Nat.reduceAdd] at hB1
 replace hL0 := hP
 go_wp2_with fail
 exact bodyPost_ret (v := .tuple #[.agg #[.int .u64 0, .string ⟨#[]⟩, .bool false, .int .u64 0, .string ⟨#[]⟩], .int .i64 4]) (by simp [results, Tryz.results19, go_sem, hB1]) rfl ⟨rfl, hL0.bl⟩
set_option maxHeartbeats 4000000 in
set_option maxRecDepth 100000 in
theorem dparse_pos_t (s d p q : ByteArray) (l h m k u x y : Nat) (z e : Int) (a : Rat) (HC : ∀ w, Calls Tryz.prog 64 #[.string s, .string (ByteArray.mk #[45])] w fun xe w' => xe = .returned (.tuple #[.string d, .bool false]) ∧ Below w.heap.size w w') (KT : World → Prop) (hKT : Keeps KT) (HU : ∀ w, KT w → Calls Tryz.prog 65 #[.string d, .string (ByteArray.mk #[46])] w fun xe w' => xe = .returned (.tuple #[.string p, .string q, .bool true]) ∧ Below w.heap.size w w') (HP : ∀ w, Calls Tryz.prog 66 #[.string p] w fun xe w' => xe = .returned (.tuple #[natV h, .int .i64 0]) ∧ Below w.heap.size w w') (HB : ∀ w, Calls Tryz.prog 67 #[.string q] w fun xe w' => xe = .returned (.tuple #[natV m, .int .i64 0]) ∧ Below w.heap.size w w') (HT : ∀ w, Calls Tryz.prog 47 #[.int .i64 (k : Int)] w fun xe w' => xe = .returned (natV u) ∧ Below w.heap.size w w') (HM : ∀ w, Calls Tryz.prog 68 #[natV h, natV u] w fun xe w' => xe = .returned (natV x) ∧ Below w.heap.size w w') (HA : ∀ w, Calls Tryz.prog 49 #[natV x, natV m] w fun xe w' => xe = .returned (natV y) ∧ Below w.heap.size w w') (HJ : ∀ w, Calls Tryz.prog 69 #[.bool false, natV y] w fun xe w' => xe = .returned (intV z) ∧ Below w.heap.size w w') (HF : ∀ w, Calls Tryz.prog 46 #[intV z, natV u] w fun xe w' => xe = .returned (.tuple #[fracV a, .int .i64 e]) ∧ Below w.heap.size w w') (hl : s.size = l) (h0 : decide (4096 < (l : Int)) = false) (hq : ¬ q.toList = []) (hk : q.size = k) (w : World) (kKT : KT w) :
  Calls Tryz.prog 19 #[.string s] w fun xe w' => xe = .returned (.tuple #[fracV a, .int .i64 e]) ∧ Below w.heap.size w w' := by
 have hL0 : GL w w [] := GL.start w
 replace HC := Lib.hid HC
 replace hKT := Lib.hid hKT
 replace HU := Lib.hid HU
 replace HP := Lib.hid HP
 replace HB := Lib.hid HB
 replace HT := Lib.hid HT
 replace HM := Lib.hid HM
 replace HA := Lib.hid HA
 replace HJ := Lib.hid HJ
 replace HF := Lib.hid HF
 have hq1 : (q.toList == []) = false := by simpa using hq
 have hq2 : q.toList.isEmpty = false := by simpa using hq
 replace hL0 := (hL0.new rfl [.int .u64 0, .string ⟨#[]⟩, .bool false, .int .u64 0, .string ⟨#[]⟩] 34)
 generalize hweq : (w.alloc (.cells #[.int .u64 0, .string ⟨#[]⟩, .bool false, .int .u64 0, .string ⟨#[]⟩] 34)) = x1 at hL0
 go_enter Tryz.func19, Tryz.ntmps19
 go_wp2_with fail
 with_reducible refine Calls.mono (HC.out _) ?_
 rintro e x2 ⟨rfl, hb⟩
 replace hL0 := hL0.call hb
 clear hb hweq
 go_wp2_with fail
 with_reducible refine Calls.mono (HU.out _ (hKT.out.at hL0.bl kKT)) ?_
 rintro e x3 ⟨rfl, hb⟩
 replace hL0 := hL0.call hb
 clear hb
 go_wp2_with fail
 with_reducible refine Calls.mono (HP.out _) ?_
 rintro e x4 ⟨rfl, hb⟩
 replace hL0 := hL0.call hb
 clear hb
 replace hL0 := (hL0.new rfl [.int .u64 ((lo h : Nat) : Int), .string (hs h)] 30)
 generalize hweq : (x4.alloc (.cells #[.int .u64 ((lo h : Nat) : Int), .string (hs h)] 30)) = x5 at hL0
 go_wp2_with fail
 with_reducible refine Calls.mono (HB.out _) ?_
 rintro e x6 ⟨rfl, hb⟩
 replace hL0 := hL0.call hb
 clear hb hweq
 replace hL0 := (hL0.new rfl [.int .u64 ((lo m : Nat) : Int), .string (hs m)] 30)
 generalize hweq : (x6.alloc (.cells #[.int .u64 ((lo m : Nat) : Int), .string (hs m)] 30)) = x7 at hL0
 go_wp2_with fail
 with_reducible refine Calls.mono (HT.out _) ?_
 rintro e x8 ⟨rfl, hb⟩
 replace hL0 := hL0.call hb
 clear hb hweq
 replace hL0 := (hL0.new rfl [.int .u64 ((lo u : Nat) : Int), .string (hs u)] 30)
 generalize hweq : (x8.alloc (.cells #[.int .u64 ((lo u : Nat) : Int), .string (hs u)] 30)) = x9 at hL0
 go_upto_region 14 with fail
 clear hweq
 refine region_gh (by kernel_rfl) (by kernel_rfl) ?_
 refine lex_seg (gl := []) 5 (by kernel_rfl) ?_
 intro α iα F hF1 hF2
 have hq := GL.seg hF1 hL0
 simp only [fcC, cellsC, and_true, Nat.zero_add, Nat.reduceAdd] at hq
 simp only [List.take_succ_cons, List.take_zero, List.drop_succ_cons, List.drop_zero, List.take_nil, List.drop_nil]
 repeat (go_big_quiet_step (first | fail | (go_at_call 68; with_reducible exact seg_call hF2 HM.out _) | (go_at_call 49; with_reducible exact seg_call hF2 HA.out _)))
 refine wpQuiet_nil ?_
 clear hq hF1 hF2 iα F α
 refine lex_new [.int .u64 0, .string ⟨#[]⟩] 13 30 30 rfl rfl (of_decide_eq_true (by kernel_rfl)) (by kernel_rfl) rfl new_natc ?_
 simp only [Act.put, List.setIfInBounds_toArray, List.set_cons_succ, List.set_cons_zero]
 refine lex_put [.int .u64 ((lo y : Nat) : Int), .string (hs y)] [.int .u64 0, .string ⟨#[]⟩] 13 30 (.tmp 60) rfl (by kernel_rfl) (by simp [toG, upd]) rfl (fun w k h => put_natc _ _ _ _ w k h) ?_
 simp only [Act.put]
 refine lexG_nil ?_
 intro κ x10 hS
 replace hL0 := hL0.ghs hS [(13, [.int .u64 ((lo y : Nat) : Int), .string (hs y)])] (by simp) (by intro p hp; simp only [List.mem_cons, List.not_mem_nil, or_false] at hp; rcases hp with rfl <;> exact ⟨_, by simp only [toG, upd]; rfl⟩)
 simp only [List.map_cons, List.map_nil, List.cons_append, List.nil_append] at hL0
 simp only [over_toG, over_nil, Act.put, List.setIfInBounds_toArray, List.set_cons_succ, List.set_cons_zero]
 clear hS
 generalize κ 13 = k10_13 at *
 go_upto_region 15 with fail
 obtain ⟨α, iα, F, hF1, hF2⟩ := cls x10
 refine region_qs 6 (C := fun w' => ∃ x, w' = F x) (by kernel_rfl) (by kernel_rfl) (cls_drew hF2) ?_
 simp only [List.take_succ_cons, List.take_zero, List.drop_succ_cons, List.drop_zero, List.take_nil, List.drop_nil]
 repeat (go_big_quiet_step (first | fail))
 refine wpQuiet_nil ?_
 rintro wq ⟨xq, rfl⟩
 replace hL0 := hL0.call (hF1 xq)
 clear  hF2
 generalize F xq = x11 at hL0 ⊢
 clear hF1 xq iα F α
 go_upto_region 17 with fail
 obtain ⟨α, iα, F, hF1, hF2⟩ := cls x11
 have hq0 := cls_box hF1 hL0 _ _ List.mem_cons_self
 simp only [cellsC, and_true, Nat.zero_add, Nat.reduceAdd] at hq0
 have hq1 := cls_box hF1 hL0 _ _ (List.mem_cons_of_mem _ List.mem_cons_self)
 simp only [cellsC, and_true, Nat.zero_add, Nat.reduceAdd] at hq1
 refine region_qs 7 (C := fun w' => ∃ x, w' = F x) (by kernel_rfl) (by kernel_rfl) (cls_drew hF2) ?_
 simp only [List.take_succ_cons, List.take_zero, List.drop_succ_cons, List.drop_zero, List.take_nil, List.drop_nil]
 repeat (go_big_quiet_step (first | fail | (go_at_call 69; with_reducible exact cls_call hF1 hF2 HJ.out _) | (go_at_call 46; with_reducible exact cls_call hF1 hF2 HF.out _)))
 refine wpQuiet_nil ?_
 rintro wq ⟨xq, rfl⟩
 replace hL0 := hL0.call (hF1 xq)
 clear  hq0 hq1 hF2
 generalize F xq = x12 at hL0 ⊢
 clear hF1 xq iα F α
 have hA := hL0.fc
 simp only [fcG, cellsF, neK, and_true, ne_eq, Nat.zero_add, Nat.reduceAdd] at hA
 have hP := hL0.put 4 (w.heap.size) _ rfl [.int .u64 ((zl a.num : Nat) : Int), .string (zh a.num), .bool (zs a.num), .int .u64 ((lo (fe a) : Nat) : Int), .string (hs (fe a))] rfl
 simp only [setAll, List.set_cons_zero, List.set_cons_succ] at hP
 generalize hput1 : (((((x12.setCell ⟨w.heap.size, 0, none⟩ (.int .u64 ((zl a.num : Nat) : Int))).setCell ⟨w.heap.size, 1, none⟩ (.string (zh a.num))).setCell ⟨w.heap.size, 2, none⟩ (.bool (zs a.num))).setCell ⟨w.heap.size, 3, none⟩ (.int .u64 ((lo (fe a) : Nat) : Int))).setCell ⟨w.heap.size, 4, none⟩ (.string (hs (fe a)))) = x13 at hP
 have hB1 := hP.fc
 simp only [fcG, cellsF, neK, and_true, ne_eq, Nat.zero_add, Nat.reduceAdd] at hB1
 replace hL0 := hP
 go_wp2_with fail
 exact bodyPost_ret (v := .tuple #[.agg #[.int .u64 ((zl a.num : Nat) : Int), .string (zh a.num), .bool (zs a.num), .int .u64 ((lo (fe a) : Nat) : Int), .string (hs (fe a))], .int .i64 e]) (by simp [results, Tryz.results19, go_sem, hB1]) rfl ⟨rfl, hL0.bl⟩
set_option maxHeartbeats 4000000 in
set_option maxRecDepth 100000 in
theorem dparse_neg_t (s d p q : ByteArray) (l h m k u x y : Nat) (z e : Int) (a : Rat) (HC : ∀ w, Calls Tryz.prog 64 #[.string s, .string (ByteArray.mk #[45])] w fun xe w' => xe = .returned (.tuple #[.string d, .bool true]) ∧ Below w.heap.size w w') (KT : World → Prop) (hKT : Keeps KT) (HU : ∀ w, KT w → Calls Tryz.prog 65 #[.string d, .string (ByteArray.mk #[46])] w fun xe w' => xe = .returned (.tuple #[.string p, .string q, .bool true]) ∧ Below w.heap.size w w') (HP : ∀ w, Calls Tryz.prog 66 #[.string p] w fun xe w' => xe = .returned (.tuple #[natV h, .int .i64 0]) ∧ Below w.heap.size w w') (HB : ∀ w, Calls Tryz.prog 67 #[.string q] w fun xe w' => xe = .returned (.tuple #[natV m, .int .i64 0]) ∧ Below w.heap.size w w') (HT : ∀ w, Calls Tryz.prog 47 #[.int .i64 (k : Int)] w fun xe w' => xe = .returned (natV u) ∧ Below w.heap.size w w') (HM : ∀ w, Calls Tryz.prog 68 #[natV h, natV u] w fun xe w' => xe = .returned (natV x) ∧ Below w.heap.size w w') (HA : ∀ w, Calls Tryz.prog 49 #[natV x, natV m] w fun xe w' => xe = .returned (natV y) ∧ Below w.heap.size w w') (HO : ∀ w, Calls Tryz.prog 52 #[.int .u64 0] w fun xe w' => xe = .returned (natV 0) ∧ Below w.heap.size w w') (HJ : ∀ w, Calls Tryz.prog 69 #[.bool true, natV y] w fun xe w' => xe = .returned (intV z) ∧ Below w.heap.size w w') (HF : ∀ w, Calls Tryz.prog 46 #[intV z, natV u] w fun xe w' => xe = .returned (.tuple #[fracV a, .int .i64 e]) ∧ Below w.heap.size w w') (hl : s.size = l) (h0 : decide (4096 < (l : Int)) = false) (hq : ¬ q.toList = []) (hk : q.size = k) (hy : 0 < y) (w : World) (kKT : KT w) :
  Calls Tryz.prog 19 #[.string s] w fun xe w' => xe = .returned (.tuple #[fracV a, .int .i64 e]) ∧ Below w.heap.size w w' := by
 have hL0 : GL w w [] := GL.start w
 replace HC := Lib.hid HC
 replace hKT := Lib.hid hKT
 replace HU := Lib.hid HU
 replace HP := Lib.hid HP
 replace HB := Lib.hid HB
 replace HT := Lib.hid HT
 replace HM := Lib.hid HM
 replace HA := Lib.hid HA
 replace HO := Lib.hid HO
 replace HJ := Lib.hid HJ
 replace HF := Lib.hid HF
 have hq1 : (q.toList == []) = false := by simpa using hq
 have hq2 : q.toList.isEmpty = false := by simpa using hq
 have hz := eq_zero hy
 clear hy
 rcases hz with e0 | ⟨e0, e1⟩
 all_goals (
  replace hL0 := (hL0.new rfl [.int .u64 0, .string ⟨#[]⟩, .bool false, .int .u64 0, .string ⟨#[]⟩] 34)
  generalize hweq : (w.alloc (.cells #[.int .u64 0, .string ⟨#[]⟩, .bool false, .int .u64 0, .string ⟨#[]⟩] 34)) = x1 at hL0
  go_enter Tryz.func19, Tryz.ntmps19
  go_wp2_with fail
  with_reducible refine Calls.mono (HC.out _) ?_
  rintro e x2 ⟨rfl, hb⟩
  replace hL0 := hL0.call hb
  clear hb hweq
  go_wp2_with fail
  with_reducible refine Calls.mono (HU.out _ (hKT.out.at hL0.bl kKT)) ?_
  rintro e x3 ⟨rfl, hb⟩
  replace hL0 := hL0.call hb
  clear hb
  go_wp2_with fail
  with_reducible refine Calls.mono (HP.out _) ?_
  rintro e x4 ⟨rfl, hb⟩
  replace hL0 := hL0.call hb
  clear hb
  replace hL0 := (hL0.new rfl [.int .u64 ((lo h : Nat) : Int), .string (hs h)] 30)
  generalize hweq : (x4.alloc (.cells #[.int .u64 ((lo h : Nat) : Int), .string (hs h)] 30)) = x5 at hL0
  go_wp2_with fail
  with_reducible refine Calls.mono (HB.out _) ?_
  rintro e x6 ⟨rfl, hb⟩
  replace hL0 := hL0.call hb
  clear hb hweq
  replace hL0 := (hL0.new rfl [.int .u64 ((lo m : Nat) : Int), .string (hs m)] 30)
  generalize hweq : (x6.alloc (.cells #[.int .u64 ((lo m : Nat) : Int), .string (hs m)] 30)) = x7 at hL0
  go_wp2_with fail
  with_reducible refine Calls.mono (HT.out _) ?_
  rintro e x8 ⟨rfl, hb⟩
  replace hL0 := hL0.call hb
  clear hb hweq
  replace hL0 := (hL0.new rfl [.int .u64 ((lo u : Nat) : Int), .string (hs u)] 30)
  generalize hweq : (x8.alloc (.cells #[.int .u64 ((lo u : Nat) : Int), .string (hs u)] 30)) = x9 at hL0
  go_upto_region 14 with fail
  clear hweq
  refine region_gh (by kernel_rfl) (by kernel_rfl) ?_
  refine lex_seg (gl := []) 5 (by kernel_rfl) ?_
  intro α iα F hF1 hF2
  have hq := GL.seg hF1 hL0
  simp only [fcC, cellsC, and_true, Nat.zero_add, Nat.reduceAdd] at hq
  simp only [List.take_succ_cons, List.take_zero, List.drop_succ_cons, List.drop_zero, List.take_nil, List.drop_nil]
  repeat (go_big_quiet_step (first | fail | (go_at_call 68; with_reducible exact seg_call hF2 HM.out _) | (go_at_call 49; with_reducible exact seg_call hF2 HA.out _)))
  refine wpQuiet_nil ?_
  clear hq hF1 hF2 iα F α
  refine lex_new [.int .u64 0, .string ⟨#[]⟩] 13 30 30 rfl rfl (of_decide_eq_true (by kernel_rfl)) (by kernel_rfl) rfl new_natc ?_
  simp only [Act.put, List.setIfInBounds_toArray, List.set_cons_succ, List.set_cons_zero]
  refine lex_put [.int .u64 ((lo y : Nat) : Int), .string (hs y)] [.int .u64 0, .string ⟨#[]⟩] 13 30 (.tmp 60) rfl (by kernel_rfl) (by simp [toG, upd]) rfl (fun w k h => put_natc _ _ _ _ w k h) ?_
  simp only [Act.put]
  refine lexG_nil ?_
  intro κ x10 hS
  replace hL0 := hL0.ghs hS [(13, [.int .u64 ((lo y : Nat) : Int), .string (hs y)])] (by simp) (by intro p hp; simp only [List.mem_cons, List.not_mem_nil, or_false] at hp; rcases hp with rfl <;> exact ⟨_, by simp only [toG, upd]; rfl⟩)
  simp only [List.map_cons, List.map_nil, List.cons_append, List.nil_append] at hL0
  simp only [over_toG, over_nil, Act.put, List.setIfInBounds_toArray, List.set_cons_succ, List.set_cons_zero]
  clear hS
  generalize κ 13 = k10_13 at *
  go_upto_region 15 with fail
  obtain ⟨α, iα, F, hF1, hF2⟩ := cls x10
  have hq0 := cls_box hF1 hL0 _ _ List.mem_cons_self
  simp only [cellsC, and_true, Nat.zero_add, Nat.reduceAdd] at hq0
  refine region_qs 6 (C := fun w' => ∃ x, w' = F x) (by kernel_rfl) (by kernel_rfl) (cls_drew hF2) ?_
  simp only [List.take_succ_cons, List.take_zero, List.drop_succ_cons, List.drop_zero, List.take_nil, List.drop_nil]
  repeat (go_big_quiet_step (first | fail | (go_at_call 52; with_reducible exact cls_call hF1 hF2 HO.out _)))
  refine wpQuiet_nil ?_
  rintro wq ⟨xq, rfl⟩
  replace hL0 := hL0.call (hF1 xq)
  clear  hq0 hF2
  generalize F xq = x11 at hL0 ⊢
  clear hF1 xq iα F α
  go_upto_region 17 with fail
  obtain ⟨α, iα, F, hF1, hF2⟩ := cls x11
  have hq0 := cls_box hF1 hL0 _ _ List.mem_cons_self
  simp only [cellsC, and_true, Nat.zero_add, Nat.reduceAdd] at hq0
  have hq1 := cls_box hF1 hL0 _ _ (List.mem_cons_of_mem _ List.mem_cons_self)
  simp only [cellsC, and_true, Nat.zero_add, Nat.reduceAdd] at hq1
  refine region_qs 7 (C := fun w' => ∃ x, w' = F x) (by kernel_rfl) (by kernel_rfl) (cls_drew hF2) ?_
  simp only [List.take_succ_cons, List.take_zero, List.drop_succ_cons, List.drop_zero, List.take_nil, List.drop_nil]
  repeat (go_big_quiet_step (first | fail | (go_at_call 69; with_reducible exact cls_call hF1 hF2 HJ.out _) | (go_at_call 46; with_reducible exact cls_call hF1 hF2 HF.out _)))
  refine wpQuiet_nil ?_
  rintro wq ⟨xq, rfl⟩
  replace hL0 := hL0.call (hF1 xq)
  clear  hq0 hq1 hF2
  generalize F xq = x12 at hL0 ⊢
  clear hF1 xq iα F α
  have hA := hL0.fc
  simp only [fcG, cellsF, neK, and_true, ne_eq, Nat.zero_add, Nat.reduceAdd] at hA
  have hP := hL0.put 4 (w.heap.size) _ rfl [.int .u64 ((zl a.num : Nat) : Int), .string (zh a.num), .bool (zs a.num), .int .u64 ((lo (fe a) : Nat) : Int), .string (hs (fe a))] rfl
  simp only [setAll, List.set_cons_zero, List.set_cons_succ] at hP
  generalize hput1 : (((((x12.setCell ⟨w.heap.size, 0, none⟩ (.int .u64 ((zl a.num : Nat) : Int))).setCell ⟨w.heap.size, 1, none⟩ (.string (zh a.num))).setCell ⟨w.heap.size, 2, none⟩ (.bool (zs a.num))).setCell ⟨w.heap.size, 3, none⟩ (.int .u64 ((lo (fe a) : Nat) : Int))).setCell ⟨w.heap.size, 4, none⟩ (.string (hs (fe a)))) = x13 at hP
  have hB1 := hP.fc
  simp only [fcG, cellsF, neK, and_true, ne_eq, Nat.zero_add, Nat.reduceAdd] at hB1
  replace hL0 := hP
  go_wp2_with fail
  exact bodyPost_ret (v := .tuple #[.agg #[.int .u64 ((zl a.num : Nat) : Int), .string (zh a.num), .bool (zs a.num), .int .u64 ((lo (fe a) : Nat) : Int), .string (hs (fe a))], .int .i64 e]) (by simp [results, Tryz.results19, go_sem, hB1]) rfl ⟨rfl, hL0.bl⟩)
set_option maxHeartbeats 4000000 in
set_option maxRecDepth 100000 in
theorem lof4_w (i j c : Int) (a : Rat) (HF : ∀ w, Calls Tryz.prog 37 #[.int .i64 i, .int .i64 j] w fun xe w' => xe = .returned (.tuple #[fracV a, .int .i64 c]) ∧ Below w.heap.size w w') (w : World) :
  Calls Tryz.prog 41 #[.int .i64 i, .int .i64 j] w fun xe w' => xe = .returned (fracV a) ∧ Below w.heap.size w w' := by
 have hL0 : GL w w [] := GL.start w
 replace HF := Lib.hid HF
 replace hL0 := (hL0.new rfl [.int .u64 0, .string ⟨#[]⟩, .bool false, .int .u64 0, .string ⟨#[]⟩] 34)
 generalize hweq : (w.alloc (.cells #[.int .u64 0, .string ⟨#[]⟩, .bool false, .int .u64 0, .string ⟨#[]⟩] 34)) = x1 at hL0
 go_enter Tryz.func41, Tryz.ntmps41
 go_wp2_with fail
 with_reducible refine Calls.mono (HF.out _) ?_
 rintro e x2 ⟨rfl, hb⟩
 replace hL0 := hL0.call hb
 clear hb hweq
 replace hL0 := (hL0.new rfl [.int .u64 ((zl a.num : Nat) : Int), .string (zh a.num), .bool (zs a.num), .int .u64 ((lo (fe a) : Nat) : Int), .string (hs (fe a))] 34)
 generalize hweq : (x2.alloc (.cells #[.int .u64 ((zl a.num : Nat) : Int), .string (zh a.num), .bool (zs a.num), .int .u64 ((lo (fe a) : Nat) : Int), .string (hs (fe a))] 34)) = x3 at hL0
 have hA := hL0.fc
 simp only [fcG, cellsF, neK, and_true, ne_eq, Nat.zero_add, Nat.reduceAdd] at hA
 have hP := hL0.put 1 (w.heap.size) _ rfl [.int .u64 ((zl a.num : Nat) : Int), .string (zh a.num), .bool (zs a.num), .int .u64 ((lo (fe a) : Nat) : Int), .string (hs (fe a))] rfl
 simp only [setAll, List.set_cons_zero, List.set_cons_succ] at hP
 generalize hput1 : (((((x3.setCell ⟨w.heap.size, 0, none⟩ (.int .u64 ((zl a.num : Nat) : Int))).setCell ⟨w.heap.size, 1, none⟩ (.string (zh a.num))).setCell ⟨w.heap.size, 2, none⟩ (.bool (zs a.num))).setCell ⟨w.heap.size, 3, none⟩ (.int .u64 ((lo (fe a) : Nat) : Int))).setCell ⟨w.heap.size, 4, none⟩ (.string (hs (fe a)))) = x4 at hP
 have hB1 := hP.fc
 simp only [fcG, cellsF, neK, and_true, ne_eq, Nat.zero_add, Nat.reduceAdd] at hB1
 replace hL0 := hP
 go_wp2_with fail
 exact bodyPost_ret (v := .agg #[.int .u64 ((zl a.num : Nat) : Int), .string (zh a.num), .bool (zs a.num), .int .u64 ((lo (fe a) : Nat) : Int), .string (hs (fe a))]) (by simp [results, Tryz.results41, go_sem, hB1]) rfl ⟨rfl, hL0.bl⟩
set_option maxHeartbeats 4000000 in
set_option maxRecDepth 100000 in
theorem ltext4_ok (a : Rat) (n v : Int) (s : ByteArray) (HT : ∀ w, Tab w → Calls Tryz.prog 14 #[fracV a, .int .i64 n, .int .i64 v] w fun xe w' => xe = .returned (.tuple #[.string s, .int .i64 0]) ∧ Below w.heap.size w w') (w : World) (htab : Tab w) :
  Calls Tryz.prog 42 #[fracV a, .int .i64 n, .int .i64 v] w fun xe w' => xe = .returned (.string s) ∧ Below w.heap.size w w' := by
 have hL0 : GL w w [] := GL.start w
 replace HT := Lib.hid HT
 replace hL0 := (hL0.new rfl [.int .u64 ((zl a.num : Nat) : Int), .string (zh a.num), .bool (zs a.num), .int .u64 ((lo (fe a) : Nat) : Int), .string (hs (fe a))] 34)
 generalize hweq : (w.alloc (.cells #[.int .u64 ((zl a.num : Nat) : Int), .string (zh a.num), .bool (zs a.num), .int .u64 ((lo (fe a) : Nat) : Int), .string (hs (fe a))] 34)) = x1 at hL0
 go_enter Tryz.func42, Tryz.ntmps42
 have hN0 := cells_of _ 0 [] rfl (hL0.get _ _ List.mem_cons_self)
 simp only [cellsF, and_true, Nat.zero_add, Nat.reduceAdd] at hN0
 go_wp2_with fail
 clear hN0
 with_reducible refine Calls.mono (HT.out _ (htab.below hL0.bl)) ?_
 rintro e x2 ⟨rfl, hb⟩
 replace hL0 := hL0.call hb
 clear hb hweq
 go_wp2_with fail
 exact bodyPost_ret (v := .string s) (by simp [results, Tryz.results42, go_sem]) rfl ⟨rfl, hL0.bl⟩
set_option maxHeartbeats 4000000 in
set_option maxRecDepth 100000 in
theorem lread4_ok (a : Rat) (s t : ByteArray) (KT : World → Prop) (hKT : Keeps KT) (HP : ∀ w, KT w → Calls Tryz.prog 19 #[.string s] w fun xe w' => xe = .returned (.tuple #[fracV a, .int .i64 0]) ∧ Below w.heap.size w w') (HT : ∀ w, Tab w → Calls Tryz.prog 35 #[fracV a] w fun xe w' => xe = .returned (.string t) ∧ Below w.heap.size w w') (w : World) (htab : Tab w) (kKT : KT w) :
  Calls Tryz.prog 43 #[.string s] w fun xe w' => xe = .returned (.string t) ∧ Below w.heap.size w w' := by
 have hL0 : GL w w [] := GL.start w
 replace hKT := Lib.hid hKT
 replace HP := Lib.hid HP
 replace HT := Lib.hid HT
 go_enter Tryz.func43, Tryz.ntmps43
 go_wp2_with fail
 with_reducible refine Calls.mono (HP.out _ (hKT.out.at hL0.bl kKT)) ?_
 rintro e x1 ⟨rfl, hb⟩
 replace hL0 := hL0.call hb
 clear hb
 replace hL0 := (hL0.new rfl [.int .u64 ((zl a.num : Nat) : Int), .string (zh a.num), .bool (zs a.num), .int .u64 ((lo (fe a) : Nat) : Int), .string (hs (fe a))] 34)
 generalize hweq : (x1.alloc (.cells #[.int .u64 ((zl a.num : Nat) : Int), .string (zh a.num), .bool (zs a.num), .int .u64 ((lo (fe a) : Nat) : Int), .string (hs (fe a))] 34)) = x2 at hL0
 have hN0 := cells_of _ 0 [] rfl (hL0.get _ _ List.mem_cons_self)
 simp only [cellsF, and_true, Nat.zero_add, Nat.reduceAdd] at hN0
 go_wp2_with fail
 clear hN0
 with_reducible refine Calls.mono (HT.out _ (htab.below hL0.bl)) ?_
 rintro e x3 ⟨rfl, hb⟩
 replace hL0 := hL0.call hb
 clear hb hweq
 go_wp2_with fail
 exact bodyPost_ret (v := .string t) (by simp [results, Tryz.results43, go_sem]) rfl ⟨rfl, hL0.bl⟩
set_option maxHeartbeats 4000000 in
set_option maxRecDepth 100000 in
theorem lread4_err (a : Rat) (s : ByteArray) (c : Int) (KT : World → Prop) (hKT : Keeps KT) (HP : ∀ w, KT w → Calls Tryz.prog 19 #[.string s] w fun xe w' => xe = .returned (.tuple #[fracV a, .int .i64 c]) ∧ Below w.heap.size w w') (h1 : (c != 0) = true) (w : World) (kKT : KT w) :
  Calls Tryz.prog 43 #[.string s] w fun xe w' => xe = .returned (.string (ByteArray.mk #[110, 111, 110, 101])) ∧ Below w.heap.size w w' := by
 have hL0 : GL w w [] := GL.start w
 replace hKT := Lib.hid hKT
 replace HP := Lib.hid HP
 go_enter Tryz.func43, Tryz.ntmps43
 go_wp2_with fail
 with_reducible refine Calls.mono (HP.out _ (hKT.out.at hL0.bl kKT)) ?_
 rintro e x1 ⟨rfl, hb⟩
 replace hL0 := hL0.call hb
 clear hb
 replace hL0 := (hL0.new rfl [.int .u64 ((zl a.num : Nat) : Int), .string (zh a.num), .bool (zs a.num), .int .u64 ((lo (fe a) : Nat) : Int), .string (hs (fe a))] 34)
 generalize hweq : (x1.alloc (.cells #[.int .u64 ((zl a.num : Nat) : Int), .string (zh a.num), .bool (zs a.num), .int .u64 ((lo (fe a) : Nat) : Int), .string (hs (fe a))] 34)) = x2 at hL0
 go_wp2_with fail
 exact bodyPost_ret (v := .string (ByteArray.mk #[110, 111, 110, 101])) (by simp [results, Tryz.results43, go_sem]) rfl ⟨rfl, hL0.bl⟩
end Go.Proofs.YtahfcciihkkegaaGreatDoor
namespace Go.Proofs.YtahfcciihkkegaaGreatDoor
open Go.RowKit
open Go.Lib (decDigits)
/-- What stands before and behind the point, for a number m of units 10^-p. -/
def tailT (m p : Nat) : List UInt8 := if 0 < p then 46 :: pad p (m % 10 ^ p) else []
/-- The notation of n/10^p with p places. -/
def decT (n : Int) (p : Nat) : List UInt8 := (if n < 0 then [45] else []) ++ (decDigits (n.natAbs / 10 ^ p) ++ tailT n.natAbs p)
/-- Behind a 1 no zero is a leading one. -/
theorem one_isDec {l : List UInt8} (h : ∀ c ∈ l, isDig c) : isDec (49 :: l) := by
 refine ⟨?_, .inr ⟨by simp, by simp⟩⟩
 intro c hc
 rcases List.mem_cons.1 hc with h1 | h1
 ·subst h1; unfold isDig; decide
 ·exact h c h1
end Go.Proofs.YtahfcciihkkegaaGreatDoor
namespace Go.Proofs.YtahfcciihkkegaaGreatDoor
open Go.RowKit
open Go.Lib (decDigits)
theorem pad_full (q : Nat) : List.replicate (1 - (decDigits q).length) 48 ++ decDigits q = decDigits q := by
 have := dec_length_pos q
 rw [show 1 - (decDigits q).length = 0 by omega]; rfl
theorem notD (z : Int) (p : Nat) (hz : dI z ≤ 100000) (hp : p ≤ 100) (w : World) (htab : Tab w) :
  Calls Tryz.prog 53 #[intV z, .int .i64 (p : Int)] w fun e w' => e = .returned (.string ⟨(decT z p).toArray⟩) ∧ Below w.heap.size w w' := by
 have hpos : 0 < 10 ^ p := Nat.pow_pos (by decide)
 have hm : (digs z.natAbs).length ≤ 100000 := hz
 have hq : (digs (z.natAbs / 10 ^ p)).length ≤ 100000 := Nat.le_trans (digs_mono (Nat.div_le_self _ _)) hm
 have hr : (digs (z.natAbs % 10 ^ p)).length ≤ 100000 := Nat.le_trans (digs_mono (Nat.mod_le _ _)) hm
 have hs : sgn z < 0 ↔ z < 0 := by unfold sgn; split <;> (try split) <;> omega
 have h := dnot_w z (sgn z) p z.natAbs (10 ^ p) (z.natAbs / 10 ^ p) (z.natAbs % 10 ^ p) (if z < 0 then [45] else []) (tailT z.natAbs p) (absI z) (tensD p hp) (div_pos z.natAbs (10 ^ p) hpos (by omega)) (signI z) (by omega) (by omega) (by omega)
  (fun h => by rw [if_pos (hs.1 h)]) (fun h => by rw [if_neg (fun h2 => h (hs.2 h2))])
  (fun h => by unfold tailT; rw [if_pos h, (pad_eq p _ h (Nat.mod_lt _ hpos)).1]; rfl) (fun h => by unfold tailT; rw [if_neg h]) w htab
 rw [pad_full, List.append_assoc] at h
 exact h
theorem rndE (a : Rat) (n v : Int) (hc : rdC n v ≠ 0) (w : World) : Calls Tryz.prog 45 #[fracV a, .int .i64 n, .int .i64 v] w fun e w' => e = .returned (.tuple #[intV 0, .int .i64 (rdC n v)]) ∧ Below w.heap.size w w' := by
 rw [intV_00]
 unfold rdC at hc ⊢
 by_cases h1 : n < 0
 ·rw [if_pos h1]; exact drnd_neg a n v (decide_eq_true h1) w
 rw [if_neg h1] at hc ⊢
 by_cases h2 : 100 < n
 ·rw [if_pos h2]; exact drnd_big a n v (decide_eq_false h1) (decide_eq_true h2) w
 rw [if_neg h2] at hc ⊢
 by_cases h3 : v < 1
 ·rw [if_pos (.inl h3)]; exact drnd_way0 a n v (decide_eq_false h1) (decide_eq_false h2) (decide_eq_true h3) w
 by_cases h4 : 3 < v
 ·rw [if_pos (.inr h4)]; exact drnd_way4 a n v (decide_eq_false h1) (decide_eq_false h2) (decide_eq_false h3) (decide_eq_true h4) w
 rw [if_neg (by omega)] at hc
 exact absurd rfl hc
theorem textD (a : Rat) (p : Nat) (v : Int) (k : Nat) (ha : Sz a k) (hk : k ≤ 5000) (hp : p ≤ 100) (hv : 1 ≤ v ∧ v ≤ 3) (w : World) (htab : Tab w) :
  Calls Tryz.prog 14 #[fracV a, .int .i64 (p : Int), .int .i64 v] w fun e w' => e = .returned (.tuple #[.string ⟨(decT (toI v (a * tenQ p)) p).toArray⟩, .int .i64 0]) ∧ Below w.heap.size w w' := by
 have HT := tensD p hp
 have HI := fun w => fromI false (10 ^ p) ((10 ^ p : Nat) : Int) rfl w
 have hd : dI ((10 ^ p : Nat) : Int) ≤ 6 := by rw [dI_nat]; exact ten_d hp
 have HW := wholeD ((10 ^ p : Nat) : Int) (by omega)
 have et : (((10 ^ p : Nat) : Int) : Rat) = tenQ p := rfl
 rw [et] at HW
 have HM := mulF a (tenQ p) (k + 6) (ha.mono (by omega)) ((ten_sz hp).mono (by omega)) (by omega)
 have HN := toID (a * tenQ p) v (k + 6) (ha.mul (ten_sz hp)) (by omega) hv
 have HR := drnd_ok a _ _ (p : Int) v _ _ _ HT HI HW HM HN (decide_eq_false (by omega)) (decide_eq_false (by omega)) (decide_eq_false (by omega)) (decide_eq_false (by omega))
 have hz := toI_d v (ha.mul (ten_sz hp))
 exact dtext_ok a (p : Int) v _ _ HR (notD _ p (by omega) hp) w htab
theorem textE (a : Rat) (n v : Int) (hc : rdC n v ≠ 0) (w : World) :
  Calls Tryz.prog 14 #[fracV a, .int .i64 n, .int .i64 v] w fun e w' => e = .returned (.tuple #[.string ⟨#[]⟩, .int .i64 (rdC n v)]) ∧ Below w.heap.size w w' :=
 dtext_err a n v 0 (rdC n v) (rndE a n v hc) (by simpa using hc) w
theorem dval_d {l : List UInt8} (h : ∀ c ∈ l, isDig c) : (digs (dval l)).length ≤ l.length :=
 digs_length_iff.2 (Nat.lt_of_lt_of_le (dval_lt h) (Nat.pow_le_pow_left (by unfold Bs; decide) _))
theorem behD (a : List UInt8) (ha : ∀ c ∈ a, isDig c) (hl : a.length ≤ 100) (w : World) :
  Calls Tryz.prog 67 #[.string ⟨a.toArray⟩] w fun e w' => e = .returned (.tuple #[natV (dval a), .int .i64 0]) ∧ Below w.heap.size w w' := by
 have hv : dval (49 :: a) = 10 ^ a.length + dval a := by
  have := dval_append [49] a
  rw [show dval [49] = 1 from rfl, Nat.one_mul] at this
  exact this
 have HP := parse_ok (49 :: a) (by simp; omega) (one_isDec ha)
 have h49 : ∀ c ∈ (49 :: a), isDig c := (one_isDec ha).1
 have hd := dval_d h49
 rw [hv] at HP hd
 have HS := fun w => sub_ge (10 ^ a.length + dval a) (10 ^ a.length) (Nat.le_add_right _ _) (Nat.le_trans hd (by simp; omega)) w
 rw [Nat.add_sub_cancel_left] at HS
 exact dbeh_ok ⟨a.toArray⟩ (st (49 :: a)) _ a.length _ _ _ HP (tensD a.length hl) HS (by show (⟨[49].toArray⟩ : ByteArray) ++ ⟨a.toArray⟩ = _; rw [ByteArray.mk_append_mk]; rfl) (by simp [ByteArray.size]) (by omega) (by omega) (by omega) w
/-- What CutPrefix finds. -/
def Sgn (g : Bool) (l d : List UInt8) : Prop := (g = true ∧ l = 45 :: d) ∨ (g = false ∧ l = d ∧ l.head? ≠ some 45)
theorem Sgn.le {g : Bool} {l d : List UInt8} (h : Sgn g l d) : d.length ≤ l.length := by
 rcases h with ⟨_, rfl⟩ | ⟨_, rfl, _⟩
 ·simp
 ·exact Nat.le_refl _
theorem cpD (g : Bool) (l d : List UInt8) (h : Sgn g l d) (w : World) :
  Calls Tryz.prog 64 #[.string ⟨l.toArray⟩, .string (ByteArray.mk #[45])] w fun e w' => e = .returned (.tuple #[.string ⟨d.toArray⟩, .bool g]) ∧ Below w.heap.size w w' := by
 refine (Tryz.strings_CutPrefix ⟨l.toArray⟩ (ByteArray.mk #[45]) w).mono ?_
 rintro e w' ⟨rfl, rfl⟩
 refine ⟨?_, Below.refl _ _⟩
 rcases h with ⟨rfl, rfl⟩ | ⟨rfl, rfl, h⟩
 ·simp [Lib.trimPrefix, Lib.hasPrefix]
 ·have : Lib.hasPrefix l [45] = false := by
   unfold Lib.hasPrefix
   cases l with
   | nil => rfl
   | cons c r => simp at h; simp [List.isPrefixOf, Ne.symm h]
  simp [Lib.trimPrefix, this]
theorem cutD (d p q : List UInt8) (f : Bool) (hl : d.length ≤ 4096) (h : Lib.cut d [46] = (p, q, f)) (w : World) (hm : MaxL w) :
  Calls Tryz.prog 65 #[.string ⟨d.toArray⟩, .string (ByteArray.mk #[46])] w fun xe w' => xe = .returned (.tuple #[.string ⟨p.toArray⟩, .string ⟨q.toArray⟩, .bool f]) ∧ Below w.heap.size w w' := by
 obtain ⟨m, hm⟩ := hm
 have h1 := Tryz.strings_Cut ⟨d.toArray⟩ (ByteArray.mk #[46]) m w (by simp [ByteArray.size]; omega) hm
 rw [show (ByteArray.mk #[46]).data.toList = [46] from rfl, show (ByteArray.mk d.toArray).data.toList = d by simp, h] at h1
 exact h1.mono fun xe w' ⟨h1, n, h2⟩ => ⟨h1, by rw [h2]; exact ⟨rfl, rfl, rfl, Nat.le_refl _, fun _ _ => rfl⟩⟩
theorem ne_list {a : List UInt8} (h : a ≠ []) : ¬ (ByteArray.mk a.toArray).toList = [] := by
 rw [ByteArray.toList_eq]; simpa using h
theorem parse_in (f g : Bool) (l d p q : List UInt8) (hg : Sgn g l d) (hc : Lib.cut d [46] = (p, q, f)) (hp : isDec p) (hq : ∀ c ∈ q, isDig c) (hf : f = true → q ≠ []) (hl : l.length ≤ 4096) (hpl : p.length ≤ 4096) (hk : q.length ≤ 100) (h0 : g = true → dval p * 10 ^ q.length + dval q ≠ 0) (w : World) (hM : MaxL w) :
  Calls Tryz.prog 19 #[.string ⟨l.toArray⟩] w fun e w' => e = .returned (.tuple #[fracV (mkRat (if g then -((dval p * 10 ^ q.length + dval q : Nat) : Int) else ((dval p * 10 ^ q.length + dval q : Nat) : Int)) (10 ^ q.length)), .int .i64 0]) ∧ Below w.heap.size w w' := by
 have hdl := hg.le
 have hpq : ∀ c ∈ p ++ q, isDig c := fun c h => (List.mem_append.1 h).elim (hp.1 c) (hq c)
 have hy := dval_d hpq
 rw [dval_append, List.length_append] at hy
 have hx : (digs (dval p * 10 ^ q.length)).length ≤ p.length + q.length := Nat.le_trans (digs_mono (Nat.le_add_right _ _)) hy
 have hp1 := dval_d hp.1
 have hq1 := dval_d hq
 have hu := ten_d hk
 have HC := cpD g l d hg
 have HU := cutD d p q f (by omega) hc
 have HP := parse_ok p hpl hp
 have HB := behD q hq hk
 have HT := tensD q.length hk
 have HM := fun w => mul_any (dval p) (10 ^ q.length) (by omega) (by omega) w
 have HA := fun w => add_any (dval p * 10 ^ q.length) (dval q) (by omega) (by omega) w
 have HJ := fun w => fromI g (dval p * 10 ^ q.length + dval q) _ rfl w
 have hpos : 10 ^ q.length ≠ 0 := Nat.ne_of_gt (Nat.pow_pos (by decide))
 obtain ⟨y, hye⟩ : ∃ y, y = dval p * 10 ^ q.length + dval q := ⟨_, rfl⟩
 rw [← hye] at HA HJ hy h0 ⊢
 obtain ⟨z, hz⟩ : ∃ z : Int, z = if g then -(y : Int) else (y : Int) := ⟨_, rfl⟩
 rw [← hz] at HJ ⊢
 have hzd : dI z ≤ 5000 := by
  have : z.natAbs = y := by rw [hz]; split <;> omega
  unfold dI; rw [this]; omega
 have HF := fun w => fromF z (10 ^ q.length) hpos (by omega) (by omega) w
 have hs : (ByteArray.mk l.toArray).size = l.length := by simp [ByteArray.size]
 have hs2 : (ByteArray.mk q.toArray).size = q.length := by simp [ByteArray.size]
 have d0 : decide (4096 < (l.length : Int)) = false := decide_eq_false (by omega)
 have HO := of_val 0 0 rfl (by unfold Bs; omega)
 have HP2 : ∀ w, Calls Tryz.prog 66 #[.string ⟨p.toArray⟩] w fun e w' => e = .returned (.tuple #[natV (dval p), .int .i64 0]) ∧ Below w.heap.size w w' := HP
 cases f <;> cases g
 ·exact dparse_pos_f _ _ _ _ _ _ _ _ _ _ _ _ _ _ HC MaxL MaxL.keeps HU HP2 HB HT HM HA HJ HF hs d0 hs2 w hM
 ·exact dparse_neg_f _ _ _ _ _ _ _ _ _ _ _ _ _ _ HC MaxL MaxL.keeps HU HP2 HB HT HM HA HO HJ HF hs d0 hs2 (Nat.pos_of_ne_zero (h0 rfl)) w hM
 ·exact dparse_pos_t _ _ _ _ _ _ _ _ _ _ _ _ _ _ HC MaxL MaxL.keeps HU HP2 HB HT HM HA HJ HF hs d0 (ne_list (hf rfl)) hs2 w hM
 ·exact dparse_neg_t _ _ _ _ _ _ _ _ _ _ _ _ _ _ HC MaxL MaxL.keeps HU HP2 HB HT HM HA HO HJ HF hs d0 (ne_list (hf rfl)) hs2 (Nat.pos_of_ne_zero (h0 rfl)) w hM
theorem parse_zin (f : Bool) (l d p q : List UInt8) (hg : Sgn true l d) (hc : Lib.cut d [46] = (p, q, f)) (hp : isDec p) (hq : ∀ c ∈ q, isDig c) (hf : f = true → q ≠ []) (hl : l.length ≤ 100) (hpl : p.length ≤ 4096) (hk : q.length ≤ 100) (h0 : dval p * 10 ^ q.length + dval q = 0) (w : World) (hM : MaxL w) :
  Calls Tryz.prog 19 #[.string ⟨l.toArray⟩] w fun e w' => e = .returned (.tuple #[.agg #[.int .u64 0, .string ⟨#[]⟩, .bool false, .int .u64 0, .string ⟨#[]⟩], .int .i64 4]) ∧ Below w.heap.size w w' := by
 have hdl := hg.le
 have hp1 := dval_d hp.1
 have hq1 := dval_d hq
 have hu := ten_d hk
 have HC := cpD true l d hg
 have HU := cutD d p q f (by omega) hc
 have HP : ∀ w, Calls Tryz.prog 66 #[.string ⟨p.toArray⟩] w fun e w' => e = .returned (.tuple #[natV (dval p), .int .i64 0]) ∧ Below w.heap.size w w' := parse_ok p hpl hp
 have HB := behD q hq hk
 have HT := tensD q.length hk
 have HM := fun w => mul_any (dval p) (10 ^ q.length) (by omega) (by omega) w
 have hxz : dval p * 10 ^ q.length = 0 := by omega
 have HA := fun w => add_any (dval p * 10 ^ q.length) (dval q) (by rw [hxz, digs_zero]; simp) (by omega) w
 rw [h0] at HA
 have hs : (ByteArray.mk l.toArray).size = l.length := by simp [ByteArray.size]
 have hs2 : (ByteArray.mk q.toArray).size = q.length := by simp [ByteArray.size]
 have d0 : decide (4096 < (l.length : Int)) = false := decide_eq_false (by omega)
 have HO := of_val 0 0 rfl (by unfold Bs; omega)
 cases f
 ·exact dparse_zero_f _ _ _ _ _ _ _ _ _ _ HC MaxL MaxL.keeps HU HP HB HT HM HA HO hs d0 hs2 w hM
 ·exact dparse_zero_t _ _ _ _ _ _ _ _ _ _ HC MaxL MaxL.keeps HU HP HB HT HM HA HO hs d0 (ne_list (hf rfl)) hs2 w hM
theorem zeroF : (Value.agg #[.int .u64 0, .string ⟨#[]⟩, .bool false, .int .u64 0, .string ⟨#[]⟩]) = fracV 0 := frV_q0'.symm
end Go.Proofs.YtahfcciihkkegaaGreatDoor
namespace Go.Proofs.YtahfcciihkkegaaGreatDoor
open Go.RowKit
/-- What Cycle answers for a denominator D. -/
def CycA (D : Nat) (m n c : Int) : Prop :=
 (∃ k : Nat, Lead D k ∧ k ≤ 100 ∧ Eden D k = 1 ∧ m = k ∧ n = 0 ∧ c = 0) ∨
 (∃ k j : Nat, Lead D k ∧ k ≤ 100 ∧ Eden D k ≠ 1 ∧ 1 ≤ j ∧ k + j ≤ 100 ∧ 10 ^ j % Eden D k = 1 ∧ (∀ i, 1 ≤ i → i < j → 10 ^ i % Eden D k ≠ 1) ∧ m = k ∧ n = j ∧ c = 0) ∨
 (∃ k : Nat, Lead D k ∧ k ≤ 100 ∧ Eden D k ≠ 1 ∧ (∀ i, 1 ≤ i → k + i ≤ 100 → 10 ^ i % Eden D k ≠ 1) ∧ m = 0 ∧ n = 0 ∧ c = 3) ∨
 ((∀ i, i ≤ 100 → Nat.gcd (Eden D i) 10 ≠ 1) ∧ m = 0 ∧ n = 0 ∧ c = 3)
theorem leadD (D k : Nat) (hsz : (digs D).length ≤ 1000000) (hk : Lead D k) (h100 : k ≤ 100) (w : World) :
  Calls Tryz.prog 74 #[natV D] w fun e w' => e = .returned (.tuple #[.int .i64 (k : Int), natV (Eden D k)]) ∧ Below w.heap.size w w' :=
 dlead_w D _ ten_o one_o hsz (fun i d hi hd hg hb => by
  have : k = i := Lead.uniq hk ⟨by rw [← hd]; exact hg, hb⟩
  subst this; rw [hd]) (fun h => absurd hk.one (h k h100)) w
theorem wrap_100 (k : Nat) (h : k ≤ 100) : IntKind.i64.wrap (100 - (k : Int)) = ((100 - k : Nat) : Int) ∧ wrap64 (100 - (k : Int)) = ((100 - k : Nat) : Int) := by
 have e : (100 - (k : Int)) = ((100 - k : Nat) : Int) := by omega
 rw [e]
 refine ⟨?_, by unfold wrap64; omega⟩
 simp only [IntKind.wrap, IntKind.signed, IntKind.bits]
 simp
 omega
theorem cycD (a : Rat) (k : Nat) (ha : Sz a k) (hk : k ≤ 1000000) (m n c : Int) (h : CycA a.den m n c) (w : World) :
  Calls Tryz.prog 21 #[fracV a] w fun e w' => e = .returned (.tuple #[.int .i64 m, .int .i64 n, .int .i64 c]) ∧ Below w.heap.size w w' := by
 have hsz : (digs a.den).length ≤ 1000000 := Nat.le_trans ha.2 hk
 have hpos : 0 < a.den := a.den_pos
 have he : ∀ i, (digs (Eden a.den i)).length ≤ 1000000 := fun i => Nat.le_trans (digs_mono (Eden_le i)) hsz
 have h1 : ∀ {i : Nat}, Eden a.den i ≠ 1 → 1 < Eden a.den i := fun {i} h => by have := Eden_pos hpos i; omega
 rcases h with ⟨i, hl, hi, h1', rfl, rfl, rfl⟩ | ⟨i, j, hl, hi, hne, hj1, hj2, hr, hb, rfl, rfl, rfl⟩ | ⟨i, hl, hi, hne, hb, rfl, rfl, rfl⟩ | ⟨hb, rfl, rfl, rfl⟩
 ·have HL := leadD a.den i hsz hl hi
  rw [h1'] at HL
  exact dcyc_end a a.den (i : Int) (denF a) HL one_o (decide_eq_false (by omega)) w
 ·have HP := dper_w (Eden a.den i) (100 - i) (.tuple #[.int .i64 (j : Int), .bool true]) ten_o one_o (he i) (h1 hne) (by omega) (fun k q1 q2 q3 q4 => by
   have : k = j := by
    rcases Nat.lt_trichotomy k j with q | q | q
    ·exact absurd q3 (hb k q1 q)
    ·exact q
    ·exact absurd hr (q4 j hj1 q)
   rw [this]) (fun q => absurd hr (q j hj1 (by omega)))
  exact dcyc_round a a.den _ (i : Int) _ (j : Int) (denF a) (leadD a.den i hsz hl hi) one_o HP (decide_eq_false (by omega)) (wrap_100 i hi).1 (wrap_100 i hi).2 hne w
 ·have HP := dper_w (Eden a.den i) (100 - i) (.tuple #[.int .i64 0, .bool false]) ten_o one_o (he i) (h1 hne) (by omega) (fun k q1 q2 q3 q4 => absurd q3 (hb k q1 (by omega))) (fun q => rfl)
  exact dcyc_none a a.den _ (i : Int) _ 0 (denF a) (leadD a.den i hsz hl hi) one_o HP (decide_eq_false (by omega)) (wrap_100 i hi).1 (wrap_100 i hi).2 hne w
 ·have HL := dlead_w a.den (.tuple #[.int .i64 101, natV (Eden a.den 101)]) ten_o one_o hsz (fun i d hi hd hg _ => absurd (by rw [← hd]; exact hg) (hb i hi)) (fun _ => rfl)
  exact dcyc_far a a.den _ 101 (denF a) HL (by decide) w
theorem least (P : Nat → Prop) : ∀ n, P n → ∃ k, k ≤ n ∧ P k ∧ ∀ j, j < k → ¬ P j := by
 intro n
 induction n using Nat.strongRecOn with
 | ind n ih =>
  intro hn
  by_cases h : ∃ j, j < n ∧ P j
  ·obtain ⟨j, hj, hp⟩ := h
   obtain ⟨k, hk, r⟩ := ih j hj hp
   exact ⟨k, by omega, r⟩
  ·exact ⟨n, Nat.le_refl _, hn, fun j hj hp => h ⟨j, hj, hp⟩⟩
end Go.Proofs.YtahfcciihkkegaaGreatDoor
namespace Go.Proofs.YtahfcciihkkegaaGreatDoor
open Go.RowKit
attribute [local irreducible] lo hs sm s64 c64 d64 b64 mh ml pd pc qd qc val hiB str cmpI srD lz nb isq decB zl zh zs fe txt
set_option maxHeartbeats 16000000 in
set_option maxRecDepth 100000 in
theorem dworks_w (a1 a2 a3 a4 a5 a6 a7 a8 a9 b1 b2 b3 b4 c1 c3 : Rat) (Oa1 : ∀ w, Calls Tryz.prog 41 #[.int .i64 1, .int .i64 8] w fun xe w' => xe = .returned (fracV a1) ∧ Below w.heap.size w w') (Oa2 : ∀ w, Calls Tryz.prog 41 #[.int .i64 3, .int .i64 8] w fun xe w' => xe = .returned (fracV a2) ∧ Below w.heap.size w w') (Oa3 : ∀ w, Calls Tryz.prog 41 #[.int .i64 (-1), .int .i64 8] w fun xe w' => xe = .returned (fracV a3) ∧ Below w.heap.size w w') (Oa4 : ∀ w, Calls Tryz.prog 41 #[.int .i64 (-1), .int .i64 1000] w fun xe w' => xe = .returned (fracV a4) ∧ Below w.heap.size w w') (Oa5 : ∀ w, Calls Tryz.prog 41 #[.int .i64 5, .int .i64 2] w fun xe w' => xe = .returned (fracV a5) ∧ Below w.heap.size w w') (Oa6 : ∀ w, Calls Tryz.prog 41 #[.int .i64 2, .int .i64 3] w fun xe w' => xe = .returned (fracV a6) ∧ Below w.heap.size w w') (Oa7 : ∀ w, Calls Tryz.prog 41 #[.int .i64 7, .int .i64 10] w fun xe w' => xe = .returned (fracV a7) ∧ Below w.heap.size w w') (Oa8 : ∀ w, Calls Tryz.prog 41 #[.int .i64 (-1), .int .i64 3] w fun xe w' => xe = .returned (fracV a8) ∧ Below w.heap.size w w') (Oa9 : ∀ w, Calls Tryz.prog 41 #[.int .i64 (-2), .int .i64 5] w fun xe w' => xe = .returned (fracV a9) ∧ Below w.heap.size w w') (Ob1 : ∀ w, Calls Tryz.prog 41 #[.int .i64 (-3), .int .i64 10] w fun xe w' => xe = .returned (fracV b1) ∧ Below w.heap.size w w') (Ob2 : ∀ w, Calls Tryz.prog 41 #[.int .i64 1, .int .i64 109] w fun xe w' => xe = .returned (fracV b2) ∧ Below w.heap.size w w') (Ob3 : ∀ w, Calls Tryz.prog 41 #[.int .i64 1, .int .i64 6] w fun xe w' => xe = .returned (fracV b3) ∧ Below w.heap.size w w') (Ob4 : ∀ w, Calls Tryz.prog 41 #[.int .i64 1, .int .i64 7] w fun xe w' => xe = .returned (fracV b4) ∧ Below w.heap.size w w') (I1 : ∀ w, Calls Tryz.prog 32 #[.int .i64 1] w fun xe w' => xe = .returned (fracV c1) ∧ Below w.heap.size w w') (I3 : ∀ w, Calls Tryz.prog 32 #[.int .i64 3] w fun xe w' => xe = .returned (fracV c3) ∧ Below w.heap.size w w') (KT : World → Prop) (hKT : Keeps KT) (T0 : ∀ w, KT w → Calls Tryz.prog 42 #[fracV a1, .int .i64 2, .int .i64 1] w fun xe w' => xe = .returned (.string (ByteArray.mk #[48, 46, 49, 50])) ∧ Below w.heap.size w w') (T1 : ∀ w, KT w → Calls Tryz.prog 42 #[fracV a1, .int .i64 2, .int .i64 2] w fun xe w' => xe = .returned (.string (ByteArray.mk #[48, 46, 49, 51])) ∧ Below w.heap.size w w') (T2 : ∀ w, KT w → Calls Tryz.prog 42 #[fracV a1, .int .i64 2, .int .i64 3] w fun xe w' => xe = .returned (.string (ByteArray.mk #[48, 46, 49, 50])) ∧ Below w.heap.size w w') (T3 : ∀ w, KT w → Calls Tryz.prog 42 #[fracV a2, .int .i64 2, .int .i64 3] w fun xe w' => xe = .returned (.string (ByteArray.mk #[48, 46, 51, 56])) ∧ Below w.heap.size w w') (T4 : ∀ w, KT w → Calls Tryz.prog 42 #[fracV a3, .int .i64 2, .int .i64 1] w fun xe w' => xe = .returned (.string (ByteArray.mk #[45, 48, 46, 49, 51])) ∧ Below w.heap.size w w') (T5 : ∀ w, KT w → Calls Tryz.prog 42 #[fracV a3, .int .i64 2, .int .i64 2] w fun xe w' => xe = .returned (.string (ByteArray.mk #[45, 48, 46, 49, 50])) ∧ Below w.heap.size w w') (T6 : ∀ w, KT w → Calls Tryz.prog 42 #[fracV a4, .int .i64 2, .int .i64 2] w fun xe w' => xe = .returned (.string (ByteArray.mk #[48, 46, 48, 48])) ∧ Below w.heap.size w w') (T7 : ∀ w, KT w → Calls Tryz.prog 42 #[fracV a5, .int .i64 0, .int .i64 3] w fun xe w' => xe = .returned (.string (ByteArray.mk #[50])) ∧ Below w.heap.size w w') (R1 : ∀ w, Calls Tryz.prog 12 #[fracV a6, .int .i64 1, .int .i64 2] w fun xe w' => xe = .returned (.tuple #[fracV a7, .int .i64 0]) ∧ Below w.heap.size w w') (B1 : ∀ w, Calls Tryz.prog 26 #[fracV a8, .int .i64 1] w fun xe w' => xe = .returned (.tuple #[fracV a9, fracV b1, .int .i64 0]) ∧ Below w.heap.size w w') (E1 : ∀ w, Calls Tryz.prog 14 #[fracV c1, .int .i64 101, .int .i64 1] w fun xe w' => xe = .returned (.tuple #[.string ⟨#[]⟩, .int .i64 3]) ∧ Below w.heap.size w w') (E2 : ∀ w, Calls Tryz.prog 14 #[fracV c1, .int .i64 0, .int .i64 4] w fun xe w' => xe = .returned (.tuple #[.string ⟨#[]⟩, .int .i64 1]) ∧ Below w.heap.size w w') (P0 : ∀ w, KT w → Calls Tryz.prog 43 #[.string (ByteArray.mk #[45, 49, 46, 50, 53])] w fun xe w' => xe = .returned (.string (ByteArray.mk #[45, 53, 47, 52])) ∧ Below w.heap.size w w') (P1 : ∀ w, KT w → Calls Tryz.prog 43 #[.string (ByteArray.mk #[48, 48, 55])] w fun xe w' => xe = .returned (.string (ByteArray.mk #[110, 111, 110, 101])) ∧ Below w.heap.size w w') (P2 : ∀ w, KT w → Calls Tryz.prog 43 #[.string (ByteArray.mk #[49, 46])] w fun xe w' => xe = .returned (.string (ByteArray.mk #[110, 111, 110, 101])) ∧ Below w.heap.size w w') (P3 : ∀ w, KT w → Calls Tryz.prog 43 #[.string (ByteArray.mk #[46, 53])] w fun xe w' => xe = .returned (.string (ByteArray.mk #[110, 111, 110, 101])) ∧ Below w.heap.size w w') (P4 : ∀ w, KT w → Calls Tryz.prog 43 #[.string (ByteArray.mk #[45, 48, 46, 48])] w fun xe w' => xe = .returned (.string (ByteArray.mk #[110, 111, 110, 101])) ∧ Below w.heap.size w w') (P5 : ∀ w, KT w → Calls Tryz.prog 43 #[.string (ByteArray.mk #[51, 46, 49, 48])] w fun xe w' => xe = .returned (.string (ByteArray.mk #[51, 49, 47, 49, 48])) ∧ Below w.heap.size w w') (Y0 : ∀ w, Calls Tryz.prog 21 #[fracV b2] w fun xe w' => xe = .returned (.tuple #[.int .i64 0, .int .i64 0, .int .i64 3]) ∧ Below w.heap.size w w') (C0 : ∀ w, Calls Tryz.prog 44 #[fracV b3, .int .i64 1, .int .i64 1] w fun xe w' => xe = .returned (.bool true) ∧ Below w.heap.size w w') (C1 : ∀ w, Calls Tryz.prog 44 #[fracV b4, .int .i64 0, .int .i64 6] w fun xe w' => xe = .returned (.bool true) ∧ Below w.heap.size w w') (C2 : ∀ w, Calls Tryz.prog 44 #[fracV a3, .int .i64 3, .int .i64 0] w fun xe w' => xe = .returned (.bool true) ∧ Below w.heap.size w w') (C3 : ∀ w, Calls Tryz.prog 44 #[fracV c3, .int .i64 0, .int .i64 0] w fun xe w' => xe = .returned (.bool true) ∧ Below w.heap.size w w') (w : World) (kKT : KT w) :
  Calls Tryz.prog 11 #[] w fun xe w' => xe = .returned (.bool true) ∧ Below w.heap.size w w' := by
 have hL0 : GL w w [] := GL.start w
 replace Oa1 := Lib.hid Oa1
 replace Oa2 := Lib.hid Oa2
 replace Oa3 := Lib.hid Oa3
 replace Oa4 := Lib.hid Oa4
 replace Oa5 := Lib.hid Oa5
 replace Oa6 := Lib.hid Oa6
 replace Oa7 := Lib.hid Oa7
 replace Oa8 := Lib.hid Oa8
 replace Oa9 := Lib.hid Oa9
 replace Ob1 := Lib.hid Ob1
 replace Ob2 := Lib.hid Ob2
 replace Ob3 := Lib.hid Ob3
 replace Ob4 := Lib.hid Ob4
 replace I1 := Lib.hid I1
 replace I3 := Lib.hid I3
 replace hKT := Lib.hid hKT
 replace T0 := Lib.hid T0
 replace T1 := Lib.hid T1
 replace T2 := Lib.hid T2
 replace T3 := Lib.hid T3
 replace T4 := Lib.hid T4
 replace T5 := Lib.hid T5
 replace T6 := Lib.hid T6
 replace T7 := Lib.hid T7
 replace R1 := Lib.hid R1
 replace B1 := Lib.hid B1
 replace E1 := Lib.hid E1
 replace E2 := Lib.hid E2
 replace P0 := Lib.hid P0
 replace P1 := Lib.hid P1
 replace P2 := Lib.hid P2
 replace P3 := Lib.hid P3
 replace P4 := Lib.hid P4
 replace P5 := Lib.hid P5
 replace Y0 := Lib.hid Y0
 replace C0 := Lib.hid C0
 replace C1 := Lib.hid C1
 replace C2 := Lib.hid C2
 replace C3 := Lib.hid C3
 go_enter Tryz.func11, Tryz.ntmps11
 go_wp2_with fail
 with_reducible refine Calls.mono (Oa1.out _) ?_
 rintro e x1 ⟨rfl, hb⟩
 replace hL0 := hL0.call hb
 clear hb
 replace hL0 := (hL0.new rfl [.int .u64 ((zl a1.num : Nat) : Int), .string (zh a1.num), .bool (zs a1.num), .int .u64 ((lo (fe a1) : Nat) : Int), .string (hs (fe a1))] 34)
 generalize hweq : (x1.alloc (.cells #[.int .u64 ((zl a1.num : Nat) : Int), .string (zh a1.num), .bool (zs a1.num), .int .u64 ((lo (fe a1) : Nat) : Int), .string (hs (fe a1))] 34)) = x2 at hL0
 have hN0 := cells_of _ 0 [] rfl (hL0.get _ _ List.mem_cons_self)
 simp only [cellsF, and_true, Nat.zero_add, Nat.reduceAdd] at hN0
 go_wp2_with fail
 clear hN0
 with_reducible refine Calls.mono (T0.out _ (hKT.out.at hL0.bl kKT)) ?_
 rintro e x3 ⟨rfl, hb⟩
 replace hL0 := hL0.call hb
 clear hb hweq
 have hN0 := cells_of _ 0 [] rfl (hL0.get _ _ List.mem_cons_self)
 simp only [cellsF, and_true, Nat.zero_add, Nat.reduceAdd] at hN0
 go_wp2_with fail
 clear hN0
 with_reducible refine Calls.mono (T1.out _ (hKT.out.at hL0.bl kKT)) ?_
 rintro e x4 ⟨rfl, hb⟩
 replace hL0 := hL0.call hb
 clear hb
 have hN0 := cells_of _ 0 [] rfl (hL0.get _ _ List.mem_cons_self)
 simp only [cellsF, and_true, Nat.zero_add, Nat.reduceAdd] at hN0
 go_wp2_with fail
 clear hN0
 with_reducible refine Calls.mono (T2.out _ (hKT.out.at hL0.bl kKT)) ?_
 rintro e x5 ⟨rfl, hb⟩
 replace hL0 := hL0.call hb
 clear hb
 go_wp2_with fail
 with_reducible refine Calls.mono (Oa2.out _) ?_
 rintro e x6 ⟨rfl, hb⟩
 replace hL0 := hL0.call hb
 clear hb
 go_wp2_with fail
 with_reducible refine Calls.mono (T3.out _ (hKT.out.at hL0.bl kKT)) ?_
 rintro e x7 ⟨rfl, hb⟩
 replace hL0 := hL0.call hb
 clear hb
 go_wp2_with fail
 with_reducible refine Calls.mono (Oa3.out _) ?_
 rintro e x8 ⟨rfl, hb⟩
 replace hL0 := hL0.call hb
 clear hb
 go_wp2_with fail
 with_reducible refine Calls.mono (T4.out _ (hKT.out.at hL0.bl kKT)) ?_
 rintro e x9 ⟨rfl, hb⟩
 replace hL0 := hL0.call hb
 clear hb
 go_wp2_with fail
 with_reducible refine Calls.mono (Oa3.out _) ?_
 rintro e x10 ⟨rfl, hb⟩
 replace hL0 := hL0.call hb
 clear hb
 go_wp2_with fail
 with_reducible refine Calls.mono (T5.out _ (hKT.out.at hL0.bl kKT)) ?_
 rintro e x11 ⟨rfl, hb⟩
 replace hL0 := hL0.call hb
 clear hb
 go_wp2_with fail
 with_reducible refine Calls.mono (Oa4.out _) ?_
 rintro e x12 ⟨rfl, hb⟩
 replace hL0 := hL0.call hb
 clear hb
 go_wp2_with fail
 with_reducible refine Calls.mono (T6.out _ (hKT.out.at hL0.bl kKT)) ?_
 rintro e x13 ⟨rfl, hb⟩
 replace hL0 := hL0.call hb
 clear hb
 go_wp2_with fail
 with_reducible refine Calls.mono (Oa5.out _) ?_
 rintro e x14 ⟨rfl, hb⟩
 replace hL0 := hL0.call hb
 clear hb
 go_wp2_with fail
 with_reducible refine Calls.mono (T7.out _ (hKT.out.at hL0.bl kKT)) ?_
 rintro e x15 ⟨rfl, hb⟩
 replace hL0 := hL0.call hb
 clear hb
 go_wp2_with fail
 with_reducible refine Calls.mono (Oa6.out _) ?_
 rintro e x16 ⟨rfl, hb⟩
 replace hL0 := hL0.call hb
 clear hb
 go_wp2_with fail
 with_reducible refine Calls.mono (R1.out _) ?_
 rintro e x17 ⟨rfl, hb⟩
 replace hL0 := hL0.call hb
 clear hb
 replace hL0 := (hL0.new rfl [.int .u64 ((zl a7.num : Nat) : Int), .string (zh a7.num), .bool (zs a7.num), .int .u64 ((lo (fe a7) : Nat) : Int), .string (hs (fe a7))] 34)
 generalize hweq : (x17.alloc (.cells #[.int .u64 ((zl a7.num : Nat) : Int), .string (zh a7.num), .bool (zs a7.num), .int .u64 ((lo (fe a7) : Nat) : Int), .string (hs (fe a7))] 34)) = x18 at hL0
 go_wp2_with fail
 with_reducible refine Calls.mono (Oa8.out _) ?_
 rintro e x19 ⟨rfl, hb⟩
 replace hL0 := hL0.call hb
 clear hb hweq
 go_wp2_with fail
 with_reducible refine Calls.mono (B1.out _) ?_
 rintro e x20 ⟨rfl, hb⟩
 replace hL0 := hL0.call hb
 clear hb
 replace hL0 := ((hL0.new rfl [.int .u64 ((zl a9.num : Nat) : Int), .string (zh a9.num), .bool (zs a9.num), .int .u64 ((lo (fe a9) : Nat) : Int), .string (hs (fe a9))] 34).new (K := x20.heap.size + 1) (szA _ _) [.int .u64 ((zl b1.num : Nat) : Int), .string (zh b1.num), .bool (zs b1.num), .int .u64 ((lo (fe b1) : Nat) : Int), .string (hs (fe b1))] 34)
 generalize hweq : ((x20.alloc (.cells #[.int .u64 ((zl a9.num : Nat) : Int), .string (zh a9.num), .bool (zs a9.num), .int .u64 ((lo (fe a9) : Nat) : Int), .string (hs (fe a9))] 34)).alloc (.cells #[.int .u64 ((zl b1.num : Nat) : Int), .string (zh b1.num), .bool (zs b1.num), .int .u64 ((lo (fe b1) : Nat) : Int), .string (hs (fe b1))] 34)) = x21 at hL0
 go_wp2_with fail
 with_reducible refine Calls.mono (I1.out _) ?_
 rintro e x22 ⟨rfl, hb⟩
 replace hL0 := hL0.call hb
 clear hb hweq
 go_wp2_with fail
 with_reducible refine Calls.mono (E1.out _) ?_
 rintro e x23 ⟨rfl, hb⟩
 replace hL0 := hL0.call hb
 clear hb
 go_wp2_with fail
 with_reducible refine Calls.mono (I1.out _) ?_
 rintro e x24 ⟨rfl, hb⟩
 replace hL0 := hL0.call hb
 clear hb
 go_wp2_with fail
 with_reducible refine Calls.mono (E2.out _) ?_
 rintro e x25 ⟨rfl, hb⟩
 replace hL0 := hL0.call hb
 clear hb
 go_upto_region 8 with fail
 obtain ⟨α, iα, F, hF1, hF2⟩ := cls x25
 have hq0 := cls_box hF1 hL0 _ _ List.mem_cons_self
 simp only [cellsC, and_true, Nat.zero_add, Nat.reduceAdd] at hq0
 have hq1 := cls_box hF1 hL0 _ _ (List.mem_cons_of_mem _ List.mem_cons_self)
 simp only [cellsC, and_true, Nat.zero_add, Nat.reduceAdd] at hq1
 have hq2 := cls_box hF1 hL0 _ _ (List.mem_cons_of_mem _ (List.mem_cons_of_mem _ List.mem_cons_self))
 simp only [cellsC, and_true, Nat.zero_add, Nat.reduceAdd] at hq2
 refine region_qs 25 (C := fun w' => ∃ x, w' = F x) (by kernel_rfl) (by kernel_rfl) (cls_drew hF2) ?_
 simp only [List.take_succ_cons, List.take_zero, List.drop_succ_cons, List.drop_zero, List.take_nil, List.drop_nil]
 repeat (go_big_quiet_step (first | fail | (go_at_call 41; with_reducible exact cls_call hF1 hF2 Oa7.out _) | (go_at_call 41; with_reducible exact cls_call hF1 hF2 Oa9.out _) | (go_at_call 41; with_reducible exact cls_call hF1 hF2 Ob1.out _)))
 refine wpQuiet_nil ?_
 rintro wq ⟨xq, rfl⟩
 replace hL0 := hL0.call (hF1 xq)
 clear  hq0 hq1 hq2 hF2
 generalize F xq = x26 at hL0 ⊢
 clear hF1 xq iα F α
 go_wp2_with fail
 with_reducible refine Calls.mono (P0.out _ (hKT.out.at hL0.bl kKT)) ?_
 rintro e x27 ⟨rfl, hb⟩
 replace hL0 := hL0.call hb
 clear hb
 go_wp2_with fail
 with_reducible refine Calls.mono (P1.out _ (hKT.out.at hL0.bl kKT)) ?_
 rintro e x28 ⟨rfl, hb⟩
 replace hL0 := hL0.call hb
 clear hb
 go_wp2_with fail
 with_reducible refine Calls.mono (P2.out _ (hKT.out.at hL0.bl kKT)) ?_
 rintro e x29 ⟨rfl, hb⟩
 replace hL0 := hL0.call hb
 clear hb
 go_wp2_with fail
 with_reducible refine Calls.mono (P3.out _ (hKT.out.at hL0.bl kKT)) ?_
 rintro e x30 ⟨rfl, hb⟩
 replace hL0 := hL0.call hb
 clear hb
 go_wp2_with fail
 with_reducible refine Calls.mono (P4.out _ (hKT.out.at hL0.bl kKT)) ?_
 rintro e x31 ⟨rfl, hb⟩
 replace hL0 := hL0.call hb
 clear hb
 go_wp2_with fail
 with_reducible refine Calls.mono (P5.out _ (hKT.out.at hL0.bl kKT)) ?_
 rintro e x32 ⟨rfl, hb⟩
 replace hL0 := hL0.call hb
 clear hb
 go_wp2_with fail
 with_reducible refine Calls.mono (Ob2.out _) ?_
 rintro e x33 ⟨rfl, hb⟩
 replace hL0 := hL0.call hb
 clear hb
 go_wp2_with fail
 with_reducible refine Calls.mono (Y0.out _) ?_
 rintro e x34 ⟨rfl, hb⟩
 replace hL0 := hL0.call hb
 clear hb
 go_wp2_with fail
 with_reducible refine Calls.mono (Ob3.out _) ?_
 rintro e x35 ⟨rfl, hb⟩
 replace hL0 := hL0.call hb
 clear hb
 go_wp2_with fail
 with_reducible refine Calls.mono (C0.out _) ?_
 rintro e x36 ⟨rfl, hb⟩
 replace hL0 := hL0.call hb
 clear hb
 go_wp2_with fail
 with_reducible refine Calls.mono (Ob4.out _) ?_
 rintro e x37 ⟨rfl, hb⟩
 replace hL0 := hL0.call hb
 clear hb
 go_wp2_with fail
 with_reducible refine Calls.mono (C1.out _) ?_
 rintro e x38 ⟨rfl, hb⟩
 replace hL0 := hL0.call hb
 clear hb
 go_wp2_with fail
 with_reducible refine Calls.mono (Oa3.out _) ?_
 rintro e x39 ⟨rfl, hb⟩
 replace hL0 := hL0.call hb
 clear hb
 go_wp2_with fail
 with_reducible refine Calls.mono (C2.out _) ?_
 rintro e x40 ⟨rfl, hb⟩
 replace hL0 := hL0.call hb
 clear hb
 go_wp2_with fail
 with_reducible refine Calls.mono (I3.out _) ?_
 rintro e x41 ⟨rfl, hb⟩
 replace hL0 := hL0.call hb
 clear hb
 go_wp2_with fail
 with_reducible refine Calls.mono (C3.out _) ?_
 rintro e x42 ⟨rfl, hb⟩
 replace hL0 := hL0.call hb
 clear hb
 go_wp2_with fail
 exact bodyPost_ret (v := .bool true) (by simp [results, Tryz.results11, go_sem]) rfl ⟨rfl, hL0.bl⟩
end Go.Proofs.YtahfcciihkkegaaGreatDoor
namespace Go.Proofs.YtahfcciihkkegaaGreatDoor
open Go.RowKit
open Go.Lib (decDigits)
/-- What the layer's walks want of the world. -/
def KD (w : World) : Prop := Tab w ∧ MaxL w
theorem KD.keeps : Keeps KD := fun w w' hb h => ⟨Keeps.tab w w' hb h.1, MaxL.keeps w w' hb h.2⟩
theorem of4 (n d : Int) (q : Rat) (h : ((n : Int) : Rat) / ((d : Int) : Rat) = q) (a1 : -9223372036854775808 ≤ n) (a2 : n < 9223372036854775808) (b1 : -9223372036854775808 ≤ d) (b2 : d < 9223372036854775808) (h0 : d ≠ 0) (w : World) :
  Calls Tryz.prog 41 #[.int .i64 n, .int .i64 d] w fun e w' => e = .returned (fracV q) ∧ Below w.heap.size w w' := by
 have H := fun w => ofF n d a1 a2 b1 b2 h0 w
 rw [h] at H
 exact lof4_w n d _ q H w
theorem decT_one (z : Int) (p : Nat) (h : z.natAbs / 10 ^ p < 10) : decT z p = (if z < 0 then [45] else []) ++ (dch (z.natAbs / 10 ^ p) :: tailT z.natAbs p) := by
 unfold decT; rw [dec_small h]; rfl
theorem tx4 (a : Rat) (p : Nat) (v z : Int) (t : List UInt8) (h1 : toI v (a * tenQ p) = z) (h2 : z.natAbs / 10 ^ p < 10) (h3 : (if z < 0 then [45] else []) ++ (dch (z.natAbs / 10 ^ p) :: tailT z.natAbs p) = t) (ha : Sz a 1) (hp : p ≤ 100) (hv : 1 ≤ v ∧ v ≤ 3) (w : World) (hw : KD w) :
  Calls Tryz.prog 42 #[fracV a, .int .i64 (p : Int), .int .i64 v] w fun e w' => e = .returned (.string ⟨t.toArray⟩) ∧ Below w.heap.size w w' := by
 have H := fun w htab => textD a p v 1 ha (by decide) hp hv w htab
 rw [h1, decT_one z p h2, h3] at H
 exact ltext4_ok a p v _ H w hw.1
theorem rd4 (l : List UInt8) (q : Rat) (t : ByteArray) (hq : Sz q 1) (ht : qtxt q = t) (HP : ∀ w, MaxL w → Calls Tryz.prog 19 #[.string ⟨l.toArray⟩] w fun e w' => e = .returned (.tuple #[fracV q, .int .i64 0]) ∧ Below w.heap.size w w') (w : World) (hw : KD w) :
  Calls Tryz.prog 43 #[.string ⟨l.toArray⟩] w fun e w' => e = .returned (.string t) ∧ Below w.heap.size w w' := by
 have HT := fun w htab => textF q 1 hq (by decide) w htab
 rw [ht] at HT
 exact lread4_ok q _ t MaxL MaxL.keeps HP HT w hw.1 hw.2
theorem rd4e (l : List UInt8) (HP : ∀ w, MaxL w → Calls Tryz.prog 19 #[.string ⟨l.toArray⟩] w fun e w' => e = .returned (.tuple #[fracV 0, .int .i64 4]) ∧ Below w.heap.size w w') (w : World) (hw : KD w) :
  Calls Tryz.prog 43 #[.string ⟨l.toArray⟩] w fun e w' => e = .returned (.string (ByteArray.mk #[110, 111, 110, 101])) ∧ Below w.heap.size w w' :=
 lread4_err 0 _ 4 MaxL MaxL.keeps HP (by decide) w hw.2
theorem cy4 (a : Rat) (i j : Int) (ha : Sz a 1) (h : CycA a.den i j 0) (w : World) :
  Calls Tryz.prog 44 #[fracV a, .int .i64 i, .int .i64 j] w fun e w' => e = .returned (.bool true) ∧ Below w.heap.size w w' :=
 dcycles_w a i j 0 0 0 true (fun w => cycD a 1 ha (by decide) i j 0 h w) w
theorem no_dec_007 : ¬ isDec [48, 48, 55] := isDec_no (by decide)
theorem no_dec_nil : ¬ isDec [] := isDec_no (by decide)
theorem parse_inV (f g : Bool) (l d p q : List UInt8) (hg : Sgn g l d) (hc : Lib.cut d [46] = (p, q, f)) (hp : isDec p) (hq : ∀ c ∈ q, isDig c) (hf : f = true → q ≠ []) (hl : l.length ≤ 4096) (hpl : p.length ≤ 4096) (hk : q.length ≤ 100) (h0 : g = true → dval p * 10 ^ q.length + dval q ≠ 0) (v : Rat)
  (hv : mkRat (if g then -((dval p * 10 ^ q.length + dval q : Nat) : Int) else ((dval p * 10 ^ q.length + dval q : Nat) : Int)) (10 ^ q.length) = v) (w : World) (hM : MaxL w) :
  Calls Tryz.prog 19 #[.string ⟨l.toArray⟩] w fun e w' => e = .returned (.tuple #[fracV v, .int .i64 0]) ∧ Below w.heap.size w w' := by
 subst hv
 exact parse_in f g l d p q hg hc hp hq hf hl hpl hk h0 w hM
theorem r_m125 (w : World) (hM : MaxL w) : Calls Tryz.prog 19 #[.string ⟨[45, 49, 46, 50, 53].toArray⟩] w fun e w' => e = .returned (.tuple #[fracV (mkRat (-5) 4), .int .i64 0]) ∧ Below w.heap.size w w' := by
 exact parse_inV true true [45, 49, 46, 50, 53] [49, 46, 50, 53] [49] [50, 53] (.inl ⟨rfl, rfl⟩) (by kernel_rfl) (isDec_yes (by decide)) (isDec_yes (by decide)).1 (fun _ => by decide) (by decide) (by decide) (by decide) (fun _ => by decide) _ (by decide +kernel) w hM
theorem r_310 (w : World) (hM : MaxL w) : Calls Tryz.prog 19 #[.string ⟨[51, 46, 49, 48].toArray⟩] w fun e w' => e = .returned (.tuple #[fracV (mkRat 31 10), .int .i64 0]) ∧ Below w.heap.size w w' := by
 exact parse_inV true false [51, 46, 49, 48] [51, 46, 49, 48] [51] [49, 48] (.inr ⟨rfl, rfl, by decide⟩) (by kernel_rfl) (isDec_yes (by decide)) (isDec_yes (by decide)).1 (fun _ => by decide) (by decide) (by decide) (by decide) (fun e => by cases e) _ (by decide +kernel) w hM
theorem r_007 (w : World) (hM : MaxL w) : Calls Tryz.prog 19 #[.string ⟨[48, 48, 55].toArray⟩] w fun e w' => e = .returned (.tuple #[fracV 0, .int .i64 4]) ∧ Below w.heap.size w w' := by
 rw [← zeroF]
 exact dparse_high_f _ _ _ _ 3 0 4 _ (cpD false [48, 48, 55] _ (.inr ⟨rfl, rfl, by decide⟩)) MaxL MaxL.keeps (cutD [48, 48, 55] [48, 48, 55] [] false (by decide) (by kernel_rfl)) (parse_form [48, 48, 55] (by decide) no_dec_007) rfl (by decide) (by decide) w hM
theorem r_1d (w : World) (hM : MaxL w) : Calls Tryz.prog 19 #[.string ⟨[49, 46].toArray⟩] w fun e w' => e = .returned (.tuple #[fracV 0, .int .i64 4]) ∧ Below w.heap.size w w' := by
 rw [← zeroF]
 exact dparse_end _ _ _ 2 _ (cpD false [49, 46] _ (.inr ⟨rfl, rfl, by decide⟩)) MaxL MaxL.keeps (cutD [49, 46] [49] [] true (by decide) (by kernel_rfl)) rfl (by decide) w hM
theorem r_d5 (w : World) (hM : MaxL w) : Calls Tryz.prog 19 #[.string ⟨[46, 53].toArray⟩] w fun e w' => e = .returned (.tuple #[fracV 0, .int .i64 4]) ∧ Below w.heap.size w w' := by
 rw [← zeroF]
 exact dparse_high_t _ _ _ _ 2 0 4 _ (cpD false [46, 53] _ (.inr ⟨rfl, rfl, by decide⟩)) MaxL MaxL.keeps (cutD [46, 53] [] [53] true (by decide) (by kernel_rfl)) (parse_form [] (by decide) no_dec_nil) rfl (by decide) (ne_list (a := [53]) (by decide)) (by decide) w hM
theorem r_m00 (w : World) (hM : MaxL w) : Calls Tryz.prog 19 #[.string ⟨[45, 48, 46, 48].toArray⟩] w fun e w' => e = .returned (.tuple #[fracV 0, .int .i64 4]) ∧ Below w.heap.size w w' := by
 rw [← zeroF]
 exact parse_zin true [45, 48, 46, 48] [48, 46, 48] [48] [48] (.inl ⟨rfl, rfl⟩) (by kernel_rfl) (isDec_yes (by decide)) (isDec_yes (by decide)).1 (fun _ => by decide) (by decide) (by decide) (by decide) (by decide) w hM
theorem qt_n5_4 : qtxt (mkRat (-5) 4) = (ByteArray.mk #[45, 53, 47, 52]) := by
 rw [qt_part (d := 4) (z := -5) (by decide +kernel) (by decide) (by decide +kernel), txt1 4 (by decide), show ztxt (-5 : Int) = _ from zt_neg 5 (by decide) (by decide)]
 decide +kernel
theorem dec_10 : decDigits 10 = [49, 48] := by
 rw [show (10 : Nat) = 1 * 10 + 0 from rfl, dec_big (by decide)]
 rw [show (1 * 10 + 0) / 10 = 1 from rfl, dec_small (by decide)]; rfl
theorem dec_31 : decDigits 31 = [51, 49] := by
 rw [dec_big (by decide), show 31 / 10 = 3 from rfl, dec_small (by decide)]; rfl
theorem qt_31_10 : qtxt (mkRat 31 10) = (ByteArray.mk #[51, 49, 47, 49, 48]) := by
 rw [qt_part (d := 10) (z := 31) (by decide +kernel) (by decide) (by decide +kernel)]
 unfold ztxt txt
 rw [if_neg (by decide), show (31 : Int).natAbs = 31 from rfl, dec_10, dec_31]
 decide +kernel
theorem leadC (k : Nat) (D : Nat) (h1 : Nat.gcd (Eden D k) 10 = 1) (h2 : ∀ i, i < k → Nat.gcd (Eden D i) 10 ≠ 1) : Lead D k := ⟨h1, h2⟩
theorem dworks_any (w : World) (hw : KD w) : Calls Tryz.prog 11 #[] w fun e w' => e = .returned (.bool true) ∧ Below w.heap.size w w' := by
 have sz : ∀ q : Rat, q.num.natAbs < 18446744073709551616 → q.den < 18446744073709551616 → Sz q 1 := szc
 have O := fun (n d : Int) (q : Rat) (h : ((n : Int) : Rat) / ((d : Int) : Rat) = q) (b : (-9223372036854775808 ≤ n ∧ n < 9223372036854775808) ∧ (-9223372036854775808 ≤ d ∧ d < 9223372036854775808) ∧ d ≠ 0) => of4 n d q h b.1.1 b.1.2 b.2.1.1 b.2.1.2 b.2.2
 have s1 := sz (mkRat 1 8) (by decide +kernel) (by decide +kernel)
 have s2 := sz (mkRat 3 8) (by decide +kernel) (by decide +kernel)
 have s3 := sz (mkRat (-1) 8) (by decide +kernel) (by decide +kernel)
 have s4 := sz (mkRat (-1) 1000) (by decide +kernel) (by decide +kernel)
 have s5 := sz (mkRat 5 2) (by decide +kernel) (by decide +kernel)
 have s6 := sz (mkRat 2 3) (by decide +kernel) (by decide +kernel)
 have s8 := sz (mkRat (-1) 3) (by decide +kernel) (by decide +kernel)
 have R1 := fun w => roundD (mkRat 2 3) 1 2 1 s6 (by decide) (by decide) (by decide) w
 rw [show rnd 2 1 (mkRat 2 3) = mkRat 7 10 from by decide +kernel] at R1
 have B1 := fun w => betweenD (mkRat (-1) 3) 1 1 s8 (by decide) (by decide) w
 rw [show rnd 1 1 (mkRat (-1) 3) = mkRat (-2) 5 from by decide +kernel, show rnd 2 1 (mkRat (-1) 3) = mkRat (-3) 10 from by decide +kernel] at B1
 have E1 := fun w => textE ((1 : Int) : Rat) 101 1 (by decide) w
 rw [show rdC 101 1 = 3 from by decide] at E1
 have E2 := fun w => textE ((1 : Int) : Rat) 0 4 (by decide) w
 rw [show rdC 0 4 = 1 from by decide] at E2
 have Y0 := fun w => cycD (mkRat 1 109) 1 (sz _ (by decide +kernel) (by decide +kernel)) (by decide) 0 0 3 (by
  rw [show (mkRat 1 109).den = 109 from by decide +kernel]
  exact .inr (.inr (.inl ⟨0, leadC 0 109 (by decide +kernel) (fun i h => absurd h (Nat.not_lt_zero _)), by decide, by decide +kernel, fun i h1 h2 => (show ∀ i, i < 101 → 1 ≤ i → 10 ^ i % Eden 109 0 ≠ 1 from by decide +kernel) i (by omega) h1, rfl, rfl, rfl⟩))) w
 have C0 := cy4 (mkRat 1 6) 1 1 (sz _ (by decide +kernel) (by decide +kernel)) (by
  rw [show (mkRat 1 6).den = 6 from by decide +kernel]
  exact .inr (.inl ⟨1, 1, leadC 1 6 (by decide +kernel) (by decide +kernel), by decide, by decide +kernel, by decide, by decide, by decide +kernel, fun i a b => by omega, rfl, rfl, rfl⟩))
 have C1 := cy4 (mkRat 1 7) 0 6 (sz _ (by decide +kernel) (by decide +kernel)) (by
  rw [show (mkRat 1 7).den = 7 from by decide +kernel]
  exact .inr (.inl ⟨0, 6, leadC 0 7 (by decide +kernel) (fun i h => absurd h (Nat.not_lt_zero _)), by decide, by decide +kernel, by decide, by decide, by decide +kernel, fun i a b => (show ∀ i, i < 6 → 1 ≤ i → 10 ^ i % Eden 7 0 ≠ 1 from by decide +kernel) i b a, rfl, rfl, rfl⟩))
 have C2 := cy4 (mkRat (-1) 8) 3 0 s3 (by
  rw [show (mkRat (-1) 8).den = 8 from by decide +kernel]
  exact .inl ⟨3, leadC 3 8 (by decide +kernel) (by decide +kernel), by decide, by decide +kernel, rfl, rfl, rfl⟩)
 have C3 := cy4 ((3 : Int) : Rat) 0 0 (sz _ (by decide +kernel) (by decide +kernel)) (by
  rw [show ((3 : Int) : Rat).den = 1 from by decide +kernel]
  exact .inl ⟨0, leadC 0 1 (by decide +kernel) (fun i h => absurd h (Nat.not_lt_zero _)), by decide, by decide +kernel, rfl, rfl, rfl⟩)
 refine dworks_w (mkRat 1 8) (mkRat 3 8) (mkRat (-1) 8) (mkRat (-1) 1000) (mkRat 5 2) (mkRat 2 3) (mkRat 7 10) (mkRat (-1) 3) (mkRat (-2) 5) (mkRat (-3) 10) (mkRat 1 109) (mkRat 1 6) (mkRat 1 7) ((1 : Int) : Rat) ((3 : Int) : Rat)
  (O 1 8 _ (by decide +kernel) (by decide)) (O 3 8 _ (by decide +kernel) (by decide)) (O (-1) 8 _ (by decide +kernel) (by decide)) (O (-1) 1000 _ (by decide +kernel) (by decide)) (O 5 2 _ (by decide +kernel) (by decide)) (O 2 3 _ (by decide +kernel) (by decide)) (O 7 10 _ (by decide +kernel) (by decide)) (O (-1) 3 _ (by decide +kernel) (by decide)) (O (-2) 5 _ (by decide +kernel) (by decide)) (O (-3) 10 _ (by decide +kernel) (by decide)) (O 1 109 _ (by decide +kernel) (by decide)) (O 1 6 _ (by decide +kernel) (by decide)) (O 1 7 _ (by decide +kernel) (by decide))
  (fun w => intF 1 (by decide) (by decide) w) (fun w => intF 3 (by decide) (by decide) w) KD KD.keeps
  (tx4 _ 2 1 12 [48, 46, 49, 50] (by decide +kernel) (by decide) (by decide +kernel) s1 (by decide) (by decide))
  (tx4 _ 2 2 13 [48, 46, 49, 51] (by decide +kernel) (by decide) (by decide +kernel) s1 (by decide) (by decide))
  (tx4 _ 2 3 12 [48, 46, 49, 50] (by decide +kernel) (by decide) (by decide +kernel) s1 (by decide) (by decide))
  (tx4 _ 2 3 38 [48, 46, 51, 56] (by decide +kernel) (by decide) (by decide +kernel) s2 (by decide) (by decide))
  (tx4 _ 2 1 (-13) [45, 48, 46, 49, 51] (by decide +kernel) (by decide) (by decide +kernel) s3 (by decide) (by decide))
  (tx4 _ 2 2 (-12) [45, 48, 46, 49, 50] (by decide +kernel) (by decide) (by decide +kernel) s3 (by decide) (by decide))
  (tx4 _ 2 2 0 [48, 46, 48, 48] (by decide +kernel) (by decide) (by decide +kernel) s4 (by decide) (by decide))
  (tx4 _ 0 3 2 [50] (by decide +kernel) (by decide) (by decide +kernel) s5 (by decide) (by decide))
  R1 B1 E1 E2
  (rd4 _ _ _ (sz _ (by decide +kernel) (by decide +kernel)) qt_n5_4 r_m125) (rd4e _ r_007) (rd4e _ r_1d) (rd4e _ r_d5) (rd4e _ r_m00) (rd4 _ _ _ (sz _ (by decide +kernel) (by decide +kernel)) qt_31_10 r_310)
  Y0 C0 C1 C2 C3 w hw
end Go.Proofs.YtahfcciihkkegaaGreatDoor
namespace Go.Proofs.YtahfcciihkkegaaGreatDoor
open Go.RowKit
open Go.Lib (decDigits)
theorem i64w (x : Int) (h1 : -9223372036854775808 ≤ x) (h2 : x < 9223372036854775808) : IntKind.i64.wrap x = x := by
 simp only [IntKind.wrap, IntKind.signed, IntKind.bits]
 simp
 omega
attribute [local irreducible] decT toI rnd tenQ tailT
end Go.Proofs.YtahfcciihkkegaaGreatDoor
namespace Go.Proofs.YtahfcciihkkegaaGreatDoor
open Go.ChangeShapes Go.WideShapes Go.ChangeAt Go.RowKit
theorem own : ownKnob Tryz.prog.godebug = none := by kernel_rfl
theorem laidOut : laidOutB Tryz.prog = true := by kernel_rfl
theorem cells24 : Tryz.prog.cellsOf 28 = 1 := by kernel_rfl
/-- The variables that every row of this layer lists. -/
def laidAll : List (String × DataW Unit) := [("math/bits.deBruijn32tab", Rows.laid_math_bits_deBruijn32tab), ("math/bits.deBruijn64tab", Rows.laid_math_bits_deBruijn64tab), ("internal/strconv.uint64pow10", Rows.laid_internal_strconv_uint64pow10)]
theorem gPow : Tryz.prog.globalNamed "internal/strconv.uint64pow10" = some 3 := by kernel_rfl
theorem gPowType : (Tryz.prog.globals[3]?).map (·.type) = some 240 := by kernel_rfl
theorem cells20 : Tryz.prog.cellsOf 240 = 20 := by kernel_rfl
theorem tab_of {W : World} (h : laidMetH Tryz.prog laidAll W) : Tab W := by
 have h1 := laidMetH.filter (fun x => x.1 == "internal/strconv.uint64pow10") h
 have e : laidAll.filter (fun x => x.1 == "internal/strconv.uint64pow10") = [("internal/strconv.uint64pow10", Rows.laid_internal_strconv_uint64pow10)] := by kernel_rfl
 rw [e, MakeChecks.laidMetH_plain _ _ _ (by kernel_rfl)] at h1
 exact Lib.tabIs_of_head (rest := []) gPow gPowType Tryz.underlying240 Tryz.underlying28 cells24 cells20 (show laidMet Tryz.prog (("internal/strconv.uint64pow10", Lib.tabData .u64 Lib.pow10Tab) :: []) W from h1)
end Go.Proofs.YtahfcciihkkegaaGreatDoor
