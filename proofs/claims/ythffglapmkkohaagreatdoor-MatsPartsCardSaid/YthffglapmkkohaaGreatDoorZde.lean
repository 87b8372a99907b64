/-
  The law answers true at every input, and leaves its arguments as they were: a part of the proof. CONDITIONS: the package-level tables start as the program's text lays them (the card ties them).
-/
import Derived.Test.YthffglapmkkohaaGreatDoorZdd
import Derived.Test.YthffglapmkkohaaGreatDoorTie
import Derived.Test.YthffglapmkkohaaGreatDoorCards
set_option linter.unusedVariables false
set_option linter.unusedSimpArgs false
set_option maxHeartbeats 16000000
set_option maxRecDepth 100000
namespace Go.Proofs.YthffglapmkkohaaGreatDoor
open Go.RowKit
attribute [local irreducible] lo hs sm s64 c64 d64 b64 mh ml pd pc qd qc val hiB str cmpI srD lz nb zl zh zs fe
def mW (r c : Nat) (zs : List Int) : Mx := ⟨r, c, oW zs⟩
def maW : Mx := mW 2 2 [1, 2, 3, 4]
def mtW : Mx := turM 2 2 maW
def mpW : Mx := mulM 2 2 2 maW maW
def mnW : Mx := mW 0 3 []
def mqW : Mx := tabM 2 1 fun i j => ent maW ([1, 0].getD i 0) ([1].getD j 0)
/-- The text of a row, without brackets. -/
def jrow (l : List Rat) : List UInt8 := Lib.join ((l.map qtxt).map (·.data.toList)) [32]
def srow (x : Mx) (i : Nat) : ByteArray := ⟨([91] ++ jrow (rowL x i) ++ [93]).toArray⟩
def jmat (x : Mx) (n : Nat) : List UInt8 := Lib.join (((List.range n).map (srow x)).map (·.data.toList)) [32]
theorem gmW {x : Mx} {n k : Nat} (hr : x.r = n) (hc : x.c = k) (hl : x.l.length = n * k) (hs : x.l.all (fun q => decide (q.num.natAbs < 18446744073709551616 ∧ q.den < 18446744073709551616)) = true) : GM x n k 1 := ⟨hr, hc, hl, szl hs⟩
theorem mtext_at (x : Mx) (n k : Nat) (t : ByteArray) (hx : GM x n k 1) (hn : n ≤ 12) (hk : k ≤ 12) (hl : (List.range n).all (fun i => decide ((jrow (rowL x i)).length ≤ 100)) = true) (hJ : (⟨(jmat x n).toArray⟩ : ByteArray) = t) (hl2 : (jmat x n).length ≤ 1000000) (u : Value) (w : World) (hT : Tab w) (hu : MT w u x) :
  Calls Tryz.prog 83 #[u] w fun e w' => e = .returned (.string t) ∧ Below w.heap.size w w' := by
 rw [← hJ]
 have ox := hx.ok (by omega) (by omega)
 have hs := hx.sz
 have hlen := hx.len
 obtain ⟨rfl, rfl, -, -⟩ := hx
 obtain ⟨u1, rfl, hu⟩ := hu
 refine mTextV x (srow x) (jmat x x.r) ox (fun i hi v w ht hv => ?_) rfl hl2 u1 w hT hu
 have h9 := of_decide_eq_true (List.all_eq_true.1 hl i (List.mem_range.2 hi))
 exact rtextV (rowL x i) x.c 1 (jrow (rowL x i)) (row_len x i) (by omega) (by omega) (fun q hq => by
  obtain ⟨k, hk, rfl⟩ := tab_mem hq
  exact hs _ (gv_mem (by rw [hlen]; exact ix_lt hi hk))) rfl (by omega) v w ht hv
theorem ils_nil (w : World) : ILs w (.slice none 0 0) [] := ⟨none, 0, 0, rfl, fun h => absurd h (Nat.lt_irrefl _), fun i h => absurd h (Nat.not_lt_zero _)⟩
theorem mof_at (r c : Nat) (zs : List Int) (hm : zs.length ≤ 100000) (hz : ∀ z ∈ zs, -9223372036854775808 ≤ z ∧ z < 9223372036854775808) (hr : r ≤ 2048) (hc : c ≤ 2048) (hl : zs.length = r * c) (s : Value) (w : World) (hs : ILs w s zs) :
  Calls Tryz.prog 81 #[.int .i64 (r : Int), .int .i64 (c : Int), s] w fun e w' => ∃ pv, e = .returned (.tuple #[pv, .int .i64 0]) ∧ MT w' pv (mW r c zs) ∧ Below w.heap.size w w' := by
 refine (mOf_ok r c zs hm hz hr hc hl s w hs).mono ?_
 rintro e w' ⟨t, rfl, h1, hb⟩
 exact ⟨_, rfl, ⟨t, rfl, h1.cq⟩, hb⟩
theorem gma : GM maW 2 2 1 := gmW rfl rfl rfl (by kernel_rfl)
theorem gmt : GM mtW 2 2 1 := gmW rfl rfl rfl (by kernel_rfl)
theorem gmp : GM mpW 2 2 1 := gmW rfl rfl rfl (by kernel_rfl)
theorem gmn : GM mnW 0 3 1 := gmW rfl rfl rfl (by kernel_rfl)
theorem gmq : GM mqW 2 1 1 := gmW rfl rfl rfl (by kernel_rfl)
theorem gvW (zs : List Int) (n : Nat) (h : zs.length = n) (hs : (oW zs).all (fun q => decide (q.num.natAbs < 18446744073709551616 ∧ q.den < 18446744073709551616)) = true) : GV (oW zs) n 1 := ⟨by unfold oW; rw [tabV_len, h], szl hs⟩
theorem mworks_any (w : World) (ht : Tab w) : Calls Tryz.prog 21 #[] w fun xe w' => xe = .returned (.bool true) ∧ Below w.heap.size w w' := by
 have g1 := gvW [1, -1] 2 rfl (by kernel_rfl)
 have g2 := gvW [1, 0] 2 rfl (by kernel_rfl)
 have g3 := gvW [0, 1] 2 rfl (by kernel_rfl)
 have e2 : formM 2 2 maW (oW [1, 0]) (oW [0, 1]) = (((2 : Int)) : Rat) := by decide +kernel
 have e10 : qsum maW.l = (((10 : Int)) : Rat) := by decide +kernel
 have sva : ∀ q ∈ appV 2 2 maW (oW [1, -1]), Sz q 1 := szl (by kernel_rfl)
 refine mworks_w maW mtW mpW mnW mqW (oW [1, -1]) (oW [1, 0]) (oW [0, 1]) (appV 2 2 maW (oW [1, -1])) (((2 : Int)) : Rat) (((10 : Int)) : Rat)
  (fun p w h => mof_at 2 2 [1, 2, 3, 4] (by decide) (by decide) (by decide) (by decide) rfl p w h)
  (fun p w h => MTurnG gma (by decide) (by decide) p w h)
  (fun p q w h g => MulG gma gma (by decide) (by decide) (by decide) (by decide) (by decide) p q w h g)
  (fun p w h => of_at _ (by decide) (by decide) p w h) (fun p w h => of_at _ (by decide) (by decide) p w h) (fun p w h => of_at _ (by decide) (by decide) p w h)
  (fun p q w h g => MApplyG gma g1 (by decide) (by decide) (by decide) (by decide) p q w h g)
  (fun p q s w h g f => by have := MFormG (N := 10) gma g2 g3 (by decide) (by decide) (by decide) (by decide) (by decide) (by decide) p q s w h g f; rwa [e2] at this)
  (fun w => intF 2 (by decide) (by decide) w) (fun w => intF 10 (by decide) (by decide) w)
  (fun p w h => mOf_err 2 2 1 [1] (by decide) (by decide) (by decide) (fun d ao w => mcheck_len 2 2 1 d 4 ao (by decide) (by decide) rfl (by decide) w) p w h)
  (fun w => mOf_err (-1) 2049 1 [] (by decide) (by decide) (by decide) (fun d ao w => mcheck_err (-1) 2049 1 0 d ao (by decide) (fun w => msize_neg1 (-1) 2049 (by decide) w) w) _ w (ils_nil w))
  (fun w => mOf_err 2049 0 3 [] (by decide) (by decide) (by decide) (fun d ao w => mcheck_err 2049 0 3 0 d ao (by decide) (fun w => msize_big1 2049 0 (by decide) (by decide) (by decide) w) w) _ w (ils_nil w))
  (fun w => mof_at 0 3 [] (by decide) (by decide) (by decide) (by decide) rfl _ w (ils_nil w))
  (fun p q s w h g f => by
   obtain ⟨u1, rfl, hu⟩ := h
   refine (mPartV maW [1, 0] [1] (gma.ok (by decide) (by decide)) (by decide) (by decide) (by decide) (by decide) u1 q s w hu g f).mono ?_
   rintro e w' ⟨t, rfl, h1, hb⟩
   exact ⟨_, rfl, ⟨t, rfl, h1.cq⟩, hb⟩)
  (fun p w h => by
   obtain ⟨u1, rfl, hu⟩ := h
   have := mSumV maW 1 (gma.ok (by decide) (by decide)) (by decide) (by decide) (by decide) gma.sz u1 w hu
   rwa [e10] at this)
  (fun p w h => MSymG gma (by decide) false ⟨(fun h => by cases h), fun h => by have := h 0 1 (by decide) (by decide); revert this; decide +kernel⟩ p w h)
  (fun p w h => MSymN gmn (by decide) (by decide) (by decide) p w h)
  Tab Keeps.tab
  (fun p w hT h => mtext_at maW 2 2 _ gma (by decide) (by decide) (by kernel_rfl) (by kernel_rfl) (by decide +kernel) p w hT h)
  (fun p w hT h => mtext_at mtW 2 2 _ gmt (by decide) (by decide) (by kernel_rfl) (by kernel_rfl) (by decide +kernel) p w hT h)
  (fun p w hT h => mtext_at mpW 2 2 _ gmp (by decide) (by decide) (by kernel_rfl) (by kernel_rfl) (by decide +kernel) p w hT h)
  (fun p w hT h => mtext_at mqW 2 1 _ gmq (by decide) (by decide) (by kernel_rfl) (by kernel_rfl) (by decide +kernel) p w hT h)
  (fun p w hT h => text_at (appV 2 2 maW (oW [1, -1])) (jrow (appV 2 2 maW (oW [1, -1]))) _ (by decide +kernel) sva rfl (by decide +kernel) (by kernel_rfl) p w hT h)
  (by rfl) (by rfl) (by rfl) (by rfl) (by rfl) (by rfl) (by rfl) (by rfl) (by rfl) (by rfl) w ht
end Go.Proofs.YthffglapmkkohaaGreatDoor
namespace Go.Proofs.YthffglapmkkohaaGreatDoor
open Go.RowKit
attribute [local irreducible] lo hs sm s64 c64 d64 b64 mh ml pd pc qd qc val hiB str cmpI srD lz nb zl zh zs fe rowV tabV gv bsV tabM
/-- S laid over L from a place on. -/
def laid : List Rat → Nat → List Rat → List Rat
 | L, _, [] => L
 | L, o, q :: S => laid (L.set o q) (o + 1) S
end Go.Proofs.YthffglapmkkohaaGreatDoor
namespace Go.Proofs.YthffglapmkkohaaGreatDoor
open Go.RowKit
attribute [local irreducible] lo hs sm s64 c64 d64 b64 mh ml pd pc qd qc val hiB str cmpI srD lz nb zl zh zs fe rowV tabV gv bsV tabM
theorem own_mono9 {w : World} {B C sz n : Nat} {e : TypeId} {v : Value} {xs : List Value} (h : w.ownsRow B e sz v n xs) (hC : C ≤ B) : w.ownsRow C e sz v n xs :=
 ⟨h.1, h.2.imp id fun ⟨g, cap, cur, h1, h2, h3⟩ => ⟨g, cap, cur, h1, Nat.le_trans hC h2, h3⟩⟩
section
variable {B : Nat} {W W' : World} {g R n : Nat} {ru pu : Value} {bk : Nat → Nat} {G : Gd} {pv : List Nat} {f : Rat}
theorem GR.mono {C : Nat} (h : GR B W g ru pu R n bk G pv f) (hC : C ≤ B) : GR C W g ru pu R n bk G pv f :=
 ⟨h.hg, own_mono9 h.hr hC, own_mono9 h.hp hC, fun i hi => ⟨Nat.le_trans hC (h.hB i hi).1, (h.hB i hi).2⟩, h.inj, Nat.le_trans hC h.gB, Nat.le_trans hC h.bs, h.ng, h.nr, h.np, h.rg, h.pg, h.rp⟩
/-- A block that the grid does not hold. -/
structure NotIn (d g R : Nat) (ru pu : Value) (bk : Nat → Nat) : Prop where
 g : d ≠ g
 r : ru.ownBlock ≠ some d
 p : pu.ownBlock ≠ some d
 b : ∀ i, i < R → bk i ≠ d
theorem GR.chs {S : Nat → Prop} (h : GR B W g ru pu R n bk G pv f) (hc : Chs S W W') (hs : ∀ d, S d → NotIn d g R ru pu bk) : GR B W' g ru pu R n bk G pv f :=
 ⟨h.hg.chs hc fun e => (hs _ e).g rfl, own_chs h.hr hc fun z hz e => (hs _ e).r hz, own_chs h.hp hc fun z hz e => (hs _ e).p hz, fun i hi => ⟨(h.hB i hi).1, (h.hB i hi).2.chs hc fun e => (hs _ e).b i hi rfl⟩, h.inj, h.gB, Nat.le_trans h.bs hc.size, h.ng, h.nr, h.np, h.rg, h.pg, h.rp⟩
end
/-- The rows of a matrix, with zeros behind. -/
def rowsE (x : Mx) : Gd := fun i j => if j < x.c then ent x i j else 0
end Go.Proofs.YthffglapmkkohaaGreatDoor
namespace Go.Proofs.YthffglapmkkohaaGreatDoor
open Go.RowKit
attribute [local irreducible] lo hs sm s64 c64 d64 b64 mh ml pd pc qd qc val hiB str cmpI srD lz nb zl zh zs fe rowV tabV gv bsV tabM
/-- The columns without pivots. -/
def freeL (pv : List Nat) (c : Nat) : List Nat := (List.range c).filter fun k => decide (k ∉ pv)
/-- A row of vectors that the call makes. -/
structure KB (B : Nat) (W : World) (v : Value) (m n : Nat) (dk : Nat → Nat) (V : Nat → Nat → Rat) : Prop where
 hr : W.ownsRow B 28 1 v m (rwE n dk m)
 hB : ∀ a, a < m → B ≤ dk a ∧ Hd W (dk a) (frCs (tabV n (V a)))
 nr : ∀ a, a < m → v.ownBlock ≠ some (dk a)
 bs : B ≤ W.heap.size
section
variable {B : Nat} {W W' : World} {v : Value} {m n : Nat} {dk : Nat → Nat} {V : Nat → Nat → Rat}
theorem KB.chs {S : Nat → Prop} (h : KB B W v m n dk V) (hc : Chs S W W') (h1 : ∀ z, v.ownBlock = some z → ¬ S z) (h2 : ∀ a, a < m → ¬ S (dk a)) : KB B W' v m n dk V :=
 ⟨own_chs h.hr hc h1, fun a ha => ⟨(h.hB a ha).1, (h.hB a ha).2.chs hc (h2 a ha)⟩, h.nr, Nat.le_trans h.bs hc.size⟩
theorem KB.below (h : KB B W v m n dk V) (hb : Below W.heap.size W W') : KB B W' v m n dk V := h.chs (S := fun _ => False) (Chs.of_below hb) (fun _ _ h => h) fun _ _ h => h
/-- A store into a block that the row does not hold. -/
theorem KB.upd {d : Nat} (h : KB B W v m n dk V) (hu : Upd d W W') (h1 : v.ownBlock ≠ some d) (h2 : ∀ a, a < m → dk a ≠ d) : KB B W' v m n dk V :=
 h.chs (Chs.of_upd hu) (fun z hz e => h1 (e ▸ hz)) h2
theorem KB.lt (h : KB B W v m n dk V) {d : Nat} (hd : W.heap.size ≤ d) : v.ownBlock ≠ some d ∧ ∀ a, a < m → dk a ≠ d :=
 ⟨fun e => by have := (h.hr.lt d e).2; omega, fun a ha e => by have := (h.hB a ha).2.lt; omega⟩
end
end Go.Proofs.YthffglapmkkohaaGreatDoor
namespace Go.Proofs.YthffglapmkkohaaGreatDoor
open Go.RowKit
attribute [local irreducible] lo hs sm s64 c64 d64 b64 mh ml pd pc qd qc val hiB str cmpI srD lz nb zl zh zs fe rowV tabV gv bsV tabM
/-- The vectors that a call has made. -/
def KV (B : Nat) (W : World) (v : Value) (n : Nat) (L : List (List Rat)) : Prop := ∃ m dk V, KB B W v m n dk V ∧ ((List.range m).map fun a => tabV n (V a)) = L
theorem KV.form {B n : Nat} {W : World} {v : Value} {L : List (List Rat)} (h : KV B W v n L) : ∃ a m c, v = .slice a m c := by
 obtain ⟨m, dk, V, h1, rfl⟩ := h
 obtain ⟨a, c, rfl⟩ := own_form12 h1.hr
 exact ⟨a, m, c, rfl⟩
theorem KV.upd {B n d : Nat} {W W' : World} {v : Value} {L : List (List Rat)} (h : KV B W v n L) (hu : Upd d W W') (hd : d < B) : KV B W' v n L := by
 obtain ⟨m, dk, V, h1, h2⟩ := h
 exact ⟨m, dk, V, h1.upd hu (fun e => by have := (h1.hr.lt d e).1; omega) fun a ha e => by have := (h1.hB a ha).1; omega, h2⟩
/-- The state of the kernel's loop. -/
structure KS (w0 W : World) (B g R n c l k i L m : Nat) (ru pu : Value) (bk : Nat → Nat) (A : Gd) (pv : List Nat) (f : Rat) (pa pa1 : Option Addr) (pc1 : Nat) (va : Value) (dk : Nat → Nat) (V : Nat → Nat → Rat) : Prop where
 iL : i + L = l
 lt : ∀ r (h : r < pv.length), r < i ↔ pv[r] < k
 ah : 0 < L → ∃ pz, pa = some ⟨pz, 0, none⟩ ∧ pa1 = some ⟨pz, i, none⟩
 cap : L ≤ pc1
 fm : m = (freeL pv k).length
 kb : KB w0.heap.size W va m c dk V
 gr : GR B W g ru pu R n bk A pv f
 nb : ∀ z, va.ownBlock = some z → NotIn z g R ru pu bk
 bl : Below w0.heap.size w0 W
theorem KS.below {w0 W W' : World} {B g R n c l k i L m : Nat} {ru pu : Value} {bk : Nat → Nat} {A : Gd} {pv : List Nat} {f : Rat} {pa pa1 : Option Addr} {pc1 : Nat} {va : Value} {dk : Nat → Nat} {V : Nat → Nat → Rat}
  (h : KS w0 W B g R n c l k i L m ru pu bk A pv f pa pa1 pc1 va dk V) (hb : Below W.heap.size W W') : KS w0 W' B g R n c l k i L m ru pu bk A pv f pa pa1 pc1 va dk V :=
 ⟨h.iL, h.lt, h.ah, h.cap, h.fm, h.kb.below hb, h.gr.below hb, h.nb, h.bl.trans (hb.mono h.bl.size)⟩
theorem KS.upd {w0 W W' : World} {B g R n c l k i L m d : Nat} {ru pu : Value} {bk : Nat → Nat} {A : Gd} {pv : List Nat} {f : Rat} {pa pa1 : Option Addr} {pc1 : Nat} {va : Value} {dk : Nat → Nat} {V : Nat → Nat → Rat}
  (h : KS w0 W B g R n c l k i L m ru pu bk A pv f pa pa1 pc1 va dk V) (hu : Upd d W W') (h1 : va.ownBlock ≠ some d) (h2 : ∀ a, a < m → dk a ≠ d) (h3 : NotIn d g R ru pu bk) (h4 : w0.heap.size ≤ d) : KS w0 W' B g R n c l k i L m ru pu bk A pv f pa pa1 pc1 va dk V :=
 ⟨h.iL, h.lt, h.ah, h.cap, h.fm, h.kb.upd hu h1 h2, h.gr.chs (Chs.of_upd hu) fun x e => by rw [e]; exact h3, h.nb, h.bl.trans (hu.below h4)⟩
theorem KS.out {w0 W : World} {B g R n c l k i L m : Nat} {ru pu : Value} {bk : Nat → Nat} {A : Gd} {pv : List Nat} {f : Rat} {pa pa1 : Option Addr} {pc1 : Nat} {va : Value} {dk : Nat → Nat} {V : Nat → Nat → Rat}
  (h : KS w0 W B g R n c l k i L m ru pu bk A pv f pa pa1 pc1 va dk V) (up : ∀ r (h : r + 1 < pv.length), pv[r] < pv[r + 1]) (hl : l = pv.length) (hn : ∀ (hi : i < pv.length), pv[i] ≠ k) : k ∉ pv := fun hm => by
 obtain ⟨r, hr, e⟩ := List.getElem_of_mem hm
 have h1 := h.lt r hr
 have h0 : ¬ r < i := fun g => by have := h1.1 g; omega
 have hir : i < pv.length := by omega
 have h2 := (h.lt i hir)
 by_cases e2 : r = i
 ·subst e2; exact hn hir e
 ·have := up_lt' up (show i < r by omega) hr
  have h3 : pv[i] < k := by omega
  have := h2.2 h3
  omega
end Go.Proofs.YthffglapmkkohaaGreatDoor
namespace Go.Proofs.YthffglapmkkohaaGreatDoor
open Go.RowKit
attribute [local irreducible] lo hs sm s64 c64 d64 b64 mh ml pd pc qd qc val hiB str cmpI srD lz nb zl zh zs fe rowV tabV gv bsV tabM
section
variable (r c e0 : Int) (ao bo : Option Addr) (m d bl bd : Nat) (HK : ∀ w, Calls Tryz.prog 89 #[.agg #[.int .i64 r, .int .i64 c, .slice ao m d]] w fun xe w' => xe = .returned (.int .i64 e0) ∧ Below w.heap.size w w')
include HK
end
/-- The sizes that an elimination meets. -/
structure ESz (R n c K : Nat) (G : Gd) : Prop where
 ds : ∀ k, k ≤ c → Sz (descE R ⟨G, [], 1⟩ k).f K ∧ ∀ i, i < R → ∀ j, j < n → Sz ((descE R ⟨G, [], 1⟩ k).G i j) K
 sa : ∀ m, m ≤ (descE R ⟨G, [], 1⟩ c).pv.length → ∀ i, i < R → ∀ j, j < n → Sz (ascE (descE R ⟨G, [], 1⟩ c).pv (descE R ⟨G, [], 1⟩ c).G m i j) K
 kb : K ≤ 1000000
 nb : n ≤ 5000
 rb : R ≤ 5000
 cn : c ≤ n
end Go.Proofs.YthffglapmkkohaaGreatDoor
namespace Go.Proofs.YthffglapmkkohaaGreatDoor
open Go.RowKit
attribute [local irreducible] lo hs sm s64 c64 d64 b64 mh ml pd pc qd qc val hiB str cmpI srD lz nb zl zh zs fe rowV tabV gv bsV tabM
theorem Chs.bl {B : Nat} {w w' : World} (h : Chs (fun k => B ≤ k) w w') (hB : B ≤ w.heap.size) : Below B w w' := h.below hB fun k hk e => by omega
theorem ils_own {W : World} {B : Nat} {pa : Option Addr} {c : Nat} {pv : List Nat} (h : W.ownsRow B 3 1 (.slice pa pv.length c) pv.length (pvE pv)) (c2 : Nat) : ILs W (.slice pa pv.length c2) (pv.map Int.ofNat) := by
 have hlt := h.lt
 have hl : (pv.map Int.ofNat).length = pv.length := List.length_map _
 rcases id h.2 with ⟨e1, e2⟩ | ⟨z, cap, cur, e1, hb, -⟩
 ·have e3 : pv = [] := List.eq_nil_of_length_eq_zero e2
  subst e3
  exact ⟨pa, c2, 0, rfl, fun h => absurd h (Nat.lt_irrefl 0), fun i hi => absurd hi (Nat.not_lt_zero i)⟩
 ·obtain ⟨rfl, rfl⟩ : pa = some ⟨z, 0, none⟩ ∧ c = cap := by simpa using e1
  refine ⟨_, c2, z, by rw [hl], fun _ => ⟨rfl, (hlt z rfl).2⟩, fun i hi => ?_⟩
  rw [hl] at hi
  rw [List.getElem_map]
  exact (h.cellAt i (by omega)).trans (pv_at hi)
section
variable (x : Mx) (hx : OKM x) (K : Nat) (hs : ESz x.r x.c x.c K (rowsE x)) (D : ES) (hD : descE x.r ⟨rowsE x, [], 1⟩ x.c = D) (u : Value) (w : World) (hu : CQ w u x.l)
include hx hs hD hu
end
end Go.Proofs.YthffglapmkkohaaGreatDoor
namespace Go.Proofs.YthffglapmkkohaaGreatDoor
open Go.RowKit
attribute [local irreducible] lo hs sm s64 c64 d64 b64 mh ml pd pc qd qc val hiB str cmpI srD lz nb zl zh zs fe rowV tabV gv bsV tabM
/-- The numbers reduced to indices below n. -/
def plsL (zs : List Int) (n : Nat) : List Nat := if n = 0 then [] else zs.map fun z => (z % (n : Int)).toNat
theorem pls_lt {zs : List Int} {n : Nat} : ∀ p ∈ plsL zs n, p < n := fun p hp => by
 unfold plsL at hp
 split at hp
 ·cases hp
 ·obtain ⟨z, -, rfl⟩ := List.mem_map.1 hp
  have h1 := Int.emod_nonneg z (show (n : Int) ≠ 0 by omega)
  have h2 := Int.emod_lt_of_pos z (show 0 < (n : Int) by omega)
  omega
theorem pls_len (zs : List Int) (n : Nat) : (plsL zs n).length ≤ zs.length := by
 unfold plsL
 split
 ·exact Nat.zero_le _
 ·rw [List.length_map]; exact Nat.le_refl _
theorem pls_tm (z : Int) (n : Nat) (h : 0 < n) : ∃ p : Nat, p = (z % (n : Int)).toNat ∧ p < n ∧ (Int.tmod z n < 0 → Int.tmod z n + (n : Int) = (p : Int)) ∧ (¬ Int.tmod z n < 0 → Int.tmod z n = (p : Int)) ∧ -(n : Int) < Int.tmod z n ∧ Int.tmod z n < (n : Int) := by
 have hn : (0 : Int) < n := by omega
 have e1 := Int.emod_nonneg z (show (n : Int) ≠ 0 by omega)
 have e2 := Int.emod_lt_of_pos z hn
 have t1 : Int.tmod z n < (n : Int) := Int.tmod_lt_of_pos z hn
 have t2 : -(n : Int) < Int.tmod z n := by
  have := Int.tmod_lt_of_pos (-z) hn
  rw [Int.neg_tmod] at this
  omega
 have e3 : Int.tmod z n % (n : Int) = z % (n : Int) := by
  rw [Int.tmod_def, Int.sub_eq_add_neg, ← Int.mul_neg, Int.add_mul_emod_self_left]
 refine ⟨_, rfl, by omega, fun hneg => ?_, fun hpos => ?_, t2, t1⟩
 ·have e4 : (Int.tmod z n + (n : Int)) % (n : Int) = z % (n : Int) := by rw [Int.add_emod_right]; exact e3
  rw [Int.emod_eq_of_lt (by omega) (by omega)] at e4
  omega
 ·rw [Int.emod_eq_of_lt (by omega) t1] at e3
  omega
theorem own_ils {W : World} {B t c : Nat} {pa : Option Addr} {pv : List Nat} (h : W.ownsRow B 3 1 (.slice pa t c) t (pvE pv)) (ht : t = pv.length) : ILs W (.slice pa t c) (pv.map Int.ofNat) := by
 subst ht
 exact ils_own h c
theorem pv_snoc (pv : List Nat) (p : Nat) : pvE pv ++ [.int .i64 (p : Int)] = pvE (pv ++ [p]) := by unfold pvE; rw [List.map_append]; rfl
theorem mplaces_all (n : Nat) (hn : n ≤ 1000) (w : World) :
  Calls Tryz.prog 32 #[.slice none 0 0, .int .i64 (n : Int), .bool true] w fun e w' => (∃ u, e = .returned u ∧ ILs w' u ((List.range n).map Int.ofNat)) ∧ Below w.heap.size w w' := by
 have hw0 := Below.refl w.heap.size w
 go_enter Tryz.func32, Tryz.ntmps32
 go_wp2_with fail
 go_loopg [7, 8] n (fun gk fv iv wr => ∃ (i : Nat) (zi : Int) (fp : Option Addr) (ft fc : Nat), i + gk = n ∧ fv = .slice fp ft fc ∧ iv = .int .i64 zi ∧ zi = (i : Int) ∧ ft = i ∧ wr.ownsRow w.heap.size 3 1 (.slice fp ft fc) ft (pvE (List.range i)) ∧ Below w.heap.size w wr)
 case atStart => exact ⟨0, 0, none, 0, 0, Nat.zero_add n, rfl, by first | rfl | go_num, rfl, rfl, World.ownsRow_nil _ _ _ _, hw0⟩
 case round =>
  clear hw0
  obtain ⟨i, zi, fp, ft, fc, hin, rfl, rfl, hzi, hft, hown, hb⟩ := hrel
  replace hft := Lib.hid hft
  rcases Nat.lt_or_ge i n with hi | hi
  ·subst hzi
   have k1 : (i : Int) < (n : Int) := by omega
   have k0 : (0 : Int) ≤ (i : Int) := Int.natCast_nonneg _
   have kb : (i : Int) ≤ 1000 := by omega
   have hM := (GL.start wr).new rfl [.int .i64 (i : Int)] 3
   generalize hweq : wr.alloc (.cells #[.int .i64 (i : Int)] 3) = yd at hM
   have hcu := (hM.get _ _ mZ).cell 0 (by simp)
   simp only [List.getElem_cons_zero] at hcu
   have hwy := hM.bl
   have hown2 := own_chs (S := fun _ => False) hown (Chs.of_below hwy) (fun _ _ h => h)
   have hb2 := hb.trans (hwy.mono hb.size)
   replace hcu := Lib.hid hcu
   replace hown2 := Lib.hid hown2
   have hft6 := Lib.hid (show ft ≤ 1000 by rw [hft.out]; omega)
   clear hM hwy hown hb
   go_wp2_with (at_builtin; refine wp_appendI rfl _ _ rfl w.heap.size (.slice fp ft fc) ft (pvE (List.range i)) rfl hown2.out ⟨_, 0, none⟩ (i : Int) 1 rfl hcu.out (by have := hft6.out; omega) hb2.size ?_)
   intro v' w8 h8 hgr hor
   obtain ⟨va, vc, rfl⟩ := own_form12 h8
   have hlt9 := hown2.out.lt
   have hb8 := hb2.trans ((Chs.of_grown hgr).below hb2.size fun z hz e => by have := (hlt9 z e.symm).1; omega)
   rw [pv_snoc, ← List.range_succ] at h8
   replace h8 := Lib.hid h8
   clear hgr hor hlt9 hown2 hcu hweq hb2
   go_wp2_with fail
   go_roundg (n - (i + 1))
   case measure => omega
   case rel => exact ⟨i + 1, _, va, ft + 1, vc, by omega, rfl, by first | rfl | go_num, by omega, by rw [hft.out], h8.out, hb8⟩
  ·obtain rfl : n = i := by omega
   subst hzi
   have k1 : ¬ (n : Int) < (n : Int) := by omega
   have hI := own_ils hown (by rw [hft.out, List.length_range])
   replace hI := Lib.hid hI
   go_wp2_with fail
   go_loopg [7, 9] 0 (fun gk fv iv wr2 => fv = .slice fp ft fc ∧ iv = .int .i64 0 ∧ wr2 = wr)
   case atStart => exact ⟨rfl, by first | rfl | go_num, rfl⟩
   case round =>
    obtain ⟨rfl, rfl, rfl⟩ := hrel
    go_wp2_with fail
    exact bodyPost_ret (v := .slice fp ft fc) (by simp [results, Tryz.results32, go_sem]) rfl ⟨⟨_, rfl, hI.out⟩, hb⟩
theorem mplaces_sel (zs : List Int) (n : Nat) (hn : n ≤ 1000) (hl : zs.length ≤ 1000) (v : Value) (w : World) (hv : IA w v zs) :
  Calls Tryz.prog 32 #[v, .int .i64 (n : Int), .bool false] w fun e w' => (∃ u, e = .returned u ∧ ILs w' u ((plsL zs n).map Int.ofNat)) ∧ Below w.heap.size w w' := by
 have hw0 := Below.refl w.heap.size w
 obtain ⟨ao, c, rfl, -, -⟩ := id hv
 obtain ⟨l, hll⟩ : ∃ l, l = zs.length := ⟨_, rfl⟩
 rw [← hll] at hv hl ⊢
 replace hv := Lib.hid hv
 replace hll := Lib.hid hll
 have n00 : (0 : Int) ≤ (n : Int) := Int.natCast_nonneg _
 have nb9 : (n : Int) ≤ 1000 := by omega
 go_enter Tryz.func32, Tryz.ntmps32
 go_wp2_with fail
 go_loopg [7, 8] 0 (fun gk fv iv wr2 => fv = .slice none 0 0 ∧ iv = .int .i64 0 ∧ wr2 = w)
 case atStart => exact ⟨rfl, by first | rfl | go_num, rfl⟩
 case round =>
  obtain ⟨rfl, rfl, rfl⟩ := hrel
  by_cases hn1 : (0 : Int) < (n : Int)
  ·have h0 : 0 < n := by omega
   go_wp2_with fail
   obtain ⟨w0, hw9⟩ : ∃ w0, w0 = wr := ⟨_, rfl⟩
   subst hw9
   go_loopg [7, 9] l (fun gk fv iv wr => ∃ (i : Nat) (zi : Int) (fp : Option Addr) (ft fc : Nat), i + gk = l ∧ fv = .slice fp ft fc ∧ iv = .int .i64 zi ∧ zi = (i : Int) ∧ ft = ((plsL zs n).take i).length ∧ wr.ownsRow w0.heap.size 3 1 (.slice fp ft fc) ft (pvE ((plsL zs n).take i)) ∧ Below w0.heap.size w0 wr)
   case atStart => exact ⟨0, 0, none, 0, 0, Nat.zero_add l, rfl, by first | rfl | go_num, rfl, rfl, World.ownsRow_nil _ _ _ _, hw0⟩
   case round =>
    clear hw0
    obtain ⟨i, zi, fp, ft, fc, hil, rfl, rfl, hzi, hft, hown, hb⟩ := hrel
    replace hft := Lib.hid hft
    have hend : n = 0 ∨ l ≤ i → ILs wr (.slice fp ft fc) ((plsL zs n).map Int.ofNat) := fun h => by
     have h1 := own_ils hown hft.out
     rwa [show (plsL zs n).take i = plsL zs n from List.take_of_length_le (by
      rcases h with h | h
      ·subst h; exact Nat.zero_le _
      ·have := pls_len zs n; have := hll.out; omega)] at h1
    rcases Nat.lt_or_ge i l with hi | hi
    ·subst hzi
     clear hend
     have k1 : (i : Int) < (l : Int) := by omega
     have k0 : (0 : Int) ≤ (i : Int) := Int.natCast_nonneg _
     have kb : (i : Int) ≤ 1000 := by omega
     have hiz : i < zs.length := by rw [← hll.out]; exact hi
     obtain ⟨a9, ha9, hcl⟩ := (hv.out.below hb).at i hi
     subst ha9
     have hzi : zs[i] = zs.getD i 0 := by rw [List.getD_eq_getElem?_getD, List.getElem?_eq_getElem hiz]; rfl
     obtain ⟨p, hp, hpn, hp1, hp2, hp3, hp4⟩ := pls_tm (zs.getD i 0) n h0
     have hlp : (plsL zs n).length = l := by unfold plsL; rw [if_neg (by omega), List.length_map, hll.out]
     have hgp : (plsL zs n)[i]'(by rw [hlp]; exact hi) = p := by
      rw [hp]
      have e : plsL zs n = zs.map fun z => (z % (n : Int)).toNat := by unfold plsL; rw [if_neg (by omega)]
      simp only [e, List.getElem_map, hzi]
     have htk : (plsL zs n).take (i + 1) = (plsL zs n).take i ++ [p] := by rw [List.take_succ_eq_append_getElem (by rw [hlp]; exact hi), hgp]
     replace htk := Lib.hid htk
     have hft6 := Lib.hid (show ft ≤ 1000 by rw [hft.out, List.length_take]; omega)
     clear hp hlp hgp hzi hiz
     generalize zs.getD i 0 = z at hcl hp1 hp2 hp3 hp4
     obtain ⟨r, hr⟩ : ∃ r, r = Int.tmod z (n : Int) := ⟨_, rfl⟩
     rw [← hr] at hp1 hp2 hp3 hp4
     have hr2 := hr.symm
     clear hr
     have pb : (p : Int) ≤ 1000 := by omega
     have p0 : (0 : Int) ≤ (p : Int) := Int.natCast_nonneg _
     have hne : ¬ (n : Int) = 0 := by omega
     have hM := (GL.start wr).new rfl [.int .i64 (p : Int)] 3
     generalize hweq : wr.alloc (.cells #[.int .i64 (p : Int)] 3) = yd at hM
     have hcu := (hM.get _ _ mZ).cell 0 (by simp)
     simp only [List.getElem_cons_zero] at hcu
     have hwy := hM.bl
     have hown2 := own_chs (S := fun _ => False) hown (Chs.of_below hwy) (fun _ _ h => h)
     have hb2 := hb.trans (hwy.mono hb.size)
     replace hcu := Lib.hid hcu
     replace hown2 := Lib.hid hown2
     clear hM hwy hown hb
     by_cases hneg : r < 0
     case' pos =>
      have hrp := hp1 hneg
      clear hp1 hp2
      go_wp2_with (at_builtin; refine wp_appendI rfl _ _ rfl w0.heap.size (.slice fp ft fc) ft (pvE ((plsL zs n).take i)) rfl hown2.out ⟨_, 0, none⟩ (p : Int) 1 rfl hcu.out (by have := hft6.out; omega) hb2.size ?_)
     case' neg =>
      obtain rfl : r = (p : Int) := hp2 hneg
      clear hp1 hp2
      go_wp2_with (at_builtin; refine wp_appendI rfl _ _ rfl w0.heap.size (.slice fp ft fc) ft (pvE ((plsL zs n).take i)) rfl hown2.out ⟨_, 0, none⟩ (p : Int) 1 rfl hcu.out (by have := hft6.out; omega) hb2.size ?_)
     all_goals
      intro v' w8 h8 hgr hor
      obtain ⟨va, vc, rfl⟩ := own_form12 h8
      have hlt9 := hown2.out.lt
      have hb8 := hb2.trans ((Chs.of_grown hgr).below hb2.size fun z hz e => by have := (hlt9 z e.symm).1; omega)
      rw [pv_snoc, ← htk.out] at h8
      replace h8 := Lib.hid h8
      clear hgr hor hlt9 hown2 hcu hweq hb2 hcl
      go_wp2_with fail
      go_roundg (l - (i + 1))
      case measure => omega
      case rel => exact ⟨i + 1, _, va, ft + 1, vc, by omega, rfl, by first | rfl | go_num, by omega, by rw [htk.out, List.length_append, ← hft.out]; rfl, h8.out, hb8⟩
    ·subst hzi
     have k1 : ¬ (i : Int) < (l : Int) := by omega
     have hI := Lib.hid (hend (.inr hi))
     clear hend hown
     go_wp2_with fail
     exact bodyPost_ret (v := .slice fp ft fc) (by simp [results, Tryz.results32, go_sem]) rfl ⟨⟨_, rfl, hI.out⟩, hb⟩
  ·have hI : ILs wr (.slice none 0 0) ((plsL zs n).map Int.ofNat) := by
    obtain rfl : n = 0 := by omega
    exact ils_nil wr
   replace hI := Lib.hid hI
   go_wp2_with fail
   go_loopg [7, 9] 0 (fun gk fv iv wr2 => fv = .slice none 0 0 ∧ iv = .int .i64 0 ∧ wr2 = wr)
   case atStart => exact ⟨rfl, by first | rfl | go_num, rfl⟩
   case round =>
    obtain ⟨rfl, rfl, rfl⟩ := hrel
    by_cases hi : (0 : Int) < (l : Int)
    ·go_wp2_with fail
     exact bodyPost_ret (v := .slice none 0 0) (by simp [results, Tryz.results32, go_sem]) rfl ⟨⟨_, rfl, hI.out⟩, hw0⟩
    ·go_wp2_with fail
     exact bodyPost_ret (v := .slice none 0 0) (by simp [results, Tryz.results32, go_sem]) rfl ⟨⟨_, rfl, hI.out⟩, hw0⟩
end Go.Proofs.YthffglapmkkohaaGreatDoor
namespace Go.Proofs.YthffglapmkkohaaGreatDoor
open Go.RowKit
attribute [local irreducible] lo hs sm s64 c64 d64 b64 mh ml pd pc qd qc val hiB str cmpI srD lz nb zl zh zs fe rowV tabV gv bsV tabM
theorem mcatch_idle (p q : Addr) (w : World) :
  CallsD Tryz.prog 87 #[.pointer (some p), .pointer (some q)] .returning w fun e u' w' => e = .returned (.tuple #[]) ∧ u' = .returning ∧ w' = w := by
 refine callsD_of_wpS Tryz.func87 rfl fun c₀ cs hu => ?_
 apply wpS_seq
 apply wpS_region
 simp [wpOpsS, go_sem, recoverD, hu, Tryz.ntmps87, Exit.thenS]
 refine wpS_cond (t := false) (by simp [Act.eval, Array.replicate]) ?_
 simp only [Bool.false_eq_true, if_false]
 refine wpS_of_wp (wp_skip ?_)
 cases c₀
 simp_all [bodyPostS, results, Tryz.results87]
theorem mMakeV (K : FuncId) (caps : Array Value) (r c : Nat) (tl : List Rat) (hr : r ≤ 2048) (hc : c ≤ 2048) (P : World → Prop) (hP : Keeps P)
  (HB : ∀ w, P w → Calls Tryz.prog 88 #[.int .i64 (r : Int), .int .i64 (c : Int), .func (.func K) #[] caps] w fun xe w' => ∃ v, xe = .returned (.agg #[.int .i64 (r : Int), .int .i64 (c : Int), v]) ∧ NV w.heap.size tl v w' ∧ Below w.heap.size w w') (w : World) (kP : P w) :
  Calls Tryz.prog 24 #[.int .i64 (r : Int), .int .i64 (c : Int), .func (.func K) #[] caps] w fun xe w' => ∃ v, xe = .returned (.tuple #[.agg #[.int .i64 (r : Int), .int .i64 (c : Int), v], .int .i64 0]) ∧ NV w.heap.size tl v w' ∧ Below w.heap.size w w' := by
 have HS := Lib.hid (msize_ok r c hr hc)
 replace HB := Lib.hid HB
 replace hP := Lib.hid hP
 have hmf : ∀ (fn : Fn) (first cap : Array Value) (w : World), (Instr.makeFunc fn first cap).run Tryz.prog w = .ok (.func fn first cap) w := fun _ _ _ _ => rfl
 have hnf : ∀ W, (binOp .eql 60 (.func (.func K) #[] caps) Value.nilFunc).run Tryz.prog W = .ok (.bool false) W := fun W => by first | rfl | simp [binOp, go_sem] | (simp [binOp, go_sem, Value.nilFunc]; done)
 clear hr hc
 have hL0 : GL w w [] := GL.start w
 obtain ⟨x1, hweq, hL0⟩ := GL.named ((hL0.new rfl [.int .i64 0, .int .i64 0, .slice none 0 0] 56).new (K := w.heap.size + 1) (szA _ _) [.int .i64 0] 43)
 replace kP := Lib.hid (hP.out.at hL0.bl kP)
 go_enter_defers Tryz.func24, Tryz.ntmps24
 go_wp2_with fail
 with_reducible refine Calls.mono (HS.out _) ?_
 rintro e y1 ⟨rfl, hb⟩
 replace kP := Lib.hid (hP.out.at hb kP.out)
 replace hL0 := hL0.call hb
 clear hb hweq HS
 have hx0 := Lib.hid hL0
 go_wp2_with fail
 with_reducible refine Calls.mono (HB.out _ kP.out) ?_
 rintro e y2 ⟨u, rfl, hnv, hb⟩
 replace hL0 := hL0.call hb
 clear hb kP
 replace hx0 := hx0.out
 obtain ⟨gu, rfl, hge, hHd⟩ := hnv
 replace hL0 := GL.tnew (M := []) hL0 hx0 hHd hge (fun p hp => by cases hp)
 simp only [List.nil_append] at hL0
 have hge2 := Lib.hid (Nat.le_trans hx0.bl.size hge)
 clear hx0 hge hHd
 have hA := cells_of _ 0 [] rfl (hL0.get _ _ (mK (mK mZ)))
 simp only [zF, Nat.reduceAdd] at hA
 have zf := (hL0.get _ _ (mK (mK mZ))).frz
 have hC := cells_of _ 0 [] rfl (hL0.get _ _ (mK mZ))
 simp only [zF, Nat.reduceAdd] at hC
 have zC := (hL0.get _ _ (mK mZ)).frz
 have hPt := hL0.put 2 (w.heap.size) _ rfl [.int .i64 (r : Int), .int .i64 (c : Int), .slice (some ⟨gu, 0, none⟩) tl.length tl.length] rfl
 simp only [setAll, List.set_cons_zero, List.set_cons_succ] at hPt
 generalize hput1 : (((y2.setCell ⟨w.heap.size, 0, none⟩ (.int .i64 (r : Int))).setCell ⟨w.heap.size, 1, none⟩ (.int .i64 (c : Int))).setCell ⟨w.heap.size, 2, none⟩ (.slice (some ⟨gu, 0, none⟩) tl.length tl.length)) = y3 at hPt
 have hB1 := cells_of _ 0 [] rfl (hPt.get _ _ (mK (mK mZ)))
 simp only [zF, Nat.reduceAdd] at hB1
 have zB := (hPt.get _ _ (mK (mK mZ))).frz
 have hD := cells_of _ 0 [] rfl (hPt.get _ _ (mK mZ))
 simp only [zF, Nat.reduceAdd] at hD
 have zD := (hPt.get _ _ (mK mZ)).frz
 have hPu := hPt.put 1 (w.heap.size + 1) _ rfl [.int .i64 0] rfl
 simp only [setAll, List.set_cons_zero, List.set_cons_succ] at hPu
 generalize hput2 : y3.setCell ⟨w.heap.size + 1, 0, none⟩ (.int .i64 0) = y4 at hPu
 have hB2 := cells_of _ 0 [] rfl (hPu.get _ _ (mK (mK mZ)))
 simp only [zF, Nat.reduceAdd] at hB2
 have hB3 := cells_of _ 0 [] rfl (hPu.get _ _ (mK mZ))
 simp only [zF, Nat.reduceAdd] at hB3
 have hNV : NV w.heap.size tl (.slice (some ⟨gu, 0, none⟩) tl.length tl.length) y4 := ⟨gu, rfl, hge2.out, hPu.get _ _ mZ⟩
 replace hNV := Lib.hid hNV
 have hbl := Lib.hid hPu.bl
 clear hL0 hPt hPu hge2
 go_wp2_with fail
 refine leaves_cons (f := 87) (args := #[.pointer (some ⟨w.heap.size, 0, none⟩), .pointer (some ⟨w.heap.size + 1, 0, none⟩)]) (by simp) (by simp [go_sem]) ?_
 refine (mcatch_idle _ _ _).mono ?_
 rintro e u' w'' ⟨rfl, rfl, rfl⟩
 simp [Leaves, settle, results, Tryz.results24, go_sem, hB2, hB3]
 exact ⟨hNV.out, hbl.out⟩
end Go.Proofs.YthffglapmkkohaaGreatDoor
namespace Go.Proofs.YthffglapmkkohaaGreatDoor
open Go.RowKit
attribute [local irreducible] lo hs sm s64 c64 d64 b64 mh ml pd pc qd qc val hiB str cmpI srD lz nb zl zh zs fe rowV tabV gv bsV tabM
theorem mcol1_w (i k j r c n d b1 b2 : Nat) (ao : Option Addr) (q : Rat) (KC : World → Prop) (hKC : Keeps KC) (HA : ∀ w, KC w → Calls Tryz.prog 92 #[.agg #[.int .i64 (r : Int), .int .i64 (c : Int), .slice ao n d], .int .i64 (i : Int), .int .i64 (j : Int)] w fun xe w' => xe = .returned (fracV q) ∧ Below w.heap.size w w') (w : World) (kC : KC w) (c0 : w.cell? ⟨b1, 0, none⟩ = some (.int .i64 (r : Int))) (c1 : w.cell? ⟨b1, 1, none⟩ = some (.int .i64 (c : Int))) (c2 : w.cell? ⟨b1, 2, none⟩ = some (.slice ao n d)) (c3 : w.cell? ⟨b2, 0, none⟩ = some (.int .i64 (j : Int))) :
  Calls Tryz.prog 91 #[.int .i64 (i : Int), .int .i64 (k : Int), .pointer (some ⟨b1, 0, none⟩), .pointer (some ⟨b2, 0, none⟩)] w fun xe w' => xe = .returned (fracV q) ∧ Below w.heap.size w w' := by
 replace HA := Lib.hid HA
 replace hKC := Lib.hid hKC
 have hL0 : GL w w [] := GL.start w
 have hb0 : Below w.heap.size w (w.alloc (.cells #[.int .u64 0, .string ⟨#[]⟩, .bool false, .int .u64 0, .string ⟨#[]⟩] 36)) := (Below.refl _ _).alloc (Nat.le_refl _) _
 replace c0 := keepsC hb0 c0
 replace c1 := keepsC hb0 c1
 replace c2 := keepsC hb0 c2
 replace c3 := keepsC hb0 c3
 replace kC := hKC.out _ _ hb0 kC
 replace hL0 := hL0.new rfl [.int .u64 0, .string ⟨#[]⟩, .bool false, .int .u64 0, .string ⟨#[]⟩] 36
 generalize hweq : w.alloc (.cells #[.int .u64 0, .string ⟨#[]⟩, .bool false, .int .u64 0, .string ⟨#[]⟩] 36) = x1 at hL0 c0 c1 c2 c3 kC
 clear hb0
 go_enter Tryz.func91, Tryz.ntmps91
 go_wp2_with fail
 with_reducible refine Calls.mono (HA.out _ kC) ?_
 rintro e x2 ⟨rfl, hb⟩
 replace hL0 := hL0.call hb
 clear hb hweq c0 c1 c2 c3
 have hA := hL0.fc
 simp only [zF, Nat.reduceAdd] at hA
 have hPt := hL0.put 0 (w.heap.size) _ rfl [.int .u64 ((zl q.num : Nat) : Int), .string (zh q.num), .bool (zs q.num), .int .u64 ((lo (fe q) : Nat) : Int), .string (hs (fe q))] rfl
 simp only [setAll, List.set_cons_zero, List.set_cons_succ] at hPt
 generalize hput1 : (((((x2.setCell ⟨w.heap.size, 0, none⟩ (.int .u64 ((zl q.num : Nat) : Int))).setCell ⟨w.heap.size, 1, none⟩ (.string (zh q.num))).setCell ⟨w.heap.size, 2, none⟩ (.bool (zs q.num))).setCell ⟨w.heap.size, 3, none⟩ (.int .u64 ((lo (fe q) : Nat) : Int))).setCell ⟨w.heap.size, 4, none⟩ (.string (hs (fe q)))) = x9 at hPt
 have hB1 := hPt.fc
 simp only [zF, Nat.reduceAdd] at hB1
 go_wp2_with fail
 exact bodyPost_ret (v := fracV q) (by simp [results, Tryz.results91, go_sem, hB1]) rfl ⟨rfl, hPt.bl⟩
theorem enmcol : ∀ (args : Array Value) (w : World), (callFunc 91 args).run Tryz.prog w = .ok (.enter 91 args) w := enters_of Tryz.func91 (by kernel_rfl) rfl
theorem mcol_at (x : Mx) (hx : OKM x) (j : Nat) (hj : j < x.c) (b1 b2 : Nat) (u : Value) (i k : Nat) (hi : i < x.r) (w : World) (hw : (BM w b1 u x ∧ w.cell? ⟨b2, 0, none⟩ = some (.int .i64 (j : Int)))) :
  Calls Tryz.prog 91 (#[.int .i64 (i : Int), .int .i64 (k : Int)] ++ #[.pointer (some ⟨b1, 0, none⟩), .pointer (some ⟨b2, 0, none⟩)]) w fun xe w' => xe = .returned (fracV (ent x i j)) ∧ Below w.heap.size w w' := by
 obtain ⟨ao, d, rfl, -⟩ := hw.1.2.2.2.form
 exact mcol1_w i k j x.r x.c x.l.length d b1 b2 ao (ent x i j) (fun w => CQ w _ x.l) (CQ.keeps _ _) (fun w h => matV x hx i j hi hj _ w h) w hw.1.2.2.2 hw.1.1 hw.1.2.1 hw.1.2.2.1 hw.2
theorem mColV (x : Mx) (hx : OKM x) (j : Nat) (hj : j < x.c) (u : Value) (w : World) (hu : CQ w u x.l) :
  Calls Tryz.prog 26 #[.agg #[.int .i64 (x.r : Int), .int .i64 (x.c : Int), u], .int .i64 (j : Int)] w fun xe w' => ∃ t, xe = .returned (.tuple #[t, .int .i64 0]) ∧ NV w.heap.size (tabV x.r fun i => ent x i j) t w' ∧ Below w.heap.size w w' := by
 rw [← tab_col]
 have HB : ∀ b1 b2 u (w : World), (BM w b1 u x ∧ w.cell? ⟨b2, 0, none⟩ = some (.int .i64 (j : Int))) → Calls Tryz.prog 88 #[.int .i64 (x.r : Int), .int .i64 (1 : Int), .func (.func 91) #[] #[.pointer (some ⟨b1, 0, none⟩), .pointer (some ⟨b2, 0, none⟩)]] w fun xe w' => ∃ v, xe = .returned (.agg #[.int .i64 (x.r : Int), .int .i64 (1 : Int), v]) ∧ NV w.heap.size (tabM x.r 1 (fun i _ => ent x i j)).l v w' ∧ Below w.heap.size w w' := fun b1 b2 u w h =>
  mbuild_w 91 #[.pointer (some ⟨b1, 0, none⟩), .pointer (some ⟨b2, 0, none⟩)] enmcol x.r 1 (fun i _ => ent x i j) (fun w => (BM w b1 u x ∧ w.cell? ⟨b2, 0, none⟩ = some (.int .i64 (j : Int)))) (Keeps.and (BM.keeps _ _ _) (keepsB _ _)) (fun i k hi hk w h => mcol_at x hx j hj b1 b2 u i k hi w h) hx.r (by omega) (by have := hx.r; omega) w h
 have HI := Lib.hid (mindex_in (j : Int) (x.c : Int) (Int.natCast_nonneg _) (by omega))
 have HK := fun (n d : Nat) (ao : Option Addr) (hn : n = x.r * x.c) => mcheck_ok x.r x.c n d ao hx.r hx.c hn
 have hlen := hx.len
 clear hx hj
 generalize (tabM x.r 1 (fun i _ => ent x i j)).l = tl at HB ⊢
 obtain ⟨ao, d, rfl, -⟩ := id hu.form
 replace HK := Lib.hid (HK x.l.length d ao hlen)
 clear hlen
 replace HB := Lib.hid HB
 have hL0 : GL w w [] := GL.start w
 obtain ⟨x1, hweq, hL0⟩ := GL.named ((hL0.new rfl [.int .i64 (x.r : Int), .int .i64 (x.c : Int), (.slice ao x.l.length d)] 56).new (K := w.heap.size + 1) (szA _ _) [.int .i64 (j : Int)] 3)
 have hu1 := Lib.hid (hu.below hL0.bl)
 clear hu
 have hA := hL0.fc
 simp only [zF, Nat.reduceAdd] at hA
 go_enter Tryz.func26, Tryz.ntmps26
 go_wp2_with fail
 with_reducible refine Calls.mono (HK.out _) ?_
 rintro e y1 ⟨rfl, hb⟩
 replace hu1 := Lib.hid (hu1.out.below hb)
 replace hL0 := hL0.call hb
 clear hb hA hweq HK
 have hA := hL0.fc
 simp only [zF, Nat.reduceAdd] at hA
 go_wp2_with fail
 with_reducible refine Calls.mono (HI.out _) ?_
 rintro e y2 ⟨rfl, hb⟩
 replace hu1 := Lib.hid (hu1.out.below hb)
 replace hL0 := hL0.call hb
 clear hb hA HI
 have hB1 := BM.of (hL0.get _ _ (mK mZ)) hu1.out
 have hc1 := (hL0.get _ _ mZ).cell 0 (by simp)
 simp only [List.getElem_cons_zero, List.getElem_cons_succ] at hc1
 replace HB := Lib.hid (HB.out _ _ _ _ ⟨hB1, hc1⟩)
 clear hc1 hB1 hu1
 have hx0 := Lib.hid hL0
 have hA := hL0.fc
 simp only [zF, Nat.reduceAdd] at hA
 go_wp2_with fail
 with_reducible refine Calls.mono (HB.out) ?_
 rintro e y4 ⟨u, rfl, hnv, hb⟩
 replace hL0 := hL0.call hb
 clear hb hA HB
 have hNV := Lib.hid (hnv.mono hx0.out.bl.size)
 obtain ⟨gu, rfl, -, -⟩ := hnv
 clear hx0
 replace hL0 := Lib.hid hL0
 have hfd := fun W => m_field2 (x.r : Int) (1 : Int) (some ⟨gu, 0, none⟩) tl.length tl.length W
 go_wp2_with fail
 exact bodyPost_ret (v := .tuple #[.slice (some ⟨gu, 0, none⟩) tl.length tl.length, .int .i64 0]) (by simp [results, Tryz.results26, go_sem]) rfl ⟨_, rfl, hNV.out, hL0.out.bl⟩
end Go.Proofs.YthffglapmkkohaaGreatDoor
namespace Go.Proofs.YthffglapmkkohaaGreatDoor
open Go.RowKit
attribute [local irreducible] lo hs sm s64 c64 d64 b64 mh ml pd pc qd qc val hiB str cmpI srD lz nb zl zh zs fe rowV tabV gv bsV tabM
theorem mouter1_w (i k na nb ca cb ga gb b1 b2 : Nat) (x y r : Rat) (HC : ∀ w, Calls Tryz.prog 15 #[fracV x, fracV y] w fun xe w' => xe = .returned (fracV r) ∧ Below w.heap.size w w') (hi : i < na) (hj : k < nb) (w : World) (c0 : w.cell? ⟨b1, 0, none⟩ = some (.slice (some ⟨ga, 0, none⟩) na ca)) (c1 : w.cell? ⟨b2, 0, none⟩ = some (.slice (some ⟨gb, 0, none⟩) nb cb)) (c2 : w.cell? ⟨ga, i * 5, none⟩ = some (.int .u64 ((zl x.num : Nat) : Int))) (c3 : w.cell? ⟨ga, i * 5 + 1, none⟩ = some (.string (zh x.num))) (c4 : w.cell? ⟨ga, i * 5 + 2, none⟩ = some (.bool (zs x.num))) (c5 : w.cell? ⟨ga, i * 5 + 3, none⟩ = some (.int .u64 ((lo (fe x) : Nat) : Int))) (c6 : w.cell? ⟨ga, i * 5 + 4, none⟩ = some (.string (hs (fe x)))) (c7 : w.cell? ⟨gb, k * 5, none⟩ = some (.int .u64 ((zl y.num : Nat) : Int))) (c8 : w.cell? ⟨gb, k * 5 + 1, none⟩ = some (.string (zh y.num))) (c9 : w.cell? ⟨gb, k * 5 + 2, none⟩ = some (.bool (zs y.num))) (c10 : w.cell? ⟨gb, k * 5 + 3, none⟩ = some (.int .u64 ((lo (fe y) : Nat) : Int))) (c11 : w.cell? ⟨gb, k * 5 + 4, none⟩ = some (.string (hs (fe y)))) :
  Calls Tryz.prog 93 #[.int .i64 (i : Int), .int .i64 (k : Int), .pointer (some ⟨b1, 0, none⟩), .pointer (some ⟨b2, 0, none⟩)] w fun xe w' => xe = .returned (fracV r) ∧ Below w.heap.size w w' := by
 replace HC := Lib.hid HC
 have k0 : (0 : Int) ≤ (i : Int) := Int.natCast_nonneg _
 have k9 : (0 : Int) ≤ (k : Int) := Int.natCast_nonneg _
 have k1 : (i : Int) < (na : Int) := by omega
 have k2 : (k : Int) < (nb : Int) := by omega
 clear hi hj
 have hL0 : GL w w [] := GL.start w
 have hb0 : Below w.heap.size w (w.alloc (.cells #[.int .u64 0, .string ⟨#[]⟩, .bool false, .int .u64 0, .string ⟨#[]⟩] 36)) := (Below.refl _ _).alloc (Nat.le_refl _) _
 replace c0 := keepsC hb0 c0
 replace c1 := keepsC hb0 c1
 replace c2 := keepsC hb0 c2
 replace c3 := keepsC hb0 c3
 replace c4 := keepsC hb0 c4
 replace c5 := keepsC hb0 c5
 replace c6 := keepsC hb0 c6
 replace c7 := keepsC hb0 c7
 replace c8 := keepsC hb0 c8
 replace c9 := keepsC hb0 c9
 replace c10 := keepsC hb0 c10
 replace c11 := keepsC hb0 c11
 replace hL0 := hL0.new rfl [.int .u64 0, .string ⟨#[]⟩, .bool false, .int .u64 0, .string ⟨#[]⟩] 36
 generalize hweq : w.alloc (.cells #[.int .u64 0, .string ⟨#[]⟩, .bool false, .int .u64 0, .string ⟨#[]⟩] 36) = x1 at hL0 c0 c1 c2 c3 c4 c5 c6 c7 c8 c9 c10 c11
 clear hb0
 replace c0 := Lib.hid c0
 replace c1 := Lib.hid c1
 replace c2 := Lib.hid c2
 replace c3 := Lib.hid c3
 replace c4 := Lib.hid c4
 replace c5 := Lib.hid c5
 replace c6 := Lib.hid c6
 replace c7 := Lib.hid c7
 replace c8 := Lib.hid c8
 replace c9 := Lib.hid c9
 replace c10 := Lib.hid c10
 replace c11 := Lib.hid c11
 go_enter Tryz.func93, Tryz.ntmps93
 go_upto_region 1 with fail
 clear hweq
 obtain ⟨α, iα, F, hF1, hF2⟩ := cls x1
 have hq0 : ∀ yz, (F yz).cell? ⟨b1, 0, none⟩ = some (.slice (some ⟨ga, 0, none⟩) na ca) := fun yz => keepsC (hF1 yz) c0.out
 have hq1 : ∀ yz, (F yz).cell? ⟨b2, 0, none⟩ = some (.slice (some ⟨gb, 0, none⟩) nb cb) := fun yz => keepsC (hF1 yz) c1.out
 have hq2 : ∀ yz, (F yz).cell? ⟨ga, i * 5, none⟩ = some (.int .u64 ((zl x.num : Nat) : Int)) := fun yz => keepsC (hF1 yz) c2.out
 have hq3 : ∀ yz, (F yz).cell? ⟨ga, i * 5 + 1, none⟩ = some (.string (zh x.num)) := fun yz => keepsC (hF1 yz) c3.out
 have hq4 : ∀ yz, (F yz).cell? ⟨ga, i * 5 + 2, none⟩ = some (.bool (zs x.num)) := fun yz => keepsC (hF1 yz) c4.out
 have hq5 : ∀ yz, (F yz).cell? ⟨ga, i * 5 + 3, none⟩ = some (.int .u64 ((lo (fe x) : Nat) : Int)) := fun yz => keepsC (hF1 yz) c5.out
 have hq6 : ∀ yz, (F yz).cell? ⟨ga, i * 5 + 4, none⟩ = some (.string (hs (fe x))) := fun yz => keepsC (hF1 yz) c6.out
 have hq7 : ∀ yz, (F yz).cell? ⟨gb, k * 5, none⟩ = some (.int .u64 ((zl y.num : Nat) : Int)) := fun yz => keepsC (hF1 yz) c7.out
 have hq8 : ∀ yz, (F yz).cell? ⟨gb, k * 5 + 1, none⟩ = some (.string (zh y.num)) := fun yz => keepsC (hF1 yz) c8.out
 have hq9 : ∀ yz, (F yz).cell? ⟨gb, k * 5 + 2, none⟩ = some (.bool (zs y.num)) := fun yz => keepsC (hF1 yz) c9.out
 have hq10 : ∀ yz, (F yz).cell? ⟨gb, k * 5 + 3, none⟩ = some (.int .u64 ((lo (fe y) : Nat) : Int)) := fun yz => keepsC (hF1 yz) c10.out
 have hq11 : ∀ yz, (F yz).cell? ⟨gb, k * 5 + 4, none⟩ = some (.string (hs (fe y))) := fun yz => keepsC (hF1 yz) c11.out
 refine region_qs 9 (C := fun w' => ∃ x, w' = F x) (by kernel_rfl) (by kernel_rfl) (cls_drew hF2) ?_
 simp only [zT]
 repeat (go_big_quiet_step (first | fail | (go_at_call 15; with_reducible exact cls_call hF1 hF2 HC.out _)))
 refine wpQuiet_nil ?_
 rintro wq ⟨xq, rfl⟩
 replace hL0 := hL0.call (hF1 xq)
 clear hq0 hq1 hq2 hq3 hq4 hq5 hq6 hq7 hq8 hq9 hq10 hq11 hF2
 generalize F xq = x2 at hL0 ⊢
 clear hF1 xq iα F α
 have hA := hL0.fc
 simp only [zF, Nat.reduceAdd] at hA
 have hPt := hL0.put 0 (w.heap.size) _ rfl [.int .u64 ((zl r.num : Nat) : Int), .string (zh r.num), .bool (zs r.num), .int .u64 ((lo (fe r) : Nat) : Int), .string (hs (fe r))] rfl
 simp only [setAll, List.set_cons_zero, List.set_cons_succ] at hPt
 generalize hput1 : (((((x2.setCell ⟨w.heap.size, 0, none⟩ (.int .u64 ((zl r.num : Nat) : Int))).setCell ⟨w.heap.size, 1, none⟩ (.string (zh r.num))).setCell ⟨w.heap.size, 2, none⟩ (.bool (zs r.num))).setCell ⟨w.heap.size, 3, none⟩ (.int .u64 ((lo (fe r) : Nat) : Int))).setCell ⟨w.heap.size, 4, none⟩ (.string (hs (fe r)))) = x9 at hPt
 have hB1 := hPt.fc
 simp only [zF, Nat.reduceAdd] at hB1
 go_wp2_with fail
 exact bodyPost_ret (v := fracV r) (by simp [results, Tryz.results93, go_sem, hB1]) rfl ⟨rfl, hPt.bl⟩
theorem enmouter : ∀ (args : Array Value) (w : World), (callFunc 93 args).run Tryz.prog w = .ok (.enter 93 args) w := enters_of Tryz.func93 (by kernel_rfl) rfl
theorem mouter_at (x y : List Rat) (K b1 b2 : Nat) (va vb : Value) (hK : K ≤ 1000000) (sx : ∀ q ∈ x, Sz q K) (sy : ∀ q ∈ y, Sz q K) (i k : Nat) (hi : i < x.length) (hk : k < y.length) (w : World) (hw : (SlQ w va x ∧ SlQ w vb y ∧ w.cell? ⟨b1, 0, none⟩ = some va ∧ w.cell? ⟨b2, 0, none⟩ = some vb)) :
  Calls Tryz.prog 93 (#[.int .i64 (i : Int), .int .i64 (k : Int)] ++ #[.pointer (some ⟨b1, 0, none⟩), .pointer (some ⟨b2, 0, none⟩)]) w fun xe w' => xe = .returned (fracV (gv x i * gv y k)) ∧ Below w.heap.size w w' := by
 obtain ⟨h1, h2, h3, h4⟩ := hw
 obtain ⟨aa, ca, rfl⟩ := slq_form' h1
 obtain ⟨ab, cb, rfl⟩ := slq_form' h2
 obtain ⟨ga, rfl, -, f1⟩ := slq_at h1 i (by omega)
 obtain ⟨gb, rfl, -, f2⟩ := slq_at h2 k (by omega)
 obtain ⟨p0, p1, p2, p3, p4⟩ := fsc f1 i (by omega)
 obtain ⟨q0, q1, q2, q3, q4⟩ := fsc f2 k (by omega)
 exact mouter1_w i k x.length y.length ca cb ga gb b1 b2 (gv x i) (gv y k) (gv x i * gv y k) (fun w => mulF _ _ K (qsk x sx i (by omega)) (qsk y sy k (by omega)) (by omega) w) (by omega) (by omega) w h3 h4 p0 p1 p2 p3 p4 q0 q1 q2 q3 q4
theorem mOuterV (x y : List Rat) (K : Nat) (hK : K ≤ 1000000) (sx : ∀ q ∈ x, Sz q K) (sy : ∀ q ∈ y, Sz q K) (hn : x.length ≤ 100) (hm : y.length ≤ 100) (va vb : Value) (w : World) (hv : SlQ w va x) (hu : SlQ w vb y) :
  Calls Tryz.prog 28 #[va, vb] w fun xe w' => ∃ v, xe = .returned (.tuple #[.agg #[.int .i64 (x.length : Int), .int .i64 (y.length : Int), v], .int .i64 0]) ∧ NV w.heap.size (tabM x.length y.length fun i k => gv x i * gv y k).l v w' ∧ Below w.heap.size w w' := by
 have HB : ∀ b1 b2 (w : World), (SlQ w va x ∧ SlQ w vb y ∧ w.cell? ⟨b1, 0, none⟩ = some va ∧ w.cell? ⟨b2, 0, none⟩ = some vb) → Calls Tryz.prog 88 #[.int .i64 (x.length : Int), .int .i64 (y.length : Int), .func (.func 93) #[] #[.pointer (some ⟨b1, 0, none⟩), .pointer (some ⟨b2, 0, none⟩)]] w fun xe w' => ∃ v, xe = .returned (.agg #[.int .i64 (x.length : Int), .int .i64 (y.length : Int), v]) ∧ NV w.heap.size (tabM x.length y.length fun i k => gv x i * gv y k).l v w' ∧ Below w.heap.size w w' := fun b1 b2 w h =>
  mbuild_w 93 #[.pointer (some ⟨b1, 0, none⟩), .pointer (some ⟨b2, 0, none⟩)] enmouter x.length y.length (fun i k => gv x i * gv y k) (fun w => (SlQ w va x ∧ SlQ w vb y ∧ w.cell? ⟨b1, 0, none⟩ = some va ∧ w.cell? ⟨b2, 0, none⟩ = some vb)) (Keeps.and (SlQ.keeps _ _) (Keeps.and (SlQ.keeps _ _) (Keeps.and (keepsB _ _) (keepsB _ _)))) (fun i k hi hk w h => mouter_at x y K b1 b2 va vb hK sx sy i k hi hk w h) (by omega) (by omega) (by have := Nat.mul_le_mul hn hm; omega) w h
 generalize (tabM x.length y.length fun i k => gv x i * gv y k).l = tl at HB ⊢
 obtain ⟨aa, ca, rfl⟩ := slq_form' hv
 obtain ⟨ab, cb, rfl⟩ := slq_form' hu
 obtain ⟨n, hne⟩ : ∃ n, n = x.length := ⟨_, rfl⟩
 obtain ⟨m, hme⟩ : ∃ m, m = y.length := ⟨_, rfl⟩
 rw [← hne, ← hme] at HB ⊢
 rw [← hne] at hv hn
 rw [← hme] at hu hm
 have hL0 : GL w w [] := GL.start w
 obtain ⟨x1, hweq, hL0⟩ := GL.named (((hL0.new rfl [.slice aa n ca] 28).new (K := w.heap.size + 1) (szA _ _) [.slice ab m cb] 28).new (K := w.heap.size + 1 + 1) (by simp only [World.size_alloc]) [.int .i64 0, .int .i64 0, .slice none 0 0] 56)
 have hv1 := hv.below hL0.bl
 have hu1 := hu.below hL0.bl
 have hc1 := (hL0.get _ _ (mK (mK mZ))).cell 0 (by simp)
 simp only [List.getElem_cons_zero, List.getElem_cons_succ] at hc1
 have hc2 := (hL0.get _ _ (mK mZ)).cell 0 (by simp)
 simp only [List.getElem_cons_zero, List.getElem_cons_succ] at hc2
 have HC := Lib.hid (mMakeV 93 #[.pointer (some ⟨w.heap.size, 0, none⟩), .pointer (some ⟨w.heap.size + 1, 0, none⟩)] n m tl (by omega) (by omega) (fun w => SlQ w (.slice aa n ca) x ∧ SlQ w (.slice ab m cb) y ∧ w.cell? ⟨_, 0, none⟩ = some (.slice aa n ca) ∧ w.cell? ⟨_, 0, none⟩ = some (.slice ab m cb)) (Keeps.and (SlQ.keeps _ _) (Keeps.and (SlQ.keeps _ _) (Keeps.and (keepsB _ _) (keepsB _ _)))) (HB _ _) x1 ⟨hv1, hu1, hc1, hc2⟩)
 clear HB hc1 hc2 hv1 hu1 hv hu sx sy hne hme hn hm
 have hA := hL0.fc
 simp only [zF, Nat.reduceAdd] at hA
 go_enter Tryz.func28, Tryz.ntmps28
 have hx0 := Lib.hid hL0
 go_wp2_with fail
 with_reducible refine Calls.mono (HC.out) ?_
 rintro e y4 ⟨u, rfl, hnv, hb⟩
 replace hL0 := hL0.call hb
 clear hb hA hweq HC
 replace hx0 := hx0.out
 obtain ⟨gu, rfl, hge, hHd⟩ := hnv
 replace hL0 := GL.tnew (M := []) hL0 hx0 hHd hge (fun p hp => by cases hp)
 simp only [List.nil_append] at hL0
 have hge2 := Lib.hid (Nat.le_trans hx0.bl.size hge)
 clear hx0 hge hHd
 have hA := cells_of _ 0 [] rfl (hL0.get _ _ (mK mZ))
 simp only [zF, Nat.reduceAdd] at hA
 have zf := (hL0.get _ _ (mK mZ)).frz
 have hPt := hL0.put 1 (w.heap.size + 1 + 1) _ rfl [.int .i64 (n : Int), .int .i64 (m : Int), .slice (some ⟨gu, 0, none⟩) tl.length tl.length] rfl
 simp only [setAll, List.set_cons_zero, List.set_cons_succ] at hPt
 generalize hput1 : (((y4.setCell ⟨w.heap.size + 1 + 1, 0, none⟩ (.int .i64 (n : Int))).setCell ⟨w.heap.size + 1 + 1, 1, none⟩ (.int .i64 (m : Int))).setCell ⟨w.heap.size + 1 + 1, 2, none⟩ (.slice (some ⟨gu, 0, none⟩) tl.length tl.length)) = y5 at hPt
 have hB1 := cells_of _ 0 [] rfl (hPt.get _ _ (mK mZ))
 simp only [zF, Nat.reduceAdd] at hB1
 have hNV : NV w.heap.size tl (.slice (some ⟨gu, 0, none⟩) tl.length tl.length) y5 := ⟨gu, rfl, hge2.out, hPt.get _ _ mZ⟩
 replace hNV := Lib.hid hNV
 clear hL0 hge2
 go_wp2_with fail
 exact bodyPost_ret (v := .tuple #[.agg #[.int .i64 (n : Int), .int .i64 (m : Int), .slice (some ⟨gu, 0, none⟩) tl.length tl.length], .int .i64 0]) (by simp [results, Tryz.results28, go_sem, hB1]) rfl ⟨_, rfl, hNV.out, hPt.bl⟩
end Go.Proofs.YthffglapmkkohaaGreatDoor
namespace Go.Proofs.YthffglapmkkohaaGreatDoor
open Go.RowKit
attribute [local irreducible] lo hs sm s64 c64 d64 b64 mh ml pd pc qd qc val hiB str cmpI srD lz nb zl zh zs fe rowV tabV gv bsV turM mulM sumM oneM appV formM tabM dotL sumL mulL
theorem lmadd_w (s1 s2 s3 s4 s5 s6 : Nat) (x y r : Mx) (HC : ∀ (p0 p1 : Value) (w : World), MT w p0 x → MT w p1 y → Calls Tryz.prog 94 #[p0, p1] w fun e w' => ∃ pv, e = .returned (.tuple #[pv, .int .i64 0]) ∧ MT w' pv r ∧ Below w.heap.size w w') (hx1 : (x.r : Int) = (s1 : Int)) (hx2 : (x.c : Int) = (s2 : Int)) (hy1 : (y.r : Int) = (s3 : Int)) (hy2 : (y.c : Int) = (s4 : Int)) (hr1 : (r.r : Int) = (s5 : Int)) (hr2 : (r.c : Int) = (s6 : Int)) (p0 : Value) (p1 : Value) (w : World) (r0 : MT w p0 x) (r1 : MT w p1 y) :
  Calls Tryz.prog 29 #[p0, p1] w fun e w' => ∃ pv, e = .returned pv ∧ MT w' pv r ∧ Below w.heap.size w w' := by
 obtain ⟨a0, n0, c0, rfl, f0, cpf0⟩ := mt_form r0 hx1 hx2
 replace f0 := Lib.hid f0
 replace cpf0 := Lib.hid cpf0
 clear r0
 obtain ⟨a1, n1, c1, rfl, f1, cpf1⟩ := mt_form r1 hy1 hy2
 replace f1 := Lib.hid f1
 replace cpf1 := Lib.hid cpf1
 clear r1
 replace HC := Lib.hid HC
 have hL0 : GL w w [] := GL.start w
 have hT : PTs w [] := PTs.nil w
 replace hx1 := Lib.hid hx1
 replace hx2 := Lib.hid hx2
 replace hy1 := Lib.hid hy1
 replace hy2 := Lib.hid hy2
 replace hr1 := Lib.hid hr1
 replace hr2 := Lib.hid hr2
 replace hT := (((hT.new (.cells #[.int .i64 (s1 : Int), .int .i64 (s2 : Int), .slice a0 n0 c0] 56)).new (.cells #[.int .i64 (s3 : Int), .int .i64 (s4 : Int), .slice a1 n1 c1] 56)).new (.cells #[.int .i64 0, .int .i64 0, .slice none 0 0] 56))
 replace hL0 := (((hL0.new rfl [.int .i64 (s1 : Int), .int .i64 (s2 : Int), .slice a0 n0 c0] 56).new (K := w.heap.size + 1) (szA _ _) [.int .i64 (s3 : Int), .int .i64 (s4 : Int), .slice a1 n1 c1] 56).new (K := w.heap.size + 1 + 1) (by simp only [World.size_alloc]) [.int .i64 0, .int .i64 0, .slice none 0 0] 56)
 generalize hweq : (((w.alloc (.cells #[.int .i64 (s1 : Int), .int .i64 (s2 : Int), .slice a0 n0 c0] 56)).alloc (.cells #[.int .i64 (s3 : Int), .int .i64 (s4 : Int), .slice a1 n1 c1] 56)).alloc (.cells #[.int .i64 0, .int .i64 0, .slice none 0 0] 56)) = x1 at hL0 hT
 go_enter Tryz.func29, Tryz.ntmps29
 go_upto_region 1 with fail
 have hN0 := cells_of _ 0 [] rfl (hL0.get _ _ (mK mZ))
 simp only [zF, Nat.reduceAdd] at hN0
 have hN1 := cells_of _ 0 [] rfl (hL0.get _ _ (mK (mK mZ)))
 simp only [zF, Nat.reduceAdd] at hN1
 go_wp2_with fail
 clear hN0 hN1
 with_reducible refine Calls.mono (HC.out (.agg #[.int .i64 (s1 : Int), .int .i64 (s2 : Int), .slice a0 n0 c0]) (.agg #[.int .i64 (s3 : Int), .int .i64 (s4 : Int), .slice a1 n1 c1]) _ (mt_of (PT.below f0.out hL0.bl) cpf0.out hx1.out hx2.out) (mt_of (PT.below f1.out hL0.bl) cpf1.out hy1.out hy2.out)) ?_
 rintro e x2 ⟨v0, rfl, q0, hb⟩
 replace hL0 := hL0.call hb
 replace hT := hT.call hb
 clear hb hweq
 obtain ⟨g1, d1, g1c, rfl, hm1, hcp1⟩ := mt_form q0 hr1.out hr2.out
 replace hcp1 := Lib.hid hcp1
 replace hT := hT.cons hm1
 clear hm1
 clear q0
 replace hT := (hT.new (.cells #[.int .i64 (s5 : Int), .int .i64 (s6 : Int), .slice g1 d1 g1c] 56))
 replace hL0 := (hL0.new rfl [.int .i64 (s5 : Int), .int .i64 (s6 : Int), .slice g1 d1 g1c] 56)
 generalize hweq : (x2.alloc (.cells #[.int .i64 (s5 : Int), .int .i64 (s6 : Int), .slice g1 d1 g1c] 56)) = x3 at hL0 hT
 have hT1 := hT.putM ((((Upd.refl (w.heap.size + 1 + 1) x3).setCell 0 (.int .i64 (s5 : Int))).setCell 1 (.int .i64 (s6 : Int))).setCell 2 (.slice g1 d1 g1c)) (hL0.get _ _ (mK mZ)) (by intro n; simp)
 have hA := hL0.fc
 simp only [zF, Nat.reduceAdd] at hA
 have hP := hL0.put 1 (w.heap.size + 1 + 1) _ rfl [.int .i64 (s5 : Int), .int .i64 (s6 : Int), .slice g1 d1 g1c] rfl
 simp only [setAll, List.set_cons_zero, List.set_cons_succ] at hP
 generalize hput1 : (((x3.setCell ⟨w.heap.size + 1 + 1, 0, none⟩ (.int .i64 (s5 : Int))).setCell ⟨w.heap.size + 1 + 1, 1, none⟩ (.int .i64 (s6 : Int))).setCell ⟨w.heap.size + 1 + 1, 2, none⟩ (.slice g1 d1 g1c)) = x4 at hP hT1
 have hB1 := hP.fc
 simp only [zF, Nat.reduceAdd] at hB1
 replace hL0 := hP
 replace hT := hT1
 clear hT1
 go_wp2_with fail
 exact bodyPost_ret (v := .agg #[.int .i64 (s5 : Int), .int .i64 (s6 : Int), .slice g1 d1 g1c]) (by simp [results, Tryz.results29, go_sem, hB1]) rfl ⟨_, rfl, (mt_of (hT.get mZ) hcp1.out hr1.out hr2.out), hL0.bl⟩
theorem lturn_w (s1 s2 s5 s6 : Nat) (x r : Mx) (HC : ∀ (p0 : Value) (w : World), MT w p0 x → Calls Tryz.prog 41 #[p0] w fun e w' => ∃ pv, e = .returned (.tuple #[pv, .int .i64 0]) ∧ MT w' pv r ∧ Below w.heap.size w w') (hx1 : (x.r : Int) = (s1 : Int)) (hx2 : (x.c : Int) = (s2 : Int)) (hr1 : (r.r : Int) = (s5 : Int)) (hr2 : (r.c : Int) = (s6 : Int)) (p0 : Value) (w : World) (r0 : MT w p0 x) :
  Calls Tryz.prog 33 #[p0] w fun e w' => ∃ pv, e = .returned pv ∧ MT w' pv r ∧ Below w.heap.size w w' := by
 obtain ⟨a0, n0, c0, rfl, f0, cpf0⟩ := mt_form r0 hx1 hx2
 replace f0 := Lib.hid f0
 replace cpf0 := Lib.hid cpf0
 clear r0
 replace HC := Lib.hid HC
 have hL0 : GL w w [] := GL.start w
 have hT : PTs w [] := PTs.nil w
 replace hx1 := Lib.hid hx1
 replace hx2 := Lib.hid hx2
 replace hr1 := Lib.hid hr1
 replace hr2 := Lib.hid hr2
 replace hT := ((hT.new (.cells #[.int .i64 (s1 : Int), .int .i64 (s2 : Int), .slice a0 n0 c0] 56)).new (.cells #[.int .i64 0, .int .i64 0, .slice none 0 0] 56))
 replace hL0 := ((hL0.new rfl [.int .i64 (s1 : Int), .int .i64 (s2 : Int), .slice a0 n0 c0] 56).new (K := w.heap.size + 1) (szA _ _) [.int .i64 0, .int .i64 0, .slice none 0 0] 56)
 generalize hweq : ((w.alloc (.cells #[.int .i64 (s1 : Int), .int .i64 (s2 : Int), .slice a0 n0 c0] 56)).alloc (.cells #[.int .i64 0, .int .i64 0, .slice none 0 0] 56)) = x1 at hL0 hT
 go_enter Tryz.func33, Tryz.ntmps33
 go_upto_region 1 with fail
 have hN0 := cells_of _ 0 [] rfl (hL0.get _ _ (mK mZ))
 simp only [zF, Nat.reduceAdd] at hN0
 go_wp2_with fail
 clear hN0
 with_reducible refine Calls.mono (HC.out (.agg #[.int .i64 (s1 : Int), .int .i64 (s2 : Int), .slice a0 n0 c0]) _ (mt_of (PT.below f0.out hL0.bl) cpf0.out hx1.out hx2.out)) ?_
 rintro e x2 ⟨v0, rfl, q0, hb⟩
 replace hL0 := hL0.call hb
 replace hT := hT.call hb
 clear hb hweq
 obtain ⟨g1, d1, g1c, rfl, hm1, hcp1⟩ := mt_form q0 hr1.out hr2.out
 replace hcp1 := Lib.hid hcp1
 replace hT := hT.cons hm1
 clear hm1
 clear q0
 replace hT := (hT.new (.cells #[.int .i64 (s5 : Int), .int .i64 (s6 : Int), .slice g1 d1 g1c] 56))
 replace hL0 := (hL0.new rfl [.int .i64 (s5 : Int), .int .i64 (s6 : Int), .slice g1 d1 g1c] 56)
 generalize hweq : (x2.alloc (.cells #[.int .i64 (s5 : Int), .int .i64 (s6 : Int), .slice g1 d1 g1c] 56)) = x3 at hL0 hT
 have hT1 := hT.putM ((((Upd.refl (w.heap.size + 1) x3).setCell 0 (.int .i64 (s5 : Int))).setCell 1 (.int .i64 (s6 : Int))).setCell 2 (.slice g1 d1 g1c)) (hL0.get _ _ (mK mZ)) (by intro n; simp)
 have hA := hL0.fc
 simp only [zF, Nat.reduceAdd] at hA
 have hP := hL0.put 1 (w.heap.size + 1) _ rfl [.int .i64 (s5 : Int), .int .i64 (s6 : Int), .slice g1 d1 g1c] rfl
 simp only [setAll, List.set_cons_zero, List.set_cons_succ] at hP
 generalize hput1 : (((x3.setCell ⟨w.heap.size + 1, 0, none⟩ (.int .i64 (s5 : Int))).setCell ⟨w.heap.size + 1, 1, none⟩ (.int .i64 (s6 : Int))).setCell ⟨w.heap.size + 1, 2, none⟩ (.slice g1 d1 g1c)) = x4 at hP hT1
 have hB1 := hP.fc
 simp only [zF, Nat.reduceAdd] at hB1
 replace hL0 := hP
 replace hT := hT1
 clear hT1
 go_wp2_with fail
 exact bodyPost_ret (v := .agg #[.int .i64 (s5 : Int), .int .i64 (s6 : Int), .slice g1 d1 g1c]) (by simp [results, Tryz.results33, go_sem, hB1]) rfl ⟨_, rfl, (mt_of (hT.get mZ) hcp1.out hr1.out hr2.out), hL0.bl⟩
end Go.Proofs.YthffglapmkkohaaGreatDoor
namespace Go.Proofs.YthffglapmkkohaaGreatDoor
open Go.RowKit
attribute [local irreducible] lo hs sm s64 c64 d64 b64 mh ml pd pc qd qc val hiB str cmpI srD lz nb zl zh zs fe rowV tabV gv bsV tabM
theorem mfew_w (m c g : Nat) (ao : Option Addr) (ln : Nat → Nat) (hm : m ≤ 100000) (w : World) (hx : 0 < m → ao = some ⟨g, 0, none⟩)
  (hc : ∀ i, i < m → ∃ a d, w.cell? ⟨g, i * 3 + 2, none⟩ = some (.slice a (ln i) d)) (b : Bool) (hb : b = true ↔ ∀ i, i < m → ln i ≤ 40) :
  Calls Tryz.prog 20 #[.slice ao m c] w fun xe w' => xe = .returned (.bool b) ∧ Below w.heap.size w w' := by
 replace hm := Lib.hid hm
 replace hx := Lib.hid hx
 replace hc := Lib.hid hc
 replace hb := Lib.hid hb
 go_enter Tryz.func20, Tryz.ntmps20
 go_wp2_with fail
 go_loopg [3] m (fun gk iv wr => ∃ (k : Nat) (zi : Int), k + gk = m ∧ iv = .int .i64 zi ∧ zi = (k : Int) ∧ (∀ i, i < k → ln i ≤ 40) ∧ wr = w)
 case atStart => exact ⟨0, 0, Nat.zero_add m, by first | rfl | go_num, rfl, fun i h => by omega, rfl⟩
 case round =>
  obtain ⟨k, zi, hik, rfl, hzi, hall, hwr⟩ := hrel
  subst hwr
  have hmm := hm.out
  replace hall := Lib.hid hall
  rcases Nat.lt_or_ge k m with hin | hin
  ·subst hzi
   have k1 : (k : Int) < (m : Int) := by omega
   have k0 : (0 : Int) ≤ (k : Int) := Int.natCast_nonneg _
   have kb : (k : Int) ≤ 100000 := by omega
   obtain ⟨a, d, hcell⟩ := hc.out k hin
   have e0 := hx.out (by omega)
   subst e0
   rcases Nat.lt_or_ge 40 (ln k) with hl | hl
   ·have l1 : (40 : Int) < (ln k : Int) := by omega
    obtain rfl : b = false := by
     cases b with
     | false => rfl
     | true => exact absurd (hb.out.1 rfl k hin) (by omega)
    generalize ln k = lk at *
    go_wp2_with fail
    exact bodyPost_ret (v := .bool false) (by simp [results, Tryz.results20, go_sem]) rfl ⟨rfl, Below.refl _ _⟩
   ·have l1 : ¬ (40 : Int) < (ln k : Int) := by omega
    have l2 : ¬ 40 < ln k := by omega
    have hl9 := Lib.hid hl
    clear hl
    obtain ⟨lk, hlk⟩ : ∃ lk, lk = ln k := ⟨_, rfl⟩
    rw [← hlk] at hcell l1 l2
    clear hlk
    go_wp2_with fail
    go_roundg (m - (k + 1))
    case measure => omega
    case rel => exact ⟨k + 1, _, by omega, by first | rfl | go_num, by omega, fun i h => by
     rcases Nat.lt_or_ge i k with g | g
     ·exact hall.out i g
     ·rw [show i = k by omega]; exact hl9.out, rfl⟩
  ·obtain rfl : k = m := by omega
   subst hzi
   have k1 : ¬ (k : Int) < (k : Int) := by omega
   obtain rfl : b = true := hb.out.2 hall.out
   go_wp2_with fail
   exact bodyPost_ret (v := .bool true) (by simp [results, Tryz.results20, go_sem]) rfl ⟨rfl, Below.refl _ _⟩
/-- The element of a slice of plain fractions, or 0. -/
def qE (ql : List (Int × Int)) (i : Nat) : Rat := if i < ql.length then qm (ql.getD i (0, 0)) else 0
theorem qE_sz {ql : List (Int × Int)} (h : ∀ p ∈ ql, QR p) (i : Nat) : Sz (qE ql i) 1 := by
 unfold qE
 split
 ·rename_i hi
  rw [List.getD_eq_getElem?_getD, List.getElem?_eq_getElem hi]
  exact qm_sz (h _ (List.getElem_mem hi))
 ·exact szc 0 (by decide) (by decide)
theorem qE_in {ql : List (Int × Int)} {i : Nat} (h : i < ql.length) : qE ql i = qm ql[i] := by
 unfold qE
 rw [if_pos h, List.getD_eq_getElem?_getD, List.getElem?_eq_getElem h]
 rfl
theorem qE_out {ql : List (Int × Int)} {i : Nat} (h : ql.length ≤ i) : qE ql i = 0 := by
 unfold qE
 rw [if_neg (by omega)]
end Go.Proofs.YthffglapmkkohaaGreatDoor
namespace Go.Proofs.YthffglapmkkohaaGreatDoor
open Go.RowKit
attribute [local irreducible] lo hs sm s64 c64 d64 b64 mh ml pd pc qd qc val hiB str cmpI srD lz nb zl zh zs fe rowV tabV gv bsV tabM
theorem wp_appendM {w : World} {ops : Array Oper} {rest : List Oper} {o : Oper} {a : Act} {Q : Exit → Act → World → Prop} (hgd : o.guard = none) (s x : Operand)
  (ho : o.op = .call { callee := .builtin .append, args := #[s, x], argTypes := #[27, 27] }) (B : Nat) (v : Value) (n : Nat) (L : List Rat) (hs : a.eval s = v) (hown : OwnF w B v n L) (g : Nat) (t : Rat) (hx : a.eval x = .slice (some ⟨g, 0, none⟩) 1 1) (hH : Hd w g (frC t))
  (hn : n ≤ 100000) (hbase : B ≤ w.heap.size)
  (h : ∀ v' w', OwnF w' B v' (n + 1) (L ++ [t]) → w.grownBy w' v.ownBlock → (v'.ownBlock = v.ownBlock ∨ v'.ownBlock = some w.heap.size) → wpList Tryz.prog ops Q rest (a.put o.dst v') w') : wpList Tryz.prog ops Q (o :: rest) a w := by
 obtain ⟨i0, hi, hz1, hz2, hz3⟩ := info_parts infoFr
 refine wpList_append_own_at w hgd s x 27 ho B 36 i0 _ 5 56 Tryz.underlying27 hi hz1 hz2 hz3 rfl (by decide) v n (frCs L) hs hown ⟨g, 0, none⟩ 1 1 (frC t) hx rfl (hd_newsH hH) (frC_one t) (by unfold maxLen; omega) (by omega) hbase ?_
 intro v' w' h1 h2 _ h4
 refine h v' w' ?_ h2 h4
 unfold OwnF
 rw [frCs_snoc]; exact h1
theorem own_updM {W W' : World} {B n k : Nat} {v : Value} {l : List Rat} (h : OwnF W B v n l) (hu : Upd k W W') (hk : k < B) : OwnF W' B v n l := by
 refine ⟨h.1, ?_⟩
 rcases h.2 with h1 | ⟨g, cap, cur, h1, h2, h3, h4⟩
 ·exact .inl h1
 ·refine .inr ⟨g, cap, cur, h1, h2, ?_, h4⟩
  have hg := (World.ownsRow.lt h g (by rw [h1]; rfl)).1
  rw [hu.block g (by omega)]; exact h3
theorem own_updN {W W' : World} {B n k : Nat} {v : Value} {l : List Rat} (h : OwnF W B v n l) (hu : Upd k W W') (hk : ∀ z, v.ownBlock = some z → z ≠ k) : OwnF W' B v n l := by
 refine ⟨h.1, ?_⟩
 rcases h.2 with h1 | ⟨g, cap, cur, h1, h2, h3, h4⟩
 ·exact .inl h1
 ·refine .inr ⟨g, cap, cur, h1, h2, ?_, h4⟩
  rw [hu.block g (hk g (by rw [h1]; rfl))]; exact h3
theorem own_cq {w : World} {B n : Nat} {v : Value} {l : List Rat} (h : OwnF w B v n l) (hn : n = l.length) : CQ w v l := by
 refine ⟨own_slq h hn, ?_⟩
 rcases h.2 with ⟨h1, h2⟩ | ⟨g, cap, cur, h1, h2, h3, h4, h5, h6, h7⟩
 ·exact ⟨none, 0, 0, h1, Nat.le_refl _⟩
 ·exact ⟨_, _, _, h1, by omega⟩
theorem own_formM {w : World} {B n : Nat} {v : Value} {l : List Rat} (h : OwnF w B v n l) : ∃ a c, v = .slice a n c := by
 rcases h.2 with ⟨h1, h2⟩ | ⟨g, cap, cur, h1, _⟩
 ·exact ⟨_, _, by rw [h1, h2]⟩
 ·exact ⟨_, _, h1⟩
/-- A slice that an operation has made. -/
def NSl (B : Nat) (c : List Value) (v : Value) (w : World) : Prop := ∃ g, v = .slice (some ⟨g, 0, none⟩) 1 1 ∧ B ≤ g ∧ Hd w g c
theorem stays_nsl (B : Nat) (c : List Value) : Stays (NSl B c) := fun _ _ _ hb ⟨g, h1, h2, h3⟩ => ⟨g, h1, h2, h3.below hb⟩
theorem nsl_mk {B : Nat} {c : List Value} {t : TypeId} {w : World} (h : B ≤ w.heap.size) : NSl B c (.slice (some ⟨w.heap.size, 0, none⟩) 1 1) (w.alloc (.cells c.toArray t)) := ⟨_, rfl, h, hd_new w c t⟩
/-- The matrix whose elements are given, with zeros for missing ones. -/
def someM (ql : List (Int × Int)) (r c : Nat) : Mx := ⟨r, c, tabV (r * c) (qE ql)⟩
theorem someM_gm {ql : List (Int × Int)} (h : ∀ p ∈ ql, QR p) (r c : Nat) : GM (someM ql r c) r c 1 := ⟨rfl, rfl, by unfold someM; exact tabV_len _ _, by unfold someM; exact tab_all fun i _ => qE_sz h i⟩
theorem msome_w (ql : List (Int × Int)) (r c nl : Nat) (zr zc : Int) (al : Option Addr) (cl : Nat) (hr : r ≤ 20) (hc : c ≤ 20) (hnl : nl ≤ 1000) (w : World) (hv : QV w (.slice al nl cl) ql) :
  Calls Tryz.prog 40 #[.agg #[.int .u8 zr, .int .u8 zc, .slice al nl cl], .int .i64 (r : Int), .int .i64 (c : Int)] w fun xe w' => ∃ u, xe = .returned u ∧ MT w' u (someM ql r c) ∧ Below w.heap.size w w' := by
 obtain ⟨m, hm⟩ : ∃ m, m = r * c := ⟨_, rfl⟩
 have hm4 : m ≤ 400 := by rw [hm]; exact Nat.mul_le_mul hr hc
 have hmul : (r : Int) * (c : Int) = (m : Int) := by rw [hm, Int.natCast_mul]
 have hm1 : (m : Int) ≤ 400 := by omega
 have hm0 : (0 : Int) ≤ (m : Int) := Int.natCast_nonneg _
 obtain ⟨qs, hqs⟩ : ∃ qs, qs = tabV m (qE ql) := ⟨_, rfl⟩
 have hlq : qs.length = m := by rw [hqs, tabV_len]
 have hti : ∀ i, i < m → qs.take (i + 1) = qs.take i ++ [qE ql i] := fun i hi => by
  have h9 : i < qs.length := by rw [hlq]; exact hi
  rw [List.take_succ_eq_append_getElem h9]
  congr 2
  simp only [hqs]
  exact tabV_get _
 have hsm : someM ql r c = ⟨r, c, qs⟩ := by unfold someM; rw [hqs, hm]
 rw [hsm]
 have hnb : (nl : Int) ≤ 1000 := by omega
 clear hsm hqs
 replace hm := Lib.hid hm
 replace hti := Lib.hid hti
 replace hlq := Lib.hid hlq
 replace hm4 := Lib.hid hm4
 have hL0 : GL w w [] := GL.start w
 obtain ⟨x0, hweq, hL0⟩ := GL.named (((hL0.new rfl [.int .u8 zr, .int .u8 zc, .slice al nl cl] 51).new (K := w.heap.size + 1) (szA _ _) [.int .i64 0, .int .i64 0, .slice none 0 0] 56).new (K := w.heap.size + 1 + 1) (by simp only [World.size_alloc]) [.int .i64 0, .int .i64 0, .slice none 0 0] 56)
 have hA := cells_of _ 0 [] rfl (hL0.get _ _ mZ)
 simp only [zF, Nat.reduceAdd] at hA
 have zf := (hL0.get _ _ mZ).frz
 have hPt := hL0.put 0 (w.heap.size + 1 + 1) _ rfl [.int .i64 (r : Int), .int .i64 (c : Int), .slice none 0 0] rfl
 simp only [setAll, List.set_cons_zero, List.set_cons_succ] at hPt
 generalize hput0 : (((x0.setCell ⟨w.heap.size + 1 + 1, 0, none⟩ (.int .i64 (r : Int))).setCell ⟨w.heap.size + 1 + 1, 1, none⟩ (.int .i64 (c : Int))).setCell ⟨w.heap.size + 1 + 1, 2, none⟩ (.slice none 0 0)) = x1 at hPt
 clear hL0
 have hL0 := hPt
 clear hPt
 have hkB := Lib.hid (show w.heap.size + 1 + 1 < x1.heap.size from (hL0.get _ _ mZ).lt)
 go_enter Tryz.func40, Tryz.ntmps40
 go_wp2_with fail
 clear hweq hA zf hput0
 obtain ⟨B, hB⟩ : ∃ B, B = x1.heap.size := ⟨_, rfl⟩
 rw [← hB] at hkB
 have hown0 : OwnF x1 B (.slice none 0 0) 0 (qs.take 0) := World.ownsRow_nil _ _ _ _
 have hBx := Lib.hid (Nat.le_of_eq hB)
 clear hB
 go_loopg [8] m (fun gk iv wr => ∃ (k : Nat) (zi : Int) (v : Value), k + gk = m ∧ iv = .int .i64 zi ∧ zi = (k : Int) ∧ OwnF wr B v k (qs.take k) ∧ B ≤ wr.heap.size ∧ GL w wr [(w.heap.size + 1 + 1, [.int .i64 (r : Int), .int .i64 (c : Int), v]), (w.heap.size + 1, [.int .i64 0, .int .i64 0, .slice none 0 0]), (w.heap.size, [.int .u8 zr, .int .u8 zc, .slice al nl cl])])
 case atStart => exact ⟨0, 0, _, Nat.zero_add m, by first | rfl | go_num, rfl, hown0, hBx.out, hL0⟩
 case round =>
  clear hL0 hown0 hBx
  obtain ⟨k, zi, v, hik, rfl, hzi, hown, hBz, hL0⟩ := hrel
  have hmm := hm4.out
  replace hown := Lib.hid hown
  rcases Nat.lt_or_ge k m with hin | hin
  ·subst hzi
   have k1 : (k : Int) < (m : Int) := by omega
   have k0 : (0 : Int) ≤ (k : Int) := Int.natCast_nonneg _
   have kb : (k : Int) ≤ 1000 := by omega
   have hkx0 : ∀ z, v.ownBlock = some z → z < wr.heap.size := fun z hz => (World.ownsRow.lt hown.out z hz).2
   have hb9 : Below wr.heap.size wr (wr.alloc (.cells #[.int .i64 0, .int .u32 0] 40)) := (Below.refl _ _).alloc (Nat.le_refl _) _
   replace hL0 := hL0.new rfl [.int .i64 0, .int .u32 0] 40
   replace hown := Lib.hid (own_below hown.out hb9)
   replace hBz := Lib.hid (Nat.le_trans hBz hb9.size)
   clear hb9
   generalize hweq : wr.alloc (.cells #[.int .i64 0, .int .u32 0] 40) = x2a at hL0 hown hBz
   replace hkx0 := Lib.hid hkx0
   have hA := cells_of _ 0 [] rfl (hL0.get _ _ mZ)
   simp only [zF, Nat.reduceAdd] at hA
   have zA := (hL0.get _ _ mZ).frz
   have hPt := hL0.put 0 (wr.heap.size) _ rfl [.int .i64 0, .int .u32 0] rfl
   simp only [setAll, List.set_cons_zero, List.set_cons_succ] at hPt
   have hup : Upd (wr.heap.size) x2a ((x2a.setCell ⟨wr.heap.size, 0, none⟩ (.int .i64 0)).setCell ⟨wr.heap.size, 1, none⟩ (.int .u32 0)) := ((Upd.refl (wr.heap.size) x2a).setCell 0 (.int .i64 0)).setCell 1 (.int .u32 0)
   generalize hput1 : (x2a.setCell ⟨wr.heap.size, 0, none⟩ (.int .i64 0)).setCell ⟨wr.heap.size, 1, none⟩ (.int .u32 0) = x2 at hPt hup
   replace hown := Lib.hid (own_updN hown.out hup fun z hz => Nat.ne_of_lt (hkx0.out z hz))
   replace hBz := Lib.hid (Nat.le_trans hBz.out (Nat.le_of_eq hup.size.symm))
   clear hL0 hup
   have hL0 := hPt
   clear hPt
   rcases Nat.lt_or_ge k nl with him | him
   ·have k2 : (k : Int) < (nl : Int) := by omega
    obtain ⟨ao, cc, e0, h1, h2, h3⟩ := id hv
    obtain ⟨rfl, hlen, rfl⟩ : al = ao ∧ nl = ql.length ∧ cl = cc := by simpa using e0
    obtain ⟨a, rfl, hsl⟩ := h3 (by omega)
    have hki : k < ql.length := by omega
    have e1 := (hsl.below hL0.bl).c0 k hki
    have e2 := (hsl.below hL0.bl).c1 k hki
    obtain ⟨⟨b1, b2⟩, b3, b4⟩ := hsl.rg ql[k] (List.getElem_mem hki)
    have HQ := qof_any ql[k].1 ql[k].2 b1 b2 b3 b4
    obtain ⟨q, hqq⟩ : ∃ q, q = qm ql[k] := ⟨_, rfl⟩
    rw [show qmade ql[k].1 ql[k].2.toNat = qm ql[k] from rfl, ← hqq] at HQ
    rw [← qE_in hki] at hqq
    generalize ql[k].1 = zn at *
    generalize ql[k].2 = zd at *
    replace HQ := Lib.hid HQ
    replace hqq := Lib.hid hqq
    rw [add_one] at e2
    clear hsl b1 b2 b3 b4 e0 h1 h2 h3 hlen hv
    have hA2 := cells_of _ 0 [] rfl (hL0.get _ _ mZ)
    simp only [zF, Nat.reduceAdd] at hA2
    have zA2 := (hL0.get _ _ mZ).frz
    have hC := cells_of _ 0 [] rfl (hL0.get _ _ (mK (mK (mK mZ))))
    simp only [zF, Nat.reduceAdd] at hC
    have hPt := hL0.put 0 (wr.heap.size) _ rfl [.int .i64 zn, .int .u32 zd] rfl
    simp only [setAll, List.set_cons_zero, List.set_cons_succ] at hPt
    have hup : Upd (wr.heap.size) x2 ((x2.setCell ⟨wr.heap.size, 0, none⟩ (.int .i64 zn)).setCell ⟨wr.heap.size, 1, none⟩ (.int .u32 zd)) := ((Upd.refl (wr.heap.size) x2).setCell 0 (.int .i64 zn)).setCell 1 (.int .u32 zd)
    generalize hput2 : (x2.setCell ⟨wr.heap.size, 0, none⟩ (.int .i64 zn)).setCell ⟨wr.heap.size, 1, none⟩ (.int .u32 zd) = x3 at hPt hup
    replace hown := Lib.hid (own_updN hown.out hup fun z hz => Nat.ne_of_lt (hkx0.out z hz))
    replace hBz := Lib.hid (Nat.le_trans hBz.out (Nat.le_of_eq hup.size.symm))
    clear hL0 hup
    have hL0 := hPt
    clear hPt
    go_upto_region 8 with fail
    clear hweq hput1 hput2 hA zA hA2 zA2 hC e1 e2
    refine region_tl 5 [EV (.pointer (some ⟨w.heap.size + 1 + 1, 2, none⟩)), EV v, EV (.agg #[.int .i64 zn, .int .u32 zd]), EV (.agg #[.int .u64 ((zl q.num : Nat) : Int), .string (zh q.num), .bool (zs q.num), .int .u64 ((lo (fe q) : Nat) : Int), .string (hs (fe q))]), NSl x3.heap.size [.int .u64 ((zl q.num : Nat) : Int), .string (zh q.num), .bool (zs q.num), .int .u64 ((lo (fe q) : Nat) : Int), .string (hs (fe q))]] (by kernel_rfl) (by kernel_rfl) ?_ ?_ ?_
    ·repeat' first | exact stays_nil | apply stays_cons | exact stays_eq _ | exact stays_nsl _ _
    ·simp only [List.take_succ_cons, List.take_zero, hopsR, and_true]
     refine ⟨?_, ?_, ?_, ?_, ?_⟩ <;> intro fv w1 hb1 hp
     all_goals (simp only [putsV, Act.put, zP, Nat.zero_add, Nat.reduceAdd])
     ·refine tyAt_none rfl ?_
      simp [tyUpon, execOp, go_sem, Act.eval, Below.refl]
     ·have h0 : EV _ (fv 0) w1 := hp 0 (LC (by kernel_rfl))
      refine tyAt_none rfl ?_
      have hc := cells_of _ 0 [] rfl ((hL0.call (below_drew hb1)).get _ _ (mK mZ))
      simp only [zF, Nat.reduceAdd] at hc
      simp [tyUpon, execOp, go_sem, Act.eval, h0, hc, Below.refl]
     ·refine tyAt_none rfl ?_
      have hc := cells_of _ 0 [] rfl ((hL0.call (below_drew hb1)).get _ _ mZ)
      simp only [zF, Nat.reduceAdd] at hc
      simp [tyUpon, execOp, go_sem, Act.eval, hc, Below.refl]
     ·have h2 : EV _ (fv 2) w1 := hp 2 (LC (by kernel_rfl))
      refine tyAt_none rfl ?_
      refine ty_call (f := 13) (args := #[(.agg #[.int .i64 zn, .int .u32 zd])]) (by simp [execOp, go_sem, Act.eval, h2]) ?_
      exact (HQ.out w1).mono fun e w2 ⟨h1, h2⟩ => ⟨_, h1, rfl, h2⟩
     ·have h3 : EV _ (fv 3) w1 := hp 3 (LC (by kernel_rfl))
      refine tyAt_none rfl ?_
      refine ty_val8 (u := .slice (some ⟨w1.heap.size, 0, none⟩) 1 1) (w' := w1.alloc (.cells #[.int .u64 ((zl q.num : Nat) : Int), .string (zh q.num), .bool (zs q.num), .int .u64 ((lo (fe q) : Nat) : Int), .string (hs (fe q))] 36)) (by simp [execOp, go_sem, Act.eval, h3]) ((Below.refl _ _).alloc (Nat.le_refl _) _) (nsl_mk (below_drew hb1).size)
    ·intro fv u1 hb1 hv
     have e0 : fv 0 = _ := hv 0 (by omega)
     have e1 : fv 1 = _ := hv 1 (by omega)
     have e2 : fv 2 = _ := hv 2 (by omega)
     have e3 : fv 3 = _ := hv 3 (by omega)
     obtain ⟨gn, e4, n4, m4⟩ := hv 4 (by omega)
     simp only [List.take_succ_cons, List.take_zero, putsV, Act.put, zP, List.drop_succ_cons, List.drop_zero, Nat.zero_add, Nat.reduceAdd, e0, e1, e2, e3, e4]
     have hbd := below_drew hb1
     replace hown := Lib.hid (own_below hown.out hbd)
     replace hL0 := (hL0.call hbd).weak (List.Sublist.cons _ (List.Sublist.refl _))
     have hBs := Lib.hid (Nat.le_trans hBz.out hbd.size)
     replace m4 := Lib.hid m4
     clear hb1 hv hbd e0 e1 e2 e3 e4 n4 HQ hBz
     go_wp2_with (at_builtin; refine wp_appendM rfl _ _ rfl B v k (qs.take k) rfl hown.out gn q rfl m4.out (by omega) hBs.out ?_)
     intro v' w5 hown5 hgrow hor
     have hL8 := gl_grown hL0 hgrow (fun z hz => ⟨Nat.le_trans (by have := hkB.out; omega) (World.ownsRow.lt hown.out z hz).1, fun p hp => by
      have h9 := (World.ownsRow.lt hown.out z hz).1
      have h7 := hkB.out
      simp only [List.mem_cons, List.not_mem_nil, or_false] at hp
      rcases hp with rfl | rfl | rfl <;> (show _ ≠ z; omega)⟩)
     have hB5 := Lib.hid (Nat.le_trans hBs.out hgrow.size)
     rw [hqq.out, ← hti.out k hin] at hown5
     clear hL0 hown hgrow hor m4 hBs
     obtain ⟨av5, cv5, rfl⟩ := own_formM hown5
     replace hown5 := Lib.hid hown5
     have hL0 := hL8
     clear hL8
     have hA := cells_of _ 0 [] rfl (hL0.get _ _ mZ)
     simp only [zF, Nat.reduceAdd] at hA
     have zf := (hL0.get _ _ mZ).frz
     have hPt := hL0.putn 0 (w.heap.size + 1 + 1) _ rfl 2 [.slice av5 (k + 1) cv5] (by simp)
     simp only [setAll, setCells, List.set_cons_zero, List.set_cons_succ] at hPt
     have hup : Upd (w.heap.size + 1 + 1) w5 (w5.setCell ⟨w.heap.size + 1 + 1, 2, none⟩ (.slice av5 (k + 1) cv5)) := (Upd.refl (w.heap.size + 1 + 1) w5).setCell 2 (.slice av5 (k + 1) cv5)
     generalize hput1 : w5.setCell ⟨w.heap.size + 1 + 1, 2, none⟩ (.slice av5 (k + 1) cv5) = w6 at hPt hup
     have hown6 := Lib.hid (own_updM hown5.out hup (by have := hkB.out; omega))
     have hB6 := Lib.hid (Nat.le_trans hB5.out (Nat.le_of_eq hup.size.symm))
     clear hL0 hown5 hup
     have hL0 := hPt
     clear hPt
     go_wp2_with fail
     go_roundg (m - (k + 1))
     case measure => omega
     case rel => exact ⟨k + 1, _, _, by omega, by first | rfl | go_num, by omega, hown6.out, hB6.out, hL0⟩
   ·have k2 : ¬ (k : Int) < (nl : Int) := by omega
    have HQ := qof_any 0 0 (by decide) (by decide) (by decide) (by decide)
    obtain ⟨q, hqq⟩ : ∃ q, q = qmade 0 (0 : Int).toNat := ⟨_, rfl⟩
    rw [← hqq] at HQ
    have hz0 : qE ql k = 0 := qE_out (by have := qv_len hv; omega)
    rw [show qmade 0 (0 : Int).toNat = 0 by decide +kernel, ← hz0] at hqq
    replace HQ := Lib.hid HQ
    replace hqq := Lib.hid hqq
    clear hz0 hv
    have hC := cells_of _ 0 [] rfl (hL0.get _ _ (mK (mK (mK mZ))))
    simp only [zF, Nat.reduceAdd] at hC
    go_upto_region 8 with fail
    clear hweq hput1 hC hA zA
    refine region_tl 5 [EV (.pointer (some ⟨w.heap.size + 1 + 1, 2, none⟩)), EV v, EV (.agg #[.int .i64 0, .int .u32 0]), EV (.agg #[.int .u64 ((zl q.num : Nat) : Int), .string (zh q.num), .bool (zs q.num), .int .u64 ((lo (fe q) : Nat) : Int), .string (hs (fe q))]), NSl x2.heap.size [.int .u64 ((zl q.num : Nat) : Int), .string (zh q.num), .bool (zs q.num), .int .u64 ((lo (fe q) : Nat) : Int), .string (hs (fe q))]] (by kernel_rfl) (by kernel_rfl) ?_ ?_ ?_
    ·repeat' first | exact stays_nil | apply stays_cons | exact stays_eq _ | exact stays_nsl _ _
    ·simp only [List.take_succ_cons, List.take_zero, hopsR, and_true]
     refine ⟨?_, ?_, ?_, ?_, ?_⟩ <;> intro fv w1 hb1 hp
     all_goals (simp only [putsV, Act.put, zP, Nat.zero_add, Nat.reduceAdd])
     ·refine tyAt_none rfl ?_
      simp [tyUpon, execOp, go_sem, Act.eval, Below.refl]
     ·have h0 : EV _ (fv 0) w1 := hp 0 (LC (by kernel_rfl))
      refine tyAt_none rfl ?_
      have hc := cells_of _ 0 [] rfl ((hL0.call (below_drew hb1)).get _ _ (mK mZ))
      simp only [zF, Nat.reduceAdd] at hc
      simp [tyUpon, execOp, go_sem, Act.eval, h0, hc, Below.refl]
     ·refine tyAt_none rfl ?_
      have hc := cells_of _ 0 [] rfl ((hL0.call (below_drew hb1)).get _ _ mZ)
      simp only [zF, Nat.reduceAdd] at hc
      simp [tyUpon, execOp, go_sem, Act.eval, hc, Below.refl]
     ·have h2 : EV _ (fv 2) w1 := hp 2 (LC (by kernel_rfl))
      refine tyAt_none rfl ?_
      refine ty_call (f := 13) (args := #[(.agg #[.int .i64 0, .int .u32 0])]) (by simp [execOp, go_sem, Act.eval, h2]) ?_
      exact (HQ.out w1).mono fun e w2 ⟨h1, h2⟩ => ⟨_, h1, rfl, h2⟩
     ·have h3 : EV _ (fv 3) w1 := hp 3 (LC (by kernel_rfl))
      refine tyAt_none rfl ?_
      refine ty_val8 (u := .slice (some ⟨w1.heap.size, 0, none⟩) 1 1) (w' := w1.alloc (.cells #[.int .u64 ((zl q.num : Nat) : Int), .string (zh q.num), .bool (zs q.num), .int .u64 ((lo (fe q) : Nat) : Int), .string (hs (fe q))] 36)) (by simp [execOp, go_sem, Act.eval, h3]) ((Below.refl _ _).alloc (Nat.le_refl _) _) (nsl_mk (below_drew hb1).size)
    ·intro fv u1 hb1 hv
     have e0 : fv 0 = _ := hv 0 (by omega)
     have e1 : fv 1 = _ := hv 1 (by omega)
     have e2 : fv 2 = _ := hv 2 (by omega)
     have e3 : fv 3 = _ := hv 3 (by omega)
     obtain ⟨gn, e4, n4, m4⟩ := hv 4 (by omega)
     simp only [List.take_succ_cons, List.take_zero, putsV, Act.put, zP, List.drop_succ_cons, List.drop_zero, Nat.zero_add, Nat.reduceAdd, e0, e1, e2, e3, e4]
     have hbd := below_drew hb1
     replace hown := Lib.hid (own_below hown.out hbd)
     replace hL0 := (hL0.call hbd).weak (List.Sublist.cons _ (List.Sublist.refl _))
     have hBs := Lib.hid (Nat.le_trans hBz.out hbd.size)
     replace m4 := Lib.hid m4
     clear hb1 hv hbd e0 e1 e2 e3 e4 n4 HQ hBz
     go_wp2_with (at_builtin; refine wp_appendM rfl _ _ rfl B v k (qs.take k) rfl hown.out gn q rfl m4.out (by omega) hBs.out ?_)
     intro v' w5 hown5 hgrow hor
     have hL8 := gl_grown hL0 hgrow (fun z hz => ⟨Nat.le_trans (by have := hkB.out; omega) (World.ownsRow.lt hown.out z hz).1, fun p hp => by
      have h9 := (World.ownsRow.lt hown.out z hz).1
      have h7 := hkB.out
      simp only [List.mem_cons, List.not_mem_nil, or_false] at hp
      rcases hp with rfl | rfl | rfl <;> (show _ ≠ z; omega)⟩)
     have hB5 := Lib.hid (Nat.le_trans hBs.out hgrow.size)
     rw [hqq.out, ← hti.out k hin] at hown5
     clear hL0 hown hgrow hor m4 hBs
     obtain ⟨av5, cv5, rfl⟩ := own_formM hown5
     replace hown5 := Lib.hid hown5
     have hL0 := hL8
     clear hL8
     have hA := cells_of _ 0 [] rfl (hL0.get _ _ mZ)
     simp only [zF, Nat.reduceAdd] at hA
     have zf := (hL0.get _ _ mZ).frz
     have hPt := hL0.putn 0 (w.heap.size + 1 + 1) _ rfl 2 [.slice av5 (k + 1) cv5] (by simp)
     simp only [setAll, setCells, List.set_cons_zero, List.set_cons_succ] at hPt
     have hup : Upd (w.heap.size + 1 + 1) w5 (w5.setCell ⟨w.heap.size + 1 + 1, 2, none⟩ (.slice av5 (k + 1) cv5)) := (Upd.refl (w.heap.size + 1 + 1) w5).setCell 2 (.slice av5 (k + 1) cv5)
     generalize hput1 : w5.setCell ⟨w.heap.size + 1 + 1, 2, none⟩ (.slice av5 (k + 1) cv5) = w6 at hPt hup
     have hown6 := Lib.hid (own_updM hown5.out hup (by have := hkB.out; omega))
     have hB6 := Lib.hid (Nat.le_trans hB5.out (Nat.le_of_eq hup.size.symm))
     clear hL0 hown5 hup
     have hL0 := hPt
     clear hPt
     go_wp2_with fail
     go_roundg (m - (k + 1))
     case measure => omega
     case rel => exact ⟨k + 1, _, _, by omega, by first | rfl | go_num, by omega, hown6.out, hB6.out, hL0⟩
  ·obtain rfl : k = m := by omega
   subst hzi
   have k1 : ¬ (k : Int) < (k : Int) := by omega
   rw [List.take_of_length_le (Nat.le_of_eq hlq.out)] at hown
   obtain ⟨av, cv, rfl⟩ := own_formM hown.out
   have hA := cells_of _ 0 [] rfl (hL0.get _ _ mZ)
   simp only [zF, Nat.reduceAdd] at hA
   have hC := cells_of _ 0 [] rfl (hL0.get _ _ (mK mZ))
   simp only [zF, Nat.reduceAdd] at hC
   have zC := (hL0.get _ _ (mK mZ)).frz
   have hPt := hL0.put 1 (w.heap.size + 1) _ rfl [.int .i64 (r : Int), .int .i64 (c : Int), .slice av k cv] rfl
   simp only [setAll, List.set_cons_zero, List.set_cons_succ] at hPt
   have hup : Upd (w.heap.size + 1) wr ((((wr.setCell ⟨w.heap.size + 1, 0, none⟩ (.int .i64 (r : Int))).setCell ⟨w.heap.size + 1, 1, none⟩ (.int .i64 (c : Int))).setCell ⟨w.heap.size + 1, 2, none⟩ (.slice av k cv))) := (((Upd.refl (w.heap.size + 1) wr).setCell 0 (.int .i64 (r : Int))).setCell 1 (.int .i64 (c : Int))).setCell 2 (.slice av k cv)
   generalize hput1 : (((wr.setCell ⟨w.heap.size + 1, 0, none⟩ (.int .i64 (r : Int))).setCell ⟨w.heap.size + 1, 1, none⟩ (.int .i64 (c : Int))).setCell ⟨w.heap.size + 1, 2, none⟩ (.slice av k cv)) = y9 at hPt hup
   have hB1 := cells_of _ 0 [] rfl (hPt.get _ _ (mK mZ))
   simp only [zF, Nat.reduceAdd] at hB1
   have hcq := Lib.hid (own_cq (own_updM hown.out hup (by have := hkB.out; omega)) hlq.out.symm)
   clear hL0 hown hup
   go_wp2_with fail
   exact bodyPost_ret (v := .agg #[.int .i64 (r : Int), .int .i64 (c : Int), .slice av k cv]) (by simp [results, Tryz.results40, go_sem, hB1]) rfl ⟨_, rfl, ⟨_, rfl, hcq.out⟩, hPt.bl⟩
end Go.Proofs.YthffglapmkkohaaGreatDoor
namespace Go.Proofs.YthffglapmkkohaaGreatDoor
open Go.RowKit
attribute [local irreducible] lo hs sm s64 c64 d64 b64 mh ml pd pc qd qc val hiB str cmpI srD lz nb zl zh zs fe qmade
section
variable {x y r : Mx} {n k p K M N : Nat}
theorem ri {x : Mx} {n k K : Nat} (h : GM x n k K) : (x.r : Int) = (n : Int) := by rw [h.r]
theorem ci {x : Mx} {n k K : Nat} (h : GM x n k K) : (x.c : Int) = (k : Int) := by rw [h.c]
theorem lmaddG (hx : GM x n k K) (hy : GM y n k M) (hn : n ≤ 12) (hk : k ≤ 12) (hK : K ≤ 100000) (hM : M ≤ 100000) (hr : sumM n k x y = r) (u v : Value) (w : World) (hu : MT w u x) (hv : MT w v y) :
  Calls Tryz.prog 29 #[u, v] w fun e w' => ∃ pv, e = .returned pv ∧ MT w' pv r ∧ Below w.heap.size w w' := by
 have gr := hx.sum hy
 rw [hr] at gr
 exact lmadd_w n k n k n k x y r (fun u v w hu hv => by have := MAddG hx hy hn hk hK hM u v w hu hv; rwa [hr] at this) (ri hx) (ci hx) (ri hy) (ci hy) (ri gr) (ci gr) u v w hu hv
theorem lturnG (hx : GM x n k K) (hn : n ≤ 12) (hk : k ≤ 12) (hr : turM n k x = r) (u : Value) (w : World) (hu : MT w u x) :
  Calls Tryz.prog 33 #[u] w fun e w' => ∃ pv, e = .returned pv ∧ MT w' pv r ∧ Below w.heap.size w w' := by
 have gr := hx.tur
 rw [hr] at gr
 exact lturn_w n k k n x r (fun u w hu => by have := MTurnG hx hn hk u w hu; rwa [hr] at this) (ri hx) (ci hx) (ri gr) (ci gr) u w hu
theorem few_any (ls : List Nat) (b : Bool) (hb : b = true ↔ ∀ l ∈ ls, l ≤ 40) (hm : ls.length ≤ 10) (v : Value) (w : World) (hv : FWs w v ls) : Calls Tryz.prog 20 #[v] w fun e w' => e = .returned (.bool b) ∧ Below w.heap.size w w' := by
 obtain ⟨ao, c, g, rfl, h1, h2⟩ := hv
 refine mfew_w ls.length c g ao (fun i => ls.getD i 0) (by omega) w h1 (fun i hi => ?_) b (hb.trans ⟨fun h i hi => ?_, fun h l hl => ?_⟩)
 ·obtain ⟨a, d, h3⟩ := h2 i hi
  exact ⟨a, d, by rw [h3, List.getD_eq_getElem?_getD, List.getElem?_eq_getElem hi]; rfl⟩
 ·show ls.getD i 0 ≤ 40
  rw [List.getD_eq_getElem?_getD, List.getElem?_eq_getElem hi]
  exact h _ (List.getElem_mem hi)
 ·obtain ⟨i, hi, rfl⟩ := List.getElem_of_mem hl
  have := h i hi
  rwa [List.getD_eq_getElem?_getD, List.getElem?_eq_getElem hi] at this
end
theorem t5 {z : Int} (h : 0 ≤ z) : ∃ d : Nat, Int.tmod z 5 = (d : Int) ∧ d ≤ 4 := by
 rw [Int.tmod_eq_emod_of_nonneg h]
 exact ⟨(z % 5).toNat, by omega, by omega⟩
end Go.Proofs.YthffglapmkkohaaGreatDoor
namespace Go.Proofs.YthffglapmkkohaaGreatDoor
open Go.RowKit
attribute [local irreducible] lo hs sm s64 c64 d64 b64 mh ml pd pc qd qc val hiB str cmpI srD lz nb zl zh zs fe rowV tabV gv bsV turM mulM sumM oneM appV formM tabM dotL sumL mulL
theorem msides_w (zr zc : Int) (al : Option Addr) (nl cl sa sb : Nat) (ea : Int.tmod zr 7 = (sa : Int)) (eb : Int.tmod zc 7 = (sb : Int)) (sa4 : (sa : Int) ≤ 6) (sb4 : (sb : Int) ≤ 6) (w : World) :
  Calls Tryz.prog 22 #[.agg #[.int .u8 zr, .int .u8 zc, .slice al nl cl]] w fun e w' => e = .returned (.tuple #[.int .i64 (sa : Int), .int .i64 (sb : Int)]) ∧ Below w.heap.size w w' := by
 have hL0 : GL w w [] := GL.start w
 have hT : PTs w [] := PTs.nil w
 have sa0 : (0 : Int) ≤ (sa : Int) := Int.natCast_nonneg _
 have sb0 : (0 : Int) ≤ (sb : Int) := Int.natCast_nonneg _
 replace hT := (hT.new (.cells #[.int .u8 zr, .int .u8 zc, .slice al nl cl] 51))
 replace hL0 := (hL0.new rfl [.int .u8 zr, .int .u8 zc, .slice al nl cl] 51)
 generalize hweq : (w.alloc (.cells #[.int .u8 zr, .int .u8 zc, .slice al nl cl] 51)) = x1 at hL0 hT
 go_enter Tryz.func22, Tryz.ntmps22
 go_upto_region 1 with fail
 clear hweq
 obtain ⟨α, iα, F, hF1, hF2⟩ := cls x1
 have hq0 := cls_box hF1 hL0 _ _ mZ
 simp only [zC, Nat.reduceAdd] at hq0
 refine region_qs 10 (C := fun w' => ∃ x, w' = F x) (by kernel_rfl) (by kernel_rfl) (cls_drew hF2) ?_
 simp only [zT]
 repeat (go_big_quiet_step (first | fail))
 refine wpQuiet_nil ?_
 rintro wq ⟨xq, rfl⟩
 replace hL0 := hL0.call (hF1 xq)
 replace hT := hT.call (hF1 xq)
 clear  hq0 hF2
 generalize F xq = x2 at hL0 hT ⊢
 clear hF1 xq iα F α
 go_wp2_with fail
 exact bodyPost_ret (v := .tuple #[.int .i64 (sa : Int), .int .i64 (sb : Int)]) (by simp [results, Tryz.results22, go_sem]) rfl ⟨rfl, hL0.bl⟩
theorem mMOf_w (zr zc : Int) (al : Option Addr) (nl cl sa sb : Nat) (x : Mx) (KA : World → Prop) (hKA : Keeps KA) (HS : ∀ (w : World), KA w → Calls Tryz.prog 40 #[.agg #[.int .u8 zr, .int .u8 zc, .slice al nl cl], .int .i64 (sa : Int), .int .i64 (sb : Int)] w fun e w' => ∃ pv, e = .returned pv ∧ MT w' pv x ∧ Below w.heap.size w w') (ea : Int.tmod zr 7 = (sa : Int)) (eb : Int.tmod zc 7 = (sb : Int)) (sa4 : (sa : Int) ≤ 6) (sb4 : (sb : Int) ≤ 6) (hx1 : (x.r : Int) = (sa : Int)) (hx2 : (x.c : Int) = (sb : Int)) (w : World) (kKA : KA w) :
  Calls Tryz.prog 23 #[.agg #[.int .u8 zr, .int .u8 zc, .slice al nl cl]] w fun e w' => ∃ pv, e = .returned pv ∧ MT w' pv x ∧ Below w.heap.size w w' := by
 replace hKA := Lib.hid hKA
 replace HS := Lib.hid HS
 have hL0 : GL w w [] := GL.start w
 have hT : PTs w [] := PTs.nil w
 have sa0 : (0 : Int) ≤ (sa : Int) := Int.natCast_nonneg _
 have sb0 : (0 : Int) ≤ (sb : Int) := Int.natCast_nonneg _
 replace hx1 := Lib.hid hx1
 replace hx2 := Lib.hid hx2
 replace hT := ((hT.new (.cells #[.int .u8 zr, .int .u8 zc, .slice al nl cl] 51)).new (.cells #[.int .i64 0, .int .i64 0, .slice none 0 0] 56))
 replace hL0 := ((hL0.new rfl [.int .u8 zr, .int .u8 zc, .slice al nl cl] 51).new (K := w.heap.size + 1) (szA _ _) [.int .i64 0, .int .i64 0, .slice none 0 0] 56)
 generalize hweq : ((w.alloc (.cells #[.int .u8 zr, .int .u8 zc, .slice al nl cl] 51)).alloc (.cells #[.int .i64 0, .int .i64 0, .slice none 0 0] 56)) = x1 at hL0 hT
 go_enter Tryz.func23, Tryz.ntmps23
 have hN0 := cells_of _ 0 [] rfl (hL0.get _ _ (mK mZ))
 simp only [zF, Nat.reduceAdd] at hN0
 go_wp2_with fail
 clear hN0
 with_reducible refine Calls.mono (HS.out _ (hKA.out.at (hL0.bl) kKA)) ?_
 rintro e x2 ⟨v0, rfl, q0, hb⟩
 replace hL0 := hL0.call hb
 replace hT := hT.call hb
 clear hb hweq
 obtain ⟨g1, d1, g1c, rfl, hm1, hcp1⟩ := mt_form q0 hx1.out hx2.out
 replace hcp1 := Lib.hid hcp1
 replace hT := hT.cons hm1
 clear hm1
 clear q0
 have hT1 := hT.putM ((((Upd.refl (w.heap.size + 1) x2).setCell 0 (.int .i64 (sa : Int))).setCell 1 (.int .i64 (sb : Int))).setCell 2 (.slice g1 d1 g1c)) (hL0.get _ _ mZ) (by intro n; simp)
 have hA := hL0.fc
 simp only [zF, Nat.reduceAdd] at hA
 have hP := hL0.put 0 (w.heap.size + 1) _ rfl [.int .i64 (sa : Int), .int .i64 (sb : Int), .slice g1 d1 g1c] rfl
 simp only [setAll, List.set_cons_zero, List.set_cons_succ] at hP
 generalize hput1 : (((x2.setCell ⟨w.heap.size + 1, 0, none⟩ (.int .i64 (sa : Int))).setCell ⟨w.heap.size + 1, 1, none⟩ (.int .i64 (sb : Int))).setCell ⟨w.heap.size + 1, 2, none⟩ (.slice g1 d1 g1c)) = x3 at hP hT1
 have hB1 := hP.fc
 simp only [zF, Nat.reduceAdd] at hB1
 replace hL0 := hP
 replace hT := hT1
 clear hT1
 go_wp2_with fail
 exact bodyPost_ret (v := .agg #[.int .i64 (sa : Int), .int .i64 (sb : Int), .slice g1 d1 g1c]) (by simp [results, Tryz.results23, go_sem, hB1]) rfl ⟨_, rfl, (mt_of (hT.get mZ) hcp1.out hx1.out hx2.out), hL0.bl⟩
end Go.Proofs.YthffglapmkkohaaGreatDoor
namespace Go.Proofs.YthffglapmkkohaaGreatDoor
open Go.RowKit
/-- The sum of the first outer products. -/
def smP (n k : Nat) (x : Mx) (p : Nat) : Mx := tabM n k fun i j => if j < p then ent x i j else 0
def ouP (n k : Nat) (x : Mx) (p : Nat) : Mx := tabM n k fun i j => ent x i p * (if j = p then 1 else 0)
/-- The elements at some places. -/
def ptM (x : Mx) (ps qs : List Nat) : Mx := tabM ps.length qs.length fun i j => ent x (ps.getD i 0) (qs.getD j 0)
theorem szz : Sz (0 : Rat) 1 := szc 0 (by decide) (by decide)
section
variable {x : Mx} {n k : Nat} (gx : GM x n k 1)
include gx
theorem smP_gm (p : Nat) : GM (smP n k x p) n k 1 := GM.tab fun i j hi hj => by
 split
 ·exact gx.at i j hi hj
 ·exact szz
theorem ouP_gm (p : Nat) (hp : p < k) : GM (ouP n k x p) n k 2 := GM.tab fun i j hi hj => (gx.at i p hi hp).mul (m := 1) (by
 split
 ·exact szc 1 (by decide) (by decide)
 ·exact szz)
omit gx in
theorem smP_step (p : Nat) : sumM n k (smP n k x p) (ouP n k x p) = smP n k x (p + 1) := tabM_ext fun i j hi hj => by
 unfold smP ouP
 rw [ent_tab hi hj, ent_tab hi hj]
 by_cases e : j = p
 ·subst e; rw [if_neg (Nat.lt_irrefl _), if_pos rfl, if_pos (Nat.lt_succ_self _)]; grind
 ·by_cases g : j < p
  ·rw [if_pos g, if_neg e, if_pos (by omega)]; grind
  ·rw [if_neg g, if_neg e, if_neg (by omega)]; grind
theorem smP_end : smP n k x k = x := (mx_ext gx fun i j hi hj => by rw [if_pos hj]).symm
theorem ptM_gm {ps qs : List Nat} (hp : ∀ p ∈ ps, p < n) (hq : ∀ p ∈ qs, p < k) : GM (ptM x ps qs) ps.length qs.length 1 := GM.tab fun i j hi hj => gx.at _ _ (hp _ (by rw [List.getD_eq_getElem?_getD, List.getElem?_eq_getElem hi]; exact List.getElem_mem hi)) (hq _ (by rw [List.getD_eq_getElem?_getD, List.getElem?_eq_getElem hj]; exact List.getElem_mem hj))
omit gx in
theorem rng_getD {n i : Nat} (h : i < n) : (List.range n).getD i 0 = i := by
 rw [List.getD_eq_getElem?_getD, List.getElem?_range h]; rfl
omit gx in
theorem mem_getD {ps : List Nat} {n i : Nat} (hp : ∀ p ∈ ps, p < n) (hi : i < ps.length) : ps.getD i 0 < n := hp _ (by
 rw [List.getD_eq_getElem?_getD, List.getElem?_eq_getElem hi]; exact List.getElem_mem hi)
theorem ptM_all : ptM x (List.range n) (List.range k) = x := by
 refine Eq.trans ?_ (tab_ent gx)
 unfold ptM
 rw [List.length_range, List.length_range]
 exact tabM_ext fun i j hi hj => by rw [rng_getD hi, rng_getD hj]
omit gx in
theorem ptM_tur {ps qs : List Nat} (hp : ∀ p ∈ ps, p < n) (hq : ∀ p ∈ qs, p < k) : ptM (turM n k x) qs ps = turM ps.length qs.length (ptM x ps qs) := tabM_ext fun i j hi hj => by
 have e : ent (turM n k x) (qs.getD i 0) (ps.getD j 0) = ent x (ps.getD j 0) (qs.getD i 0) := ent_tab (mem_getD hq hi) (mem_getD hp hj)
 rw [e]
 unfold ptM
 rw [ent_tab hj hi]
omit gx in
theorem ptM_pick {ps qs is : List Nat} (hi : ∀ i ∈ is, i < ps.length) : ptM (ptM x ps qs) is (List.range qs.length) = ptM x (is.map fun i => ps.getD i 0) qs := by
 have e : ptM x (is.map fun i => ps.getD i 0) qs = tabM is.length qs.length fun i j => ent x (ps.getD (is.getD i 0) 0) (qs.getD j 0) := by
  unfold ptM
  rw [List.length_map]
  exact tabM_ext fun i j h1 h2 => by rw [List.getD_eq_getElem?_getD (l := is.map _), List.getElem?_map, List.getElem?_eq_getElem h1, List.getD_eq_getElem?_getD (l := is), List.getElem?_eq_getElem h1]; rfl
 rw [e]
 show tabM is.length (List.range qs.length).length _ = _
 rw [List.length_range]
 refine tabM_ext fun i j h1 h2 => ?_
 rw [rng_getD h2]
 unfold ptM
 rw [ent_tab (mem_getD hi h1) h2]
end
section
variable {x : Mx} {n k K : Nat} (gx : GM x n k K) (hn : n ≤ 12) (hk : k ≤ 12)
include gx hn hk
theorem PartE (ps qs : List Nat) (h1 : ps.length ≤ 100) (h2 : qs.length ≤ 100) (hp : ∀ p ∈ ps, p < n) (hq : ∀ p ∈ qs, p < k) (u s t : Value) (w : World) (hu : MT w u x) (hs : ILs w s (ps.map Int.ofNat)) (ht : ILs w t (qs.map Int.ofNat)) :
  Calls Tryz.prog 31 #[u, s, t] w fun e w' => ∃ pv, e = .returned (.tuple #[pv, .int .i64 0]) ∧ MT w' pv (ptM x ps qs) ∧ Below w.heap.size w w' := by
 have ox := gx.ok (by omega) (by omega)
 obtain ⟨rfl, rfl, -, -⟩ := gx
 obtain ⟨u1, rfl, hu⟩ := hu
 refine (mPartV x ps qs ox h1 h2 hp hq u1 s t w hu hs ht).mono ?_
 rintro e w' ⟨v, rfl, hv, hb⟩
 exact ⟨_, rfl, ⟨v, rfl, hv.cq⟩, hb⟩
theorem ColE (p : Nat) (hp : p < k) (u : Value) (w : World) (hu : MT w u x) :
  Calls Tryz.prog 26 #[u, .int .i64 (p : Int)] w fun e w' => ∃ pv, e = .returned (.tuple #[pv, .int .i64 0]) ∧ PT w' pv (tabV n fun i => ent x i p) ∧ Below w.heap.size w w' := by
 have ox := gx.ok (by omega) (by omega)
 obtain ⟨rfl, rfl, -, -⟩ := gx
 obtain ⟨u1, rfl, hu⟩ := hu
 refine (mColV x ox p hp u1 w hu).mono ?_
 rintro e w' ⟨v, rfl, hv, hb⟩
 exact ⟨_, rfl, hv.slq, hb⟩
end
theorem UnitE (k p : Nat) (hk : k ≤ 12) (hp : p < k) (w : World) :
  Calls Tryz.prog 27 #[.int .i64 (k : Int), .int .i64 (p : Int)] w fun e w' => ∃ pv, e = .returned (.tuple #[pv, .int .i64 0]) ∧ PT w' pv (tabV k fun j => if j = p then 1 else 0) ∧ Below w.heap.size w w' := by
 refine (vunit_ok k p (by omega) hp w).mono ?_
 rintro e w' ⟨v, rfl, hv, hb⟩
 exact ⟨_, rfl, hv.slq, hb⟩
theorem OuterE {x : Mx} {n k : Nat} (gx : GM x n k 1) (hn : n ≤ 12) (hk : k ≤ 12) (p : Nat) (hp : p < k) (u v : Value) (w : World) (hu : PT w u (tabV n fun i => ent x i p)) (hv : PT w v (tabV k fun j => if j = p then 1 else 0)) :
  Calls Tryz.prog 28 #[u, v] w fun e w' => ∃ pv, e = .returned (.tuple #[pv, .int .i64 0]) ∧ MT w' pv (ouP n k x p) ∧ Below w.heap.size w w' := by
 refine (mOuterV _ _ 1 (by omega) (tab_all fun i hi => gx.at i p hi hp) (tab_all (n := k) fun j hj => by
  split
  ·exact szc 1 (by decide) (by decide)
  ·exact szz) (by rw [tabV_len]; omega) (by rw [tabV_len]; omega) u v w hu hv).mono ?_
 rintro e w' ⟨t, rfl, h, hb⟩
 simp only [tabV_len] at h ⊢
 refine ⟨_, rfl, ⟨t, rfl, ?_⟩, hb⟩
 have e : ouP n k x p = tabM n k fun i j => gv (tabV n fun i => ent x i p) i * gv (tabV k fun j => if j = p then 1 else 0) j := tabM_ext fun i j hi hj => by rw [gv_tab hi, gv_tab hj]
 rw [e]
 exact h.cq
theorem enmzero : ∀ (args : Array Value) (w : World), (callFunc 25 args).run Tryz.prog w = .ok (.enter 25 args) w := enters_of Tryz.func25 (by kernel_rfl) rfl
theorem mzero1_w (a b : Int) (w : World) :
  Calls Tryz.prog 25 #[.int .i64 a, .int .i64 b] w fun e w' => e = .returned (fracV 0) ∧ Below w.heap.size w w' := by
 have hL0 : GL w w [] := GL.start w
 obtain ⟨x0, hweq, hL0⟩ := GL.named (hL0.new rfl [.int .u64 0, .string ⟨#[]⟩, .bool false, .int .u64 0, .string ⟨#[]⟩] 36)
 have hA := hL0.fc
 simp only [zF, Nat.reduceAdd] at hA
 have hP := hL0.put 0 w.heap.size _ rfl [.int .u64 0, .string ⟨#[]⟩, .bool false, .int .u64 0, .string ⟨#[]⟩] rfl
 obtain ⟨y, hy⟩ : ∃ y, setAll x0 w.heap.size 0 [.int .u64 0, .string ⟨#[]⟩, .bool false, .int .u64 0, .string ⟨#[]⟩] = y := ⟨_, rfl⟩
 rw [hy] at hP
 simp only [setAll, Nat.zero_add, Nat.reduceAdd] at hy
 simp only [List.set_cons_zero] at hP
 have hB := hP.fc
 simp only [zF, Nat.reduceAdd] at hB
 go_enter Tryz.func25, Tryz.ntmps25
 go_wp2_with fail
 exact bodyPost_ret (v := .agg #[.int .u64 0, .string ⟨#[]⟩, .bool false, .int .u64 0, .string ⟨#[]⟩]) (by simp [results, Tryz.results25, go_sem, hB]) rfl ⟨by have := frV_q0; simpa [fracV] using this.symm, hP.bl⟩
theorem MakeZ (n k : Nat) (x : Mx) (hn : n ≤ 12) (hk : k ≤ 12) (w : World) :
  Calls Tryz.prog 24 #[.int .i64 (n : Int), .int .i64 (k : Int), .func (.func 25) #[] #[]] w fun e w' => ∃ pv, e = .returned (.tuple #[pv, .int .i64 0]) ∧ MT w' pv (smP n k x 0) ∧ Below w.heap.size w w' := by
 refine (mMakeV 25 #[] n k (smP n k x 0).l (by omega) (by omega) (fun _ => True) (fun _ _ _ _ => trivial) (fun w _ => ?_) w trivial).mono ?_
 ·exact mbuild_w 25 #[] enmzero n k (fun i j => if j < 0 then ent x i j else 0) (fun _ => True) (fun _ _ _ _ => trivial) (fun i j _ _ w _ => by rw [if_neg (Nat.not_lt_zero _)]; exact mzero1_w i j w) (by omega) (by omega) (by have := Nat.mul_le_mul hn hk; omega) w trivial
 rintro e w' ⟨v, rfl, hv, hb⟩
 exact ⟨_, rfl, ⟨v, rfl, hv.cq⟩, hb⟩
theorem msame_ok {x : Mx} {n k K : Nat} (gx : GM x n k K) (hn : n ≤ 12) (hk : k ≤ 12) (u v : Value) (w : World) (hu : MT w u x) (hv : MT w v x) :
  Calls Tryz.prog 30 #[u, v] w fun e w' => e = .returned (.bool true) ∧ Below w.heap.size w w' := MSameT gx hn hk u v w hu hv
/-- A slice outlives a store into a box that begins with a number. -/
theorem slq_pint {W W' : World} {v : Value} {l : List Rat} {k : Nat} {z : Int} {cs : List Value} (h : SlQ W v l) (hu : Upd k W W') (hd : Hd W k (.int .i64 z :: cs)) : SlQ W' v l := slq_upd h hu fun g c _ hf hl e => by
 subst e
 cases l with
 | nil => exact hl rfl
 | cons q l =>
  have h0 := (fsc hf 0 (by simp)).1
  have h1 := hd.cell 0 (by simp)
  simp only [List.getElem_cons_zero, Nat.zero_mul] at h0 h1
  rw [h0] at h1
  simp at h1
theorem GL.tail9 {w0 W : World} {p : Nat × List Value} {L : List (Nat × List Value)} (h : GL w0 W (p :: L)) : GL w0 W L := ⟨h.bl, fun q hq => h.all q (mK hq), by have := h.nd; rw [List.map_cons] at this; exact (List.nodup_cons.1 this).2⟩
theorem slq_lenN {w : World} {ao : Option Addr} {m d : Nat} {l : List Rat} (h : SlQ w (.slice ao m d) l) : m = l.length := by
 obtain ⟨_, _, e, _⟩ := slq_len h
 simp at e
 exact e.2.1
theorem getD_get9 (l : List Nat) (i : Nat) (h : i < l.length) : l[i] = l.getD i 0 := by
 rw [List.getD_eq_getElem?_getD, List.getElem?_eq_getElem h]; rfl
end Go.Proofs.YthffglapmkkohaaGreatDoor
namespace Go.Proofs.YthffglapmkkohaaGreatDoor
open Go.RowKit
attribute [local irreducible] lo hs sm s64 c64 d64 b64 mh ml pd pc qd qc val hiB str cmpI srD lz nb zl zh zs fe rowV tabV gv bsV tabM
def augE (x : Mx) (b : List Rat) : Gd := fun i j => if j = x.c then gv b i else rowsE x i j
end Go.Proofs.YthffglapmkkohaaGreatDoor
namespace Go.Proofs.YthffglapmkkohaaGreatDoor
open Go.RowKit
attribute [local irreducible] lo hs sm s64 c64 d64 b64 mh ml pd pc qd qc val hiB str cmpI srD lz nb zl zh zs fe rowV tabV gv bsV tabM
/-- The system for a certificate: y is the turned matrix, b the right-hand side. -/
def agE (y : Mx) (b : List Rat) : Gd := fun i => if i = y.r then (fun j => if j < y.c then gv b j else 1) else rowsE y i
end Go.Proofs.YthffglapmkkohaaGreatDoor
namespace Go.Proofs.YthffglapmkkohaaGreatDoor
open Go.RowKit
attribute [local irreducible] lo hs sm s64 c64 d64 b64 mh ml pd pc qd qc val hiB str cmpI srD lz nb zl zh zs fe rowV tabV gv bsV tabM
def ivE (x : Mx) : Gd := fun i j => if j = x.c + i then 1 else rowsE x i j
end Go.Proofs.YthffglapmkkohaaGreatDoor
namespace Go.Proofs.YthffglapmkkohaaGreatDoor
open Go.RowKit
/-- The size of the rows that are left, behind p pivots. -/
def kdE (K : Nat) : Nat → Nat
 | 0 => K
 | p + 1 => 4 * kdE K p + 1
theorem kd_up (K : Nat) : ∀ p d, kdE K p ≤ kdE K (p + d)
 | p, 0 => Nat.le_refl _
 | p, d + 1 => Nat.le_trans (kd_up K p d) (by show _ ≤ 4 * kdE K (p + d) + 1; omega)
theorem kd_mono (K : Nat) {p q : Nat} (h : p ≤ q) : kdE K p ≤ kdE K q := by
 obtain ⟨d, rfl⟩ := Nat.le.dest h
 exact kd_up K p d
structure SzI (R n K : Nat) (s : ES) : Prop where
 lo : ∀ i, s.pv.length ≤ i → i < R → ∀ j, j < n → Sz (s.G i j) (kdE K s.pv.length)
 up : ∀ i, i < s.pv.length → i < R → ∀ j, j < n → Sz (s.G i j) (2 * kdE K (s.pv.length - 1))
 f : Sz s.f (kdE K s.pv.length + 1)
theorem SzI.step {R n K k : Nat} {s : ES} (h : SzI R n K s) (hk : k < n) : SzI R n K (stepE R k s) := by
 unfold stepE
 cases e : fnd s.G k s.pv.length (R - s.pv.length) with
 | none => exact h
 | some i =>
  obtain ⟨h1, h2, h3, -⟩ := fnd_some e
  obtain ⟨t, ht⟩ : ∃ t, t = s.pv.length := ⟨_, rfl⟩
  rw [← ht] at h1 h2
  have hlo := h.lo
  have hup := h.up
  have hf := h.f
  rw [← ht] at hlo hup hf
  obtain ⟨a, ha⟩ : ∃ a, a = kdE K t := ⟨_, rfl⟩
  rw [← ha] at hlo hf
  have hiR : i < R := by omega
  have htR : t < R := by omega
  -- the swapped rows
  have hS : ∀ r, t ≤ r → r < R → ∀ j, j < n → Sz (swpG s.G i t r j) a := fun r r1 r2 j hj => by
   unfold swpG
   split
   ·exact hlo t (Nat.le_refl _) htR j hj
   ·split
    ·exact hlo i h1 hiR j hj
    ·exact hlo r r1 r2 j hj
  have hne : swpG s.G i t t k ≠ 0 := by
   unfold swpG
   split
   ·rename_i e1
    rw [e1]; exact h3
   ·rw [if_pos rfl]; exact h3
  have hl : (s.pv ++ [k]).length = t + 1 := by rw [List.length_append, ← ht]; rfl
  refine ⟨fun r r1 r2 j hj => ?_, fun r r1 r2 j hj => ?_, ?_⟩
  ·simp only [← ht]
   rw [hl] at r1 ⊢
   show Sz _ (4 * kdE K t + 1)
   rw [← ha]
   have hrt : r ≠ t := by omega
   unfold clrG
   have hD : ∀ j, divG (swpG s.G i t) t k r j = swpG s.G i t r j := fun j => by unfold divG; rw [if_neg (fun h => hrt h.1)]
   rw [hD, hD]
   split
   ·rename_i hc
    unfold divG
    rw [if_pos ⟨rfl, hc.2.2⟩]
    exact ((hS r (by omega) r2 j hj).sub ((hS r (by omega) r2 k hk).mul ((hS t (Nat.le_refl _) htR j hj).div (hS t (Nat.le_refl _) htR k hk) hne))).mono (by omega)
   ·exact (hS r (by omega) r2 j hj).mono (by omega)
  ·simp only [← ht]
   rw [hl] at r1 ⊢
   rw [Nat.add_sub_cancel, ← ha]
   unfold clrG
   rw [if_neg (fun h => by omega)]
   by_cases hrt : r = t
   ·subst hrt
    unfold divG
    split
    ·exact ((hS r (Nat.le_refl _) r2 j hj).div (hS r (Nat.le_refl _) r2 k hk) hne).mono (by omega)
    ·exact (hS r (Nat.le_refl _) r2 j hj).mono (by omega)
   ·unfold divG
    rw [if_neg (fun h => hrt h.1)]
    unfold swpG
    rw [if_neg (by omega), if_neg (by omega)]
    have := kd_mono K (show t - 1 ≤ t by omega)
    exact (hup r (by omega) r2 j hj).mono (by omega)
  ·simp only [← ht]
   rw [hl]
   show Sz _ (4 * kdE K t + 1 + 1)
   rw [← ha]
   have hg := hS t (Nat.le_refl _) htR k hk
   split
   ·exact (hf.mul hg).mono (by omega)
   ·exact (hf.neg.mul hg).mono (by omega)
end Go.Proofs.YthffglapmkkohaaGreatDoor
namespace Go.Proofs.YthffglapmkkohaaGreatDoor
open Go.RowKit
attribute [local irreducible] lo hs sm s64 c64 d64 b64 mh ml pd pc qd qc val hiB str cmpI srD lz nb zl zh zs fe
def okq (q : Rat) : Bool := decide (q.num.natAbs < 18446744073709551616 ∧ q.den < 18446744073709551616)
theorem okq_sz {q : Rat} (h : okq q = true) : Sz q 1 := by
 have := of_decide_eq_true h
 exact szc q this.1 this.2
/-- The sizes of an elimination, checked. -/
def ckE (R n c : Nat) (G : Gd) : Bool :=
 ((List.range (c + 1)).all fun k => okq (descE R ⟨G, [], 1⟩ k).f && (List.range R).all fun i => (List.range n).all fun j => okq ((descE R ⟨G, [], 1⟩ k).G i j)) &&
 ((List.range ((descE R ⟨G, [], 1⟩ c).pv.length + 1)).all fun m => (List.range R).all fun i => (List.range n).all fun j => okq (ascE (descE R ⟨G, [], 1⟩ c).pv (descE R ⟨G, [], 1⟩ c).G m i j))
theorem ckE_sz {R n c : Nat} {G : Gd} (h : ckE R n c G = true) (hn : n ≤ 5000) (hR : R ≤ 5000) (hc : c ≤ n) : ESz R n c 1 G := by
 unfold ckE at h
 rw [Bool.and_eq_true, List.all_eq_true, List.all_eq_true] at h
 refine ⟨fun k hk => ?_, fun m hm i hi j hj => ?_, by omega, hn, hR, hc⟩
 ·have h1 := h.1 k (List.mem_range.2 (by omega))
  rw [Bool.and_eq_true, List.all_eq_true] at h1
  refine ⟨okq_sz h1.1, fun i hi j hj => ?_⟩
  have h2 := h1.2 i (List.mem_range.2 hi)
  rw [List.all_eq_true] at h2
  exact okq_sz (h2 j (List.mem_range.2 hj))
 ·have h1 := h.2 m (List.mem_range.2 (by omega))
  rw [List.all_eq_true] at h1
  have h2 := h1 i (List.mem_range.2 hi)
  rw [List.all_eq_true] at h2
  exact okq_sz (h2 j (List.mem_range.2 hj))
def e1W : Mx := mW 2 3 [1, 2, 3, 2, 4, 7]
def e2W : Mx := mW 2 2 [1, 2, 2, 4]
def e3W : Mx := mW 2 2 [1, 2, 3, 4]
def ebW : List Rat := oW [1, 3]
def etW : Mx := turM 2 2 e2W
def epW : Mx := tabM 1 1 fun i j => ent e3W ([0].getD i 0) ([0].getD j 0)
theorem z1 : ESz 2 3 3 1 (rowsE e1W) := ckE_sz (by decide +kernel) (by decide) (by decide) (by decide)
theorem z2 : ESz 2 4 3 1 (augE e1W ebW) := ckE_sz (by decide +kernel) (by decide) (by decide) (by decide)
theorem z3 : ESz 2 3 2 1 (augE e2W ebW) := ckE_sz (by decide +kernel) (by decide) (by decide) (by decide)
theorem z4 : ESz 3 3 2 1 (agE etW ebW) := ckE_sz (by decide +kernel) (by decide) (by decide) (by decide)
theorem z5 : ESz 2 2 2 1 (rowsE e3W) := ckE_sz (by decide +kernel) (by decide) (by decide) (by decide)
theorem z6 : ESz 2 4 2 1 (ivE e3W) := ckE_sz (by decide +kernel) (by decide) (by decide) (by decide)
theorem z7 : ESz 1 1 1 1 (rowsE epW) := ckE_sz (by decide +kernel) (by decide) (by decide) (by decide)
end Go.Proofs.YthffglapmkkohaaGreatDoor
namespace Go.Proofs.YthffglapmkkohaaGreatDoor
open Go.RowKit
attribute [local irreducible] lo hs sm s64 c64 d64 b64 mh ml pd pc qd qc val hiB str cmpI srD lz nb zl zh zs fe rowV tabV gv bsV tabM turM mulM sumM oneM appV formM dotL sumL mulL
theorem il_form9 {w : World} {v : Value} {pv : List Nat} {n : Nat} (h : ILs w v (pv.map Int.ofNat)) (hn : pv.length = n) : ∃ ao c, v = .slice ao n c ∧ ∀ i, (hi : i < pv.length) → ∃ g, ao = some ⟨g, 0, none⟩ ∧ w.cell? ⟨g, i, none⟩ = some (.int .i64 (pv[i] : Int)) := by
 obtain ⟨ao, c, g, rfl, h1, h2⟩ := h
 have hl : (pv.map Int.ofNat).length = n := by simp [hn]
 refine ⟨ao, c, by rw [hl], fun i hi => ?_⟩
 have h3 := h2 i (by rw [hl]; omega)
 rw [List.getElem_map] at h3
 exact ⟨g, (h1 (by rw [hl]; omega)).1, h3⟩
end Go.Proofs.YthffglapmkkohaaGreatDoor
namespace Go.Proofs.YthffglapmkkohaaGreatDoor
open Go.RowKit
attribute [local irreducible] lo hs sm s64 c64 d64 b64 mh ml pd pc qd qc val hiB str cmpI srD lz nb zl zh zs fe rowV tabV gv bsV tabM turM mulM sumM oneM appV formM dotL sumL mulL
theorem mparts_l (zr zc : Int) (la ra ca ga : Option Addr) (lx ly nr cr nc cc ng cg : Nat) (hrej : (∀ (p0 : Value) (w : World), FWs w p0 [lx] → Calls Tryz.prog 20 #[p0] w fun e w' => e = .returned (.bool false) ∧ Below w.heap.size w w') ∨ ((∀ (p0 : Value) (w : World), FWs w p0 [lx] → Calls Tryz.prog 20 #[p0] w fun e w' => e = .returned (.bool true) ∧ Below w.heap.size w w') ∧ decide ((8 : Int) < ((nr : Nat) : Int)) = true ∧ decide (8 < nr) = true) ∨ ((∀ (p0 : Value) (w : World), FWs w p0 [lx] → Calls Tryz.prog 20 #[p0] w fun e w' => e = .returned (.bool true) ∧ Below w.heap.size w w') ∧ decide ((8 : Int) < ((nr : Nat) : Int)) = false ∧ decide (8 < nr) = false ∧ decide ((8 : Int) < ((nc : Nat) : Int)) = true ∧ decide (8 < nc) = true) ∨ ((∀ (p0 : Value) (w : World), FWs w p0 [lx] → Calls Tryz.prog 20 #[p0] w fun e w' => e = .returned (.bool true) ∧ Below w.heap.size w w') ∧ decide ((8 : Int) < ((nr : Nat) : Int)) = false ∧ decide (8 < nr) = false ∧ decide ((8 : Int) < ((nc : Nat) : Int)) = false ∧ decide (8 < nc) = false ∧ decide ((8 : Int) < ((ng : Nat) : Int)) = true ∧ decide (8 < ng) = true)) (KT : World → Prop) (hKT : Keeps KT) (HW : ∀ w, KT w → Calls Tryz.prog 21 #[] w fun xe w' => xe = .returned (.bool true) ∧ Below w.heap.size w w') (w : World) (kKT : KT w) :
  Calls Tryz.prog 4 #[.agg #[.int .u8 zr, .int .u8 zc, .slice la lx ly], .slice ra nr cr, .slice ca nc cc, .slice ga ng cg] w fun e w' => e = .returned (.bool true) ∧ Below w.heap.size w w' := by
 replace hKT := Lib.hid hKT
 replace HW := Lib.hid HW
 rcases hrej with HFw | ⟨HFw, q1, q2⟩ | ⟨HFw, q1, q2, q3, q4⟩ | ⟨HFw, q1, q2, q3, q4, q5, q6⟩
 all_goals
  replace HFw := Lib.hid HFw
  have hL0 : GL w w [] := GL.start w
  obtain ⟨x1, hweq, hL0⟩ := GL.named (hL0.new rfl [.int .u8 zr, .int .u8 zc, .slice la lx ly] 51)
  go_enter Tryz.func4, Tryz.ntmps4
  go_upto_region 1 with fail
  have hZ0 := cells_of _ 0 [] rfl (hL0.get _ _ mZ)
  simp only [zF, Nat.reduceAdd] at hZ0
  clear hweq
  obtain ⟨x2, hweq, hL0⟩ := GL.named (hL0.new rfl [.int .u8 zr, .int .u8 zc, .slice la lx ly] 51)
  have hN0 := cells_of _ 0 [] rfl (hL0.get _ _ (mK mZ))
  simp only [zF, Nat.reduceAdd] at hN0
  have hbv1 : FWs x2 (.slice (some ⟨x1.heap.size, 0, none⟩) 1 1) [lx] := fws_one (hL0.get _ _ mZ)
  replace hbv1 := Lib.hid hbv1
  go_wp2_with fail
  clear hN0
  with_reducible refine Calls.mono (HFw.out (.slice (some ⟨x1.heap.size, 0, none⟩) 1 1) _ hbv1.out) ?_
  rintro e x3 ⟨rfl, hb⟩
  replace hL0 := hL0.call hb
  clear hb hweq hZ0 hbv1
  go_wp2_with fail
  with_reducible refine Calls.mono (HW.out _ (hKT.out.at hL0.bl kKT)) ?_
  rintro e x4 ⟨rfl, hb⟩
  replace hL0 := hL0.call hb
  clear hb
  go_wp2_with fail
  exact bodyPost_ret (v := .bool true) (by simp [results, Tryz.results4, go_sem]) rfl ⟨rfl, hL0.bl⟩
theorem mparts_law (zr zc : Int) (la ra ca ga : Option Addr) (lx ly nr cr nc cc ng cg : Nat) (n k a b c : Nat) (x tx xp txp xq : Mx) (SP OU : Nat → Mx) (CO UN : Nat → List Rat) (at9 on9 pk9 : List Nat)
  (HFw : (∀ (p0 : Value) (w : World), FWs w p0 [lx] → Calls Tryz.prog 20 #[p0] w fun e w' => e = .returned (.bool true) ∧ Below w.heap.size w w'))
  (HSd : ∀ w, Calls Tryz.prog 22 #[.agg #[.int .u8 zr, .int .u8 zc, .slice la lx ly]] w fun e w' => e = .returned (.tuple #[.int .i64 (n : Int), .int .i64 (k : Int)]) ∧ Below w.heap.size w w')
  (KA : World → Prop) (hKA : Keeps KA) (HMo : ∀ (w : World), KA w → Calls Tryz.prog 23 #[.agg #[.int .u8 zr, .int .u8 zc, .slice la lx ly]] w fun e w' => ∃ pv, e = .returned pv ∧ MT w' pv x ∧ Below w.heap.size w w')
  (HMk : ∀ w, Calls Tryz.prog 24 #[.int .i64 (n : Int), .int .i64 (k : Int), .func (.func 25) #[] #[]] w fun e w' => ∃ pv, e = .returned (.tuple #[pv, .int .i64 0]) ∧ MT w' pv (SP 0) ∧ Below w.heap.size w w')
  (HCo : ∀ p, p < k → ∀ u w, MT w u x → Calls Tryz.prog 26 #[u, .int .i64 (p : Int)] w fun e w' => ∃ pv, e = .returned (.tuple #[pv, .int .i64 0]) ∧ PT w' pv (CO p) ∧ Below w.heap.size w w')
  (HUn : ∀ p, p < k → ∀ w, Calls Tryz.prog 27 #[.int .i64 (k : Int), .int .i64 (p : Int)] w fun e w' => ∃ pv, e = .returned (.tuple #[pv, .int .i64 0]) ∧ PT w' pv (UN p) ∧ Below w.heap.size w w')
  (HOu : ∀ p, p < k → ∀ u v w, PT w u (CO p) → PT w v (UN p) → Calls Tryz.prog 28 #[u, v] w fun e w' => ∃ pv, e = .returned (.tuple #[pv, .int .i64 0]) ∧ MT w' pv (OU p) ∧ Below w.heap.size w w')
  (HAd : ∀ p, p < k → ∀ u v w, MT w u (SP p) → MT w v (OU p) → Calls Tryz.prog 29 #[u, v] w fun e w' => ∃ pv, e = .returned pv ∧ MT w' pv (SP (p + 1)) ∧ Below w.heap.size w w')
  (HSx : ∀ u v w, MT w u x → MT w v x → Calls Tryz.prog 30 #[u, v] w fun e w' => e = .returned (.bool true) ∧ Below w.heap.size w w')
  (HSt : ∀ u v w, MT w u txp → MT w v txp → Calls Tryz.prog 30 #[u, v] w fun e w' => e = .returned (.bool true) ∧ Below w.heap.size w w')
  (HSq : ∀ u v w, MT w u xq → MT w v xq → Calls Tryz.prog 30 #[u, v] w fun e w' => e = .returned (.bool true) ∧ Below w.heap.size w w')
  (HT1 : ∀ u w, MT w u x → Calls Tryz.prog 33 #[u] w fun e w' => ∃ pv, e = .returned pv ∧ MT w' pv (tx) ∧ Below w.heap.size w w') (HT2 : ∀ u w, MT w u xp → Calls Tryz.prog 33 #[u] w fun e w' => ∃ pv, e = .returned pv ∧ MT w' pv (txp) ∧ Below w.heap.size w w')
  (HLn : ∀ w, Calls Tryz.prog 32 #[.slice none 0 0, .int .i64 (n : Int), .bool true] w fun e w' => (∃ u, e = .returned u ∧ ILs w' u ((List.range n).map Int.ofNat)) ∧ Below w.heap.size w w') (HLk : ∀ w, Calls Tryz.prog 32 #[.slice none 0 0, .int .i64 (k : Int), .bool true] w fun e w' => (∃ u, e = .returned u ∧ ILs w' u ((List.range k).map Int.ofNat)) ∧ Below w.heap.size w w') (HLb : ∀ w, Calls Tryz.prog 32 #[.slice none 0 0, .int .i64 (b : Int), .bool true] w fun e w' => (∃ u, e = .returned u ∧ ILs w' u ((List.range b).map Int.ofNat)) ∧ Below w.heap.size w w')
  (KR : World → Prop) (hKR : Keeps KR) (HLr : ∀ w, KR w → Calls Tryz.prog 32 #[.slice ra nr cr, .int .i64 (n : Int), .bool false] w fun e w' => (∃ u, e = .returned u ∧ ILs w' u ((at9).map Int.ofNat)) ∧ Below w.heap.size w w')
  (KC : World → Prop) (hKC : Keeps KC) (HLc : ∀ w, KC w → Calls Tryz.prog 32 #[.slice ca nc cc, .int .i64 (k : Int), .bool false] w fun e w' => (∃ u, e = .returned u ∧ ILs w' u ((on9).map Int.ofNat)) ∧ Below w.heap.size w w')
  (KG : World → Prop) (hKG : Keeps KG) (HLg : ∀ w, KG w → Calls Tryz.prog 32 #[.slice ga ng cg, .int .i64 (a : Int), .bool false] w fun e w' => (∃ u, e = .returned u ∧ ILs w' u ((pk9).map Int.ofNat)) ∧ Below w.heap.size w w')
  (HP1 : (∀ p s t w, MT w p x → ILs w s ((List.range n).map Int.ofNat) → ILs w t ((List.range k).map Int.ofNat) → Calls Tryz.prog 31 #[p, s, t] w fun e w' => ∃ pv, e = .returned (.tuple #[pv, .int .i64 0]) ∧ MT w' pv (x) ∧ Below w.heap.size w w')) (HP2 : (∀ p s t w, MT w p x → ILs w s ((at9).map Int.ofNat) → ILs w t ((on9).map Int.ofNat) → Calls Tryz.prog 31 #[p, s, t] w fun e w' => ∃ pv, e = .returned (.tuple #[pv, .int .i64 0]) ∧ MT w' pv (xp) ∧ Below w.heap.size w w')) (HP3 : (∀ p s t w, MT w p tx → ILs w s ((on9).map Int.ofNat) → ILs w t ((at9).map Int.ofNat) → Calls Tryz.prog 31 #[p, s, t] w fun e w' => ∃ pv, e = .returned (.tuple #[pv, .int .i64 0]) ∧ MT w' pv (txp) ∧ Below w.heap.size w w')) (HP4 : (∀ p s t w, MT w p xp → ILs w s ((pk9).map Int.ofNat) → ILs w t ((List.range b).map Int.ofNat) → Calls Tryz.prog 31 #[p, s, t] w fun e w' => ∃ pv, e = .returned (.tuple #[pv, .int .i64 0]) ∧ MT w' pv (xq) ∧ Below w.heap.size w w')) (HP5 : (∀ p s t w, MT w p x → ILs w s ((pk9.map fun i => at9.getD i 0).map Int.ofNat) → ILs w t ((on9).map Int.ofNat) → Calls Tryz.prog 31 #[p, s, t] w fun e w' => ∃ pv, e = .returned (.tuple #[pv, .int .i64 0]) ∧ MT w' pv (xq) ∧ Below w.heap.size w w'))
  (KT : World → Prop) (hKT : Keeps KT) (HW : ∀ w, KT w → Calls Tryz.prog 21 #[] w fun xe w' => xe = .returned (.bool true) ∧ Below w.heap.size w w')
  (hxr : (x.r : Int) = (n : Int)) (hxc : (x.c : Int) = (k : Int)) (hsr : ∀ p, ((SP p).r : Int) = (n : Int)) (hsc : ∀ p, ((SP p).c : Int) = (k : Int)) (hor : ∀ p, ((OU p).r : Int) = (n : Int)) (hoc : ∀ p, ((OU p).c : Int) = (k : Int)) (htr : (tx.r : Int) = (k : Int)) (htc : (tx.c : Int) = (n : Int)) (hpr : (xp.r : Int) = (a : Int)) (hpc : (xp.c : Int) = (b : Int)) (hqr : (txp.r : Int) = (b : Int)) (hqc : (txp.c : Int) = (a : Int)) (hur : (xq.r : Int) = (c : Int)) (huc : (xq.c : Int) = (b : Int))
  (hn : n ≤ 6) (hk : k ≤ 6) (ha : at9.length = a) (hb9 : on9.length = b) (hc9 : pk9.length = c) (a8 : a ≤ 8) (b8 : b ≤ 8) (c8 : c ≤ 8) (hCl : ∀ p, (CO p).length = n) (hUl : ∀ p, (UN p).length = k) (hSk : SP k = x) (hxl : x.l.length = n * k) (hpl : xp.l.length = a * b)
  (han : ∀ i, i < a → at9.getD i 0 < n) (hbn : ∀ j, j < b → on9.getD j 0 < k) (hcn : ∀ i, i < c → pk9.getD i 0 < a) (hev : ∀ i j, i < a → j < b → gv xp.l (i * b + j) = gv x.l (at9.getD i 0 * k + on9.getD j 0))
  (l_nr : decide ((8 : Int) < ((nr : Nat) : Int)) = false) (k_nr : decide (8 < nr) = false) (l_nc : decide ((8 : Int) < ((nc : Nat) : Int)) = false) (k_nc : decide (8 < nc) = false) (l_ng : decide ((8 : Int) < ((ng : Nat) : Int)) = false) (k_ng : decide (8 < ng) = false) (w : World) (kKA : KA w) (kKR : KR w) (kKC : KC w) (kKG : KG w) (kKT : KT w) :
  Calls Tryz.prog 4 #[.agg #[.int .u8 zr, .int .u8 zc, .slice la lx ly], .slice ra nr cr, .slice ca nc cc, .slice ga ng cg] w fun e w' => e = .returned (.bool true) ∧ Below w.heap.size w w' := by
 replace HFw := Lib.hid HFw
 replace HSd := Lib.hid HSd
 replace hKA := Lib.hid hKA
 replace HMo := Lib.hid HMo
 replace HMk := Lib.hid HMk
 replace HCo := Lib.hid HCo
 replace HUn := Lib.hid HUn
 replace HOu := Lib.hid HOu
 replace HAd := Lib.hid HAd
 replace HSx := Lib.hid HSx
 replace HSt := Lib.hid HSt
 replace HSq := Lib.hid HSq
 replace HT1 := Lib.hid HT1
 replace HT2 := Lib.hid HT2
 replace HLn := Lib.hid HLn
 replace HLk := Lib.hid HLk
 replace HLb := Lib.hid HLb
 replace hKR := Lib.hid hKR
 replace HLr := Lib.hid HLr
 replace hKC := Lib.hid hKC
 replace HLc := Lib.hid HLc
 replace hKG := Lib.hid hKG
 replace HLg := Lib.hid HLg
 replace HP1 := Lib.hid HP1
 replace HP2 := Lib.hid HP2
 replace HP3 := Lib.hid HP3
 replace HP4 := Lib.hid HP4
 replace HP5 := Lib.hid HP5
 replace hKT := Lib.hid hKT
 replace HW := Lib.hid HW
 replace hxr := Lib.hid hxr
 replace hxc := Lib.hid hxc
 replace hsr := Lib.hid hsr
 replace hsc := Lib.hid hsc
 replace hor := Lib.hid hor
 replace hoc := Lib.hid hoc
 replace htr := Lib.hid htr
 replace htc := Lib.hid htc
 replace hpr := Lib.hid hpr
 replace hpc := Lib.hid hpc
 replace hqr := Lib.hid hqr
 replace hqc := Lib.hid hqc
 replace hur := Lib.hid hur
 replace huc := Lib.hid huc
 replace hn := Lib.hid hn
 replace hk := Lib.hid hk
 replace ha := Lib.hid ha
 replace hb9 := Lib.hid hb9
 replace hc9 := Lib.hid hc9
 replace a8 := Lib.hid a8
 replace b8 := Lib.hid b8
 replace c8 := Lib.hid c8
 replace hCl := Lib.hid hCl
 replace hUl := Lib.hid hUl
 replace hSk := Lib.hid hSk
 replace hxl := Lib.hid hxl
 replace hpl := Lib.hid hpl
 replace han := Lib.hid han
 replace hbn := Lib.hid hbn
 replace hcn := Lib.hid hcn
 replace hev := Lib.hid hev
 have hL0 : GL w w [] := GL.start w
 obtain ⟨x1, hweq, hL0⟩ := GL.named (hL0.new rfl [.int .u8 zr, .int .u8 zc, .slice la lx ly] 51)
 go_enter Tryz.func4, Tryz.ntmps4
 go_upto_region 1 with fail
 have hZ0 := cells_of _ 0 [] rfl (hL0.get _ _ mZ)
 simp only [zF, Nat.reduceAdd] at hZ0
 clear hweq
 obtain ⟨x2, hweq, hL0⟩ := GL.named (hL0.new rfl [.int .u8 zr, .int .u8 zc, .slice la lx ly] 51)
 have hN0 := cells_of _ 0 [] rfl (hL0.get _ _ (mK mZ))
 simp only [zF, Nat.reduceAdd] at hN0
 have hbv1 : FWs x2 (.slice (some ⟨x1.heap.size, 0, none⟩) 1 1) [lx] := fws_one (hL0.get _ _ mZ)
 replace hbv1 := Lib.hid hbv1
 go_wp2_with fail
 clear hN0
 with_reducible refine Calls.mono (HFw.out (.slice (some ⟨x1.heap.size, 0, none⟩) 1 1) _ hbv1.out) ?_
 rintro e x3 ⟨rfl, hb⟩
 replace hL0 := hL0.call hb
 clear hb hweq hZ0 hbv1
 have hN0 := cells_of _ 0 [] rfl (hL0.get _ _ (mK mZ))
 simp only [zF, Nat.reduceAdd] at hN0
 go_wp2_with fail
 clear hN0
 with_reducible refine Calls.mono (HSd.out _) ?_
 rintro e x4 ⟨rfl, hb⟩
 replace hL0 := hL0.call hb
 clear hb
 have hN0 := cells_of _ 0 [] rfl (hL0.get _ _ (mK mZ))
 simp only [zF, Nat.reduceAdd] at hN0
 go_wp2_with fail
 clear hN0
 with_reducible refine Calls.mono (HMo.out _ (hKA.out.at hL0.bl kKA)) ?_
 rintro e x5 ⟨v0, rfl, q0, hb⟩
 replace hL0 := hL0.call hb
 clear hb
 obtain ⟨g1, d1, c1, rfl, hm1, hcp⟩ := mt_form q0 hxr.out hxc.out
 clear q0
 replace hcp := Lib.hid hcp
 replace hL0 := hL0.new rfl [.int .i64 (n : Int), .int .i64 (k : Int), .slice g1 d1 c1] 56
 have hb := (Below.refl x5.heap.size x5).alloc (Nat.le_refl _) (.cells #[.int .i64 (n : Int), .int .i64 (k : Int), .slice g1 d1 c1] 56)
 generalize hweq : x5.alloc (.cells #[.int .i64 (n : Int), .int .i64 (k : Int), .slice g1 d1 c1] 56) = x6 at hL0 hb
 replace hm1 := hm1.below hb
 clear hb
 go_wp2_with fail
 with_reducible refine Calls.mono (HMk.out _) ?_
 rintro e y0 ⟨v1, rfl, q0, hb⟩
 replace hL0 := hL0.call hb
 replace hm1 := hm1.below hb
 clear hb hweq
 obtain ⟨gs, ds, cs, rfl, hS, hds⟩ := mt_form q0 (hsr.out 0) (hsc.out 0)
 clear q0
 have hM := (GL.start y0).new rfl [.int .i64 (n : Int), .int .i64 (k : Int), .slice gs ds cs] 56
 generalize hweq : y0.alloc (.cells #[.int .i64 (n : Int), .int .i64 (k : Int), .slice gs ds cs] 56) = y1 at hM
 replace hS := hS.below hM.bl
 go_wp2_with fail
 clear hweq
 go_loopg [14] k (fun gk iv wr => ∃ (p : Nat) (zp : Int) (gs : Option Addr) (ds cs : Nat), p + gk = k ∧ iv = .int .i64 zp ∧ zp = (p : Int) ∧ GL y0 wr [(y0.heap.size, [.int .i64 (n : Int), .int .i64 (k : Int), .slice gs ds cs])] ∧ PT wr (.slice gs ds cs) (SP p).l ∧ ds ≤ cs)
 case atStart => exact ⟨0, 0, gs, ds, cs, Nat.zero_add k, by first | rfl | go_num, rfl, hM, hS, hds⟩
 case round =>
  clear hM hS hds
  obtain ⟨p, zp, gs, ds, cs, hpk, rfl, hzp, hM, hS, hds⟩ := hrel
  have hL1 := hL0.call hM.bl
  have hm2 := hm1.below hM.bl
  have hA := hL1.fc
  simp only [zF, Nat.reduceAdd] at hA
  have hA2 := hM.fc
  simp only [zF, Nat.reduceAdd] at hA2
  rcases Nat.lt_or_ge p k with hp | hp
  ·subst hzp
   have k1 : (p : Int) < (k : Int) := by omega
   have k0 : (0 : Int) ≤ (p : Int) := Int.natCast_nonneg _
   have kb : (p : Int) ≤ 6 := by have := hk.out; omega
   go_wp2_with fail
   with_reducible refine Calls.mono (HCo.out p hp _ _ (mt_of hm2 hcp.out hxr.out hxc.out)) ?_
   rintro e z1 ⟨cv, rfl, hC, hb⟩
   replace hM := hM.call hb
   replace hS := hS.below hb
   clear hb hA hA2 hL1 hm2
   obtain ⟨co, cc9, rfl⟩ := ptn_form hC (hCl.out p)
   go_wp2_with fail
   with_reducible refine Calls.mono (HUn.out p hp _) ?_
   rintro e z2 ⟨uv, rfl, hU, hb⟩
   replace hM := hM.call hb
   replace hS := hS.below hb
   replace hC := hC.below hb
   clear hb
   obtain ⟨uo, uc9, rfl⟩ := ptn_form hU (hUl.out p)
   go_wp2_with fail
   with_reducible refine Calls.mono (HOu.out p hp _ _ _ hC hU) ?_
   rintro e z3 ⟨ov, rfl, q0, hb⟩
   replace hM := hM.call hb
   replace hS := hS.below hb
   clear hb hC hU
   obtain ⟨go9, do9, co9, rfl, hO, hdo⟩ := mt_form q0 (hor.out p) (hoc.out p)
   clear q0
   have hM3 := (GL.start z3).new rfl [.int .i64 (n : Int), .int .i64 (k : Int), .slice go9 do9 co9] 56
   replace hM := hM.new rfl [.int .i64 (n : Int), .int .i64 (k : Int), .slice go9 do9 co9] 56
   generalize hweq : z3.alloc (.cells #[.int .i64 (n : Int), .int .i64 (k : Int), .slice go9 do9 co9] 56) = z4 at hM hM3
   replace hS := hS.below hM3.bl
   replace hO := hO.below hM3.bl
   clear hM3
   have hA := hM.fc
   simp only [zF, Nat.reduceAdd] at hA
   go_wp2_with fail
   with_reducible refine Calls.mono (HAd.out p hp _ _ _ (mt_of hS hds (hsr.out p) (hsc.out p)) (mt_of hO hdo (hor.out p) (hoc.out p))) ?_
   rintro e z5 ⟨sv, rfl, q0, hb⟩
   replace hM := hM.call hb
   clear hb hA hS hO hweq
   obtain ⟨gt, dt, ct, rfl, hS, hdt⟩ := mt_form q0 (hsr.out (p + 1)) (hsc.out (p + 1))
   clear q0
   have hA := hM.fc
   simp only [zF, Nat.reduceAdd] at hA
   have hu := setAll_upd y0.heap.size [.int .i64 (n : Int), .int .i64 (k : Int), .slice gt dt ct] 0 z5
   have hd9 := hM.get _ _ (mK mZ)
   have hP := hM.put 1 y0.heap.size _ rfl [.int .i64 (n : Int), .int .i64 (k : Int), .slice gt dt ct] rfl
   obtain ⟨z6, hy⟩ : ∃ y, setAll z5 y0.heap.size 0 [.int .i64 (n : Int), .int .i64 (k : Int), .slice gt dt ct] = y := ⟨_, rfl⟩
   rw [hy] at hP hu
   replace hS := slq_pint hS hu hd9
   simp only [setAll, Nat.zero_add, Nat.reduceAdd] at hy
   simp only [List.set_cons_zero, List.set_cons_succ] at hP
   clear hM hu hd9
   go_wp2_with fail
   go_roundg (k - (p + 1))
   case measure => omega
   case rel => exact ⟨p + 1, _, gt, dt, ct, by omega, by first | rfl | go_num, by omega, hP.tail9, hS, hdt⟩
  ·obtain rfl : k = p := by omega
   subst hzp
   have k1 : ¬ (k : Int) < (k : Int) := by omega
   rw [hSk.out] at hS
   go_wp2_with fail
   with_reducible refine Calls.mono (HSx.out _ _ _ (mt_of hS hds hxr.out hxc.out) (mt_of hm2 hcp.out hxr.out hxc.out)) ?_
   rintro e z1 ⟨rfl, hb⟩
   replace hL1 := hL1.call hb
   replace hm2 := hm2.below hb
   clear hb hA hA2 hS hds hm1 hL0 hM
   have hL0 := hL1
   have hm1 := hm2
   clear hL1 hm2
   go_upto_region 15 with fail
   refine region_tbl 10 8 [EV (.agg #[.int .i64 (n : Int), .int .i64 (k : Int), .slice g1 d1 c1]), EV (.int .i64 (n : Int)), PI ((List.range n).map Int.ofNat), EV (.int .i64 (k : Int)), PI ((List.range k).map Int.ofNat), MEp x 0, MEp x 0, PM x, EV (.int .i64 0), NewB z1.heap.size [.int .i64 0, .int .i64 0, .slice none 0 0]] [9] (by kernel_rfl) (by kernel_rfl) ?_ ?_ ?_ ?_ ?_ (by kernel_rfl) ?_
   ·exact (stays_cons (stays_eq _) (stays_cons (stays_eq _) (stays_cons (stays_pi _) (stays_cons (stays_eq _) (stays_cons (stays_pi _) (stays_cons (stays_me _ _) (stays_cons (stays_me _ _) (stays_cons (stays_pm _) (stays_cons (stays_eq _) (stays_cons (stays_new _ _) stays_nil))))))))))
   ·simp only [List.take_succ_cons, List.take_zero, hopsR, and_true]
    refine ⟨?_, ?_, ?_, ?_, ?_, ?_, ?_, ?_, ?_, ?_⟩ <;> intro fv w1 hb1 hp
    all_goals (have hc := (hL0.call (below_drew hb1)).fc; simp only [zF, Nat.reduceAdd] at hc; simp only [putsV, Act.put, zP, Nat.zero_add, Nat.reduceAdd])
    ·refine tyAt_none rfl ?_
     simp [tyUpon, execOp, go_sem, Act.eval, hc, Below.refl]
    ·refine tyAt_none rfl ?_
     simp [tyUpon, execOp, go_sem, Act.eval, Below.refl]
    ·have h1 : (EV (.int .i64 (n : Int))) (fv 1) w1 := hp 1 (LC (by kernel_rfl))
     refine tyAt_none rfl ?_
     refine ty_call (f := 32) (args := #[.slice none 0 0, .int .i64 (n : Int), .bool true]) (by simp [execOp, go_sem, Act.eval, h1]) ?_
     exact (HLn.out w1).mono fun e w2 ⟨⟨u, h1, h2⟩, h3⟩ => ⟨_, h1, h2, h3⟩
    ·refine tyAt_none rfl ?_
     simp [tyUpon, execOp, go_sem, Act.eval, Below.refl]
    ·have h3 : (EV (.int .i64 (k : Int))) (fv 3) w1 := hp 3 (LC (by kernel_rfl))
     refine tyAt_none rfl ?_
     refine ty_call (f := 32) (args := #[.slice none 0 0, .int .i64 (k : Int), .bool true]) (by simp [execOp, go_sem, Act.eval, h3]) ?_
     exact (HLk.out w1).mono fun e w2 ⟨⟨u, h1, h2⟩, h3⟩ => ⟨_, h1, h2, h3⟩
    ·have h0 : (EV (.agg #[.int .i64 (n : Int), .int .i64 (k : Int), .slice g1 d1 c1])) (fv 0) w1 := hp 0 (LC (by kernel_rfl))
     have h2 : (PI ((List.range n).map Int.ofNat)) (fv 2) w1 := hp 2 (LC (by kernel_rfl))
     have h4 : (PI ((List.range k).map Int.ofNat)) (fv 4) w1 := hp 4 (LC (by kernel_rfl))
     refine tyAt_none rfl ?_
     refine ty_call (f := 31) (args := #[.agg #[.int .i64 (n : Int), .int .i64 (k : Int), .slice g1 d1 c1], fv 2, fv 4]) (by simp [execOp, go_sem, Act.eval, h0]) ?_
     exact (HP1.out _ _ _ w1 (mt_of (PT.below hm1 (below_drew hb1)) hcp.out hxr.out hxc.out) h2 h4).mono fun e w2 ⟨pv, h1, h2, h3⟩ => ⟨_, h1, ⟨pv, rfl, h2⟩, h3⟩
    ·have h5 : (MEp x 0) (fv 5) w1 := hp 5 (LC (by kernel_rfl))
     refine tyAt_none rfl ?_
     simp [tyUpon, execOp, go_sem, Act.eval, Below.refl]
     exact h5
    ·have h6 : (MEp x 0) (fv 6) w1 := hp 6 (LC (by kernel_rfl))
     refine tyAt_none rfl ?_
     obtain ⟨pa9, pe9, pz9⟩ := h6
     simp [tyUpon, execOp, go_sem, Act.eval, pe9, Below.refl]
     exact pz9
    ·have h6 : (MEp x 0) (fv 6) w1 := hp 6 (LC (by kernel_rfl))
     refine tyAt_none rfl ?_
     obtain ⟨pa9, pe9, pz9⟩ := h6
     simp [tyUpon, execOp, go_sem, Act.eval, pe9, Below.refl]
    ·exact tyAt_new rfl rfl new_mat (below_drew hb1).size
   ·intro j hj u w2 hT
    simp only [List.contains_iff_mem, List.mem_cons, List.not_mem_nil, or_false] at hj
    rcases hj with rfl <;> exact NewB.ptr hT
   ·exact ⟨⟨_, _, _, _, rfl, rfl, rfl, new_mat⟩, trivial⟩
   ·intro fv wl hb1 hv
    obtain ⟨g2, d2, c2, e7, -, -⟩ := mt_form (show MT wl (fv 7) x from hv 7 (by omega) (by omega)) hxr.out hxc.out
    obtain ⟨u6, e6, -⟩ : MEp x 0 (fv 6) wl := hv 6 (by omega) (by omega)
    obtain ⟨kb, e9, n9, m9⟩ : NewB z1.heap.size [.int .i64 0, .int .i64 0, .slice none 0 0] (fv 9) wl := hv 9 (by omega) (by omega)
    have hX9 := (GL.tnew (M := []) (hL0.call (below_drew hb1)) hL0 n9 m9 (fun p hp => by cases hp))
    simp only [List.nil_append] at hX9
    have hA := hX9.fc
    simp only [zF, Nat.reduceAdd] at hA
    have hPx := hX9.put 0 kb _ rfl [.int .i64 (n : Int), .int .i64 (k : Int), .slice g2 d2 c2] rfl
    simp only [setAll, List.set_cons_zero, List.set_cons_succ, Nat.zero_add, Nat.reduceAdd] at hPx
    have hB1 := hPx.fc
    simp only [zF, Nat.reduceAdd] at hB1
    refine ⟨(((wl.setCell ⟨kb, 0, none⟩ (.int .i64 (n : Int))).setCell ⟨kb, 1, none⟩ (.int .i64 (k : Int))).setCell ⟨kb, 2, none⟩ (.slice g2 d2 c2)), .int .i64 0, fun o ho => ?_, fun o ho => ?_, rfl⟩
    ·obtain rfl := Option.some.inj ho
     simp [execOp, go_sem, Act.eval, putsV, Act.put, List.take_succ_cons, List.take_zero, zP, Nat.zero_add, Nat.reduceAdd, hA, e6, e7, e9]
    ·obtain rfl := Option.some.inj ho
     simp [execOp, go_sem, Act.eval, putsV, Act.put, List.take_succ_cons, List.take_zero, zP, Nat.zero_add, Nat.reduceAdd, hB1, e6, e7, e9]
   ·intro fv u1 hb1 hv hne
    have e0 : fv 0 = _ := hv 0 (by omega)
    have e1 : fv 1 = _ := hv 1 (by omega)
    have e3 : fv 3 = _ := hv 3 (by omega)
    have e8 : fv 8 = _ := hv 8 (by omega)
    obtain ⟨u5, e5, -⟩ : MEp x 0 (fv 5) u1 := hv 5 (by omega)
    obtain ⟨u6, e6, -⟩ : MEp x 0 (fv 6) u1 := hv 6 (by omega)
    obtain ⟨g2, d2, c2, e7, hW2, hd2⟩ := mt_form (show MT u1 (fv 7) x from hv 7 (by omega)) hxr.out hxc.out
    obtain ⟨kb, e9, n9, m9⟩ : NewB z1.heap.size [.int .i64 0, .int .i64 0, .slice none 0 0] (fv 9) u1 := hv 9 (by omega)
    have hx0 := hL0
    replace hL0 := hL0.call (below_drew hb1)
    replace hL0 := GL.tnew (M := []) hL0 hx0 n9 m9 (fun p hp => by cases hp)
    simp only [List.nil_append] at hL0
    simp only [List.take_succ_cons, List.take_zero, putsV, Act.put, zP, List.drop_succ_cons, List.drop_zero, Nat.zero_add, Nat.reduceAdd, e0, e1, e3, e8, e5, e6, e7, e9]
    have hbd := below_drew hb1
    have hA := hL0.fc
    simp only [zF, Nat.reduceAdd] at hA
    have hP := hL0.put 0 kb _ rfl [.int .i64 (n : Int), .int .i64 (k : Int), .slice g2 d2 c2] rfl
    have hu9 := setAll_upd kb [.int .i64 (n : Int), .int .i64 (k : Int), .slice g2 d2 c2] 0 u1
    obtain ⟨z2, hy⟩ : ∃ q, setAll u1 kb 0 [.int .i64 (n : Int), .int .i64 (k : Int), .slice g2 d2 c2] = q := ⟨_, rfl⟩
    rw [hy] at hP hu9
    replace hW2 := slq_pint hW2 hu9 n9
    have hb4 : Below z1.heap.size z1 z2 := hbd.trans (hu9.below m9)
    simp only [setAll, Nat.zero_add, Nat.reduceAdd] at hy
    simp only [List.set_cons_zero, List.set_cons_succ] at hP
    clear hL0
    have hL0 := hP
    clear hP
    replace hm1 := hm1.below hb4
    have hB := hL0.fc
    simp only [zF, Nat.reduceAdd] at hB
    clear hbd hb4 hb1 hv hne hx0 n9 m9 hu9 e0 e1 e3 e8 e5 e6 e7 e9
    generalize fv 2 = q2
    generalize fv 4 = q4
    skip
    go_wp2_with fail
    with_reducible refine Calls.mono (HLr.out _ (hKR.out.at hL0.bl kKR)) ?_
    rintro e z3 ⟨⟨pv3, rfl, hAt⟩, hb⟩
    replace hL0 := hL0.call hb
    replace hm1 := hm1.below hb
    replace hW2 := hW2.below hb
    clear hb hA hB hy
    obtain ⟨ao, ac, rfl, -⟩ := il_form9 hAt ha.out
    go_wp2_with fail
    with_reducible refine Calls.mono (HLc.out _ (hKC.out.at hL0.bl kKC)) ?_
    rintro e z4 ⟨⟨pv4, rfl, hOn⟩, hb⟩
    replace hL0 := hL0.call hb
    replace hm1 := hm1.below hb
    replace hW2 := hW2.below hb
    replace hAt := hAt.below hb
    clear hb
    obtain ⟨oo, oc, rfl, -⟩ := il_form9 hOn hb9.out
    have hA := hL0.fc
    simp only [zF, Nat.reduceAdd] at hA
    go_wp2_with fail
    with_reducible refine Calls.mono (HP2.out _ _ _ _ (mt_of hm1 hcp.out hxr.out hxc.out) hAt hOn) ?_
    rintro e z5 ⟨v3, rfl, q0, hb⟩
    replace hL0 := hL0.call hb
    replace hm1 := hm1.below hb
    replace hW2 := hW2.below hb
    replace hAt := hAt.below hb
    replace hOn := hOn.below hb
    clear hb hA
    obtain ⟨g3, d3, c3, rfl, hp3, hd3⟩ := mt_form q0 hpr.out hpc.out
    clear q0
    replace hL0 := hL0.new rfl [.int .i64 (a : Int), .int .i64 (b : Int), .slice g3 d3 c3] 56
    have hb := (Below.refl z5.heap.size z5).alloc (Nat.le_refl _) (.cells #[.int .i64 (a : Int), .int .i64 (b : Int), .slice g3 d3 c3] 56)
    generalize hweq : z5.alloc (.cells #[.int .i64 (a : Int), .int .i64 (b : Int), .slice g3 d3 c3] 56) = z6 at hL0 hb
    replace hm1 := hm1.below hb
    replace hW2 := hW2.below hb
    replace hAt := hAt.below hb
    replace hOn := hOn.below hb
    replace hp3 := hp3.below hb
    clear hb
    have hA := hL0.fc
    simp only [zF, Nat.reduceAdd] at hA
    have hdl := slq_lenN hp3
    rw [hpl.out] at hdl
    have hab9 : (a : Int) * (b : Int) = (d3 : Int) := by rw [hdl, Int.natCast_mul]
    have hab8 : d3 ≤ 64 := by rw [hdl]; exact Nat.mul_le_mul a8.out b8.out
    have hd0 : (0 : Int) ≤ (d3 : Int) := Int.natCast_nonneg _
    have hdb : (d3 : Int) ≤ 64 := by omega
    replace hdl := Lib.hid hdl
    replace hd3 := Lib.hid hd3
    replace hd2 := Lib.hid hd2
    go_wp2_with fail
    with_reducible refine Calls.mono (HSx.out _ _ _ (mt_of hW2 hd2.out hxr.out hxc.out) (mt_of hm1 hcp.out hxr.out hxc.out)) ?_
    rintro e y2 ⟨rfl, hb⟩
    replace hL0 := hL0.call hb
    replace hm1 := hm1.below hb
    replace hAt := hAt.below hb
    replace hOn := hOn.below hb
    replace hp3 := hp3.below hb
    clear hb hA hweq hW2
    have hA := hL0.fc
    simp only [zF, Nat.reduceAdd] at hA
    go_wp2_with fail
    clear hA hab9
    go_loopg [27] a (fun gk iv wr => ∃ (i : Nat) (zi : Int), i + gk = a ∧ iv = .int .i64 zi ∧ zi = (i : Int) ∧ Below y2.heap.size y2 wr)
    case atStart => exact ⟨0, 0, Nat.zero_add a, by first | rfl | go_num, rfl, Below.refl _ _⟩
    case round =>
     obtain ⟨i, zi, hia, rfl, hzi, hb⟩ := hrel
     have hL1 := hL0.call hb
     have hA := hL1.fc
     simp only [zF, Nat.reduceAdd] at hA
     rcases Nat.lt_or_ge i a with hi | hi
     ·subst hzi
      have k1 : (i : Int) < (a : Int) := by omega
      have k0 : (0 : Int) ≤ (i : Int) := Int.natCast_nonneg _
      have kb : (i : Int) ≤ 8 := by have := a8.out; omega
      obtain ⟨ao9, ac9, haf, hae⟩ := il_form9 hAt ha.out
      obtain ⟨rfl, rfl⟩ : ao = ao9 ∧ ac = ac9 := by simpa using haf
      obtain ⟨ag, hag, hac⟩ := hae i (by rw [ha.out]; exact hi)
      subst hag
      clear haf hae
      rw [getD_get9] at hac
      have hain := han.out i hi
      obtain ⟨ai, hai⟩ : ∃ q, q = at9.getD i 0 := ⟨_, rfl⟩
      rw [← hai] at hac hain
      replace hai := Lib.hid hai
      replace hac := Lib.hid hac
      go_wp2_with fail
      obtain ⟨wo, hwo⟩ : ∃ wo, wo = wr := ⟨_, rfl⟩
      subst hwo
      clear hA hL1
      go_loopg [28] b (fun gk2 jv wr => ∃ (j : Nat) (zj : Int), j + gk2 = b ∧ jv = .int .i64 zj ∧ zj = (j : Int) ∧ Below y2.heap.size y2 wr)
      case atStart => exact ⟨0, 0, Nat.zero_add b, by first | rfl | go_num, rfl, hb⟩
      case round =>
       clear hb
       obtain ⟨j, zj, hjb, rfl, hzj, hb⟩ := hrel
       have hL1 := hL0.call hb
       have hA := hL1.fc
       simp only [zF, Nat.reduceAdd] at hA
       rcases Nat.lt_or_ge j b with hj | hj
       ·subst hzj
        have n1 : (j : Int) < (b : Int) := by omega
        have n0 : (0 : Int) ≤ (j : Int) := Int.natCast_nonneg _
        have nb9 : (j : Int) ≤ 8 := by have := b8.out; omega
        obtain ⟨oo9, oc9, hof, hoe⟩ := il_form9 hOn hb9.out
        obtain ⟨rfl, rfl⟩ : oo = oo9 ∧ oc = oc9 := by simpa using hof
        obtain ⟨og, hog, hoc⟩ := hoe j (by rw [hb9.out]; exact hj)
        subst hog
        clear hof hoe
        rw [getD_get9] at hoc
        have hbjn := hbn.out j hj
        have hvv := hev.out i j hi hj
        rw [← hai.out] at hvv
        obtain ⟨bj, hbj⟩ : ∃ q, q = on9.getD j 0 := ⟨_, rfl⟩
        rw [← hbj] at hoc hbjn hvv
        clear hbj
        have i1 : i * b + j < a * b := ix_lt hi hj
        have i2 : ai * k + bj < n * k := ix_lt hain hbjn
        have s1 : i * b ≤ 8 * 8 := Nat.mul_le_mul (by omega) b8.out
        have s2 : ai * k ≤ 6 * 6 := Nat.mul_le_mul (by have := hn.out; omega) hk.out
        obtain ⟨gp, e1, -, fp⟩ := slq_pos (hp3.below hb) (by rw [hpl.out]; omega)
        subst e1
        obtain ⟨gx9, e2, -, fx⟩ := slq_pos (hm1.below hb) (by rw [hxl.out]; omega)
        subst e2
        obtain ⟨p0, p1, p2, p3, p4⟩ := fsc fp (i * b + j) (by rw [hpl.out]; exact i1)
        obtain ⟨r0, r1, r2, r3, r4⟩ := fsc fx (ai * k + bj) (by rw [hxl.out]; exact i2)
        rw [← hvv] at r0 r1 r2 r3 r4
        clear hvv fp fx
        obtain ⟨q, hq⟩ : ∃ q, q = gv xp.l (i * b + j) := ⟨_, rfl⟩
        rw [← hq] at p0 p1 p2 p3 p4 r0 r1 r2 r3 r4
        clear hq
        have hd1 := slq_lenN hm1
        rw [hxl.out] at hd1
        obtain ⟨ib, hib⟩ : ∃ z, z = i * b := ⟨_, rfl⟩
        obtain ⟨ak, hak⟩ : ∃ z, z = ai * k := ⟨_, rfl⟩
        rw [← hib] at p0 p1 p2 p3 p4 i1 s1
        rw [← hak] at r0 r1 r2 r3 r4 i2 s2
        have hib2 : (i : Int) * (b : Int) = (ib : Int) := by rw [hib, Int.natCast_mul]
        have hak2 : (ai : Int) * (k : Int) = (ak : Int) := by rw [hak, Int.natCast_mul]
        clear hib hak
        obtain ⟨q1, hq1⟩ : ∃ z, z = ib + j := ⟨_, rfl⟩
        obtain ⟨q2, hq2⟩ : ∃ z, z = ak + bj := ⟨_, rfl⟩
        rw [← hq1] at p0 p1 p2 p3 p4 i1
        rw [← hq2] at r0 r1 r2 r3 r4 i2
        have hq3 : (ib : Int) + (j : Int) = (q1 : Int) := by omega
        have hq4 : (ak : Int) + (bj : Int) = (q2 : Int) := by omega
        have t1 : (q1 : Int) < (d3 : Int) := by have := hdl.out; omega
        have t2 : (q2 : Int) < (d1 : Int) := by omega
        have b1 : (ib : Int) ≤ 64 := by omega
        have b2 : (ak : Int) ≤ 36 := by omega
        have b3 : (q1 : Int) ≤ 100 := by omega
        have b4 : (q2 : Int) ≤ 100 := by have := hn.out; have := hk.out; omega
        have z1' : (0 : Int) ≤ (q1 : Int) := Int.natCast_nonneg _
        have z2' : (0 : Int) ≤ (q2 : Int) := Int.natCast_nonneg _
        have z3' : (0 : Int) ≤ (ib : Int) := Int.natCast_nonneg _
        have z4' : (0 : Int) ≤ (ak : Int) := Int.natCast_nonneg _
        have z5' : (0 : Int) ≤ (ai : Int) := Int.natCast_nonneg _
        have z6' : (0 : Int) ≤ (bj : Int) := Int.natCast_nonneg _
        have z7' : (ai : Int) ≤ 6 := by have := hn.out; omega
        have z8' : (bj : Int) ≤ 6 := by have := hk.out; omega
        clear hq1 hq2 i1 i2 s1 s2 hd1 hain hbjn
        have hac2 := keepsC hb hac.out
        replace hoc := keepsC hb hoc
        have hne : ∀ W, (binOp .neq 36 (fracV q) (fracV q)).run Tryz.prog W = .ok (.bool false) W := fun W => by have := run_neqF q q true (by simp) W; exact this
        go_upto_region 26 with fail
        go_region
        replace hb := hb.trans ((Below.refl wr.heap.size wr).drew.mono hb.size)
        clear p0 p1 p2 p3 p4 r0 r1 r2 r3 r4 hac2 hoc hA hL1
        go_wp2_with fail
        go_roundg (b - (j + 1))
        case measure => omega
        case rel => exact ⟨j + 1, _, by omega, by first | rfl | go_num, by omega, hb⟩
       ·obtain rfl : b = j := by omega
        subst hzj
        have n1 : ¬ (b : Int) < (b : Int) := by omega
        go_wp2_with fail
        go_roundg (a - (i + 1))
        case measure => omega
        case rel => exact ⟨i + 1, _, by omega, by first | rfl | go_num, by omega, hb⟩
     ·obtain rfl : a = i := by omega
      subst hzi
      have k1 : ¬ (a : Int) < (a : Int) := by omega
      replace hm1 := hm1.below hb
      replace hAt := hAt.below hb
      replace hOn := hOn.below hb
      replace hp3 := hp3.below hb
      clear hb hL0
      have hL0 := hL1
      clear hL1 hdb hd0 hab8
      go_wp2_with fail
      with_reducible refine Calls.mono (HT1.out _ _ (mt_of hm1 hcp.out hxr.out hxc.out)) ?_
      rintro e u1 ⟨v4, rfl, q0, hb⟩
      replace hL0 := hL0.call hb
      replace hm1 := hm1.below hb
      replace hAt := hAt.below hb
      replace hOn := hOn.below hb
      replace hp3 := hp3.below hb
      clear hb hA
      obtain ⟨g4, d4, c4, rfl, hq4, hd4⟩ := mt_form q0 htr.out htc.out
      clear q0
      go_wp2_with fail
      with_reducible refine Calls.mono (HP3.out _ _ _ _ (mt_of hq4 hd4 htr.out htc.out) hOn hAt) ?_
      rintro e u2 ⟨v5, rfl, q0, hb⟩
      replace hL0 := hL0.call hb
      replace hm1 := hm1.below hb
      replace hAt := hAt.below hb
      replace hOn := hOn.below hb
      replace hp3 := hp3.below hb
      clear hb
      obtain ⟨g5, d5, c5, rfl, hq5, hd5⟩ := mt_form q0 hqr.out hqc.out
      clear q0 hq4 hd4
      replace hL0 := hL0.new rfl [.int .i64 (b : Int), .int .i64 (a : Int), .slice g5 d5 c5] 56
      have hb := (Below.refl u2.heap.size u2).alloc (Nat.le_refl _) (.cells #[.int .i64 (b : Int), .int .i64 (a : Int), .slice g5 d5 c5] 56)
      generalize hweq : u2.alloc (.cells #[.int .i64 (b : Int), .int .i64 (a : Int), .slice g5 d5 c5] 56) = u3 at hL0 hb
      replace hm1 := hm1.below hb
      replace hAt := hAt.below hb
      replace hOn := hOn.below hb
      replace hp3 := hp3.below hb
      replace hq5 := hq5.below hb
      clear hb
      replace hd5 := Lib.hid hd5
      go_wp2_with fail
      with_reducible refine Calls.mono (HLg.out _ (hKG.out.at hL0.bl kKG)) ?_
      rintro e y4 ⟨⟨pv5, rfl, hPk⟩, hb⟩
      replace hL0 := hL0.call hb
      replace hm1 := hm1.below hb
      replace hAt := hAt.below hb
      replace hOn := hOn.below hb
      replace hp3 := hp3.below hb
      replace hq5 := hq5.below hb
      clear hb hweq
      obtain ⟨po, pc9, rfl, -⟩ := il_form9 hPk hc9.out
      obtain ⟨th9, hth9⟩ : ∃ l, l = pk9.map fun i => at9.getD i 0 := ⟨_, rfl⟩
      replace hth9 := Lib.hid hth9
      go_wp2_with fail
      go_loopg [32, 33] c (fun gk fv iv wr => ∃ (i : Nat) (zi : Int) (fp : Option Addr) (ft fc : Nat), i + gk = c ∧ fv = .slice fp ft fc ∧ iv = .int .i64 zi ∧ zi = (i : Int) ∧ ft = i ∧ wr.ownsRow y4.heap.size 3 1 (.slice fp ft fc) ft (pvE (th9.take i)) ∧ Below y4.heap.size y4 wr)
      case atStart => exact ⟨0, 0, none, 0, 0, Nat.zero_add c, rfl, by first | rfl | go_num, rfl, rfl, World.ownsRow_nil _ _ _ _, Below.refl _ _⟩
      case round =>
       obtain ⟨i, zi, fp, ft, fc, hic, rfl, rfl, hzi, hft, hown, hb⟩ := hrel
       replace hft := Lib.hid hft
       rcases Nat.lt_or_ge i c with hi | hi
       ·subst hzi
        have k1 : (i : Int) < (c : Int) := by omega
        have k0 : (0 : Int) ≤ (i : Int) := Int.natCast_nonneg _
        have kb : (i : Int) ≤ 8 := by have := c8.out; omega
        obtain ⟨po9, pc8, hpf, hpe⟩ := il_form9 (hPk.below hb) hc9.out
        obtain ⟨rfl, rfl⟩ : po = po9 ∧ pc9 = pc8 := by simpa using hpf
        obtain ⟨pg, hpg, hcl⟩ := hpe i (by rw [hc9.out]; exact hi)
        subst hpg
        clear hpf hpe
        have hip : i < pk9.length := by rw [hc9.out]; exact hi
        rw [getD_get9] at hcl
        have hpa := hcn.out i hi
        have htk : th9.take (i + 1) = th9.take i ++ [at9.getD (pk9.getD i 0) 0] := by rw [hth9.out, List.take_succ_eq_append_getElem (by rw [List.length_map]; exact hip), List.getElem_map, getD_get9]
        obtain ⟨pi9, hpi⟩ : ∃ q, q = pk9.getD i 0 := ⟨_, rfl⟩
        rw [← hpi] at hcl hpa htk
        clear hpi hip
        obtain ⟨ao9, ac9, haf, hae⟩ := il_form9 (hAt.below hb) ha.out
        obtain ⟨rfl, rfl⟩ : ao = ao9 ∧ ac = ac9 := by simpa using haf
        obtain ⟨ag, hag, hac⟩ := hae pi9 (by rw [ha.out]; exact hpa)
        subst hag
        clear haf hae
        rw [getD_get9] at hac
        obtain ⟨v, hv⟩ : ∃ q, q = at9.getD pi9 0 := ⟨_, rfl⟩
        rw [← hv] at hac htk
        clear hv
        replace htk := Lib.hid htk
        have p1 : (pi9 : Int) < (a : Int) := by omega
        have p0 : (0 : Int) ≤ (pi9 : Int) := Int.natCast_nonneg _
        have pb : (pi9 : Int) ≤ 8 := by have := a8.out; omega
        have hM := (GL.start wr).new rfl [.int .i64 (v : Int)] 3
        generalize hweq : wr.alloc (.cells #[.int .i64 (v : Int)] 3) = yd at hM
        have hcu := (hM.get _ _ mZ).cell 0 (by simp)
        simp only [List.getElem_cons_zero] at hcu
        have hwy := hM.bl
        have hown2 := own_chs (S := fun _ => False) hown (Chs.of_below hwy) (fun _ _ h => h)
        have hb2 := hb.trans (hwy.mono hb.size)
        replace hcu := Lib.hid hcu
        replace hown2 := Lib.hid hown2
        have hft6 := Lib.hid (show ft ≤ 1000 by rw [hft.out]; have := c8.out; omega)
        clear hM hwy hown hb
        go_wp2_with (at_builtin; refine wp_appendI rfl _ _ rfl y4.heap.size (.slice fp ft fc) ft (pvE (th9.take i)) rfl hown2.out ⟨_, 0, none⟩ (v : Int) 1 rfl hcu.out (by have := hft6.out; omega) hb2.size ?_)
        intro v' w8 h8 hgr hor
        obtain ⟨va, vc, rfl⟩ := own_form12 h8
        have hlt9 := hown2.out.lt
        have hb8 := hb2.trans ((Chs.of_grown hgr).below hb2.size fun z hz e => by have := (hlt9 z e.symm).1; omega)
        rw [pv_snoc, ← htk.out] at h8
        replace h8 := Lib.hid h8
        clear hgr hor hlt9 hown2 hcu hweq hb2 hcl hac
        go_wp2_with fail
        go_roundg (c - (i + 1))
        case measure => omega
        case rel => exact ⟨i + 1, _, va, ft + 1, vc, by omega, rfl, by first | rfl | go_num, by omega, by rw [hft.out], h8.out, hb8⟩
       ·obtain rfl : c = i := by omega
        subst hzi
        have k1 : ¬ (c : Int) < (c : Int) := by omega
        have hTh := own_ils hown (by rw [hft.out, List.length_take, hth9.out, List.length_map, hc9.out, Nat.min_self])
        rw [List.take_of_length_le (by rw [hth9.out, List.length_map, hc9.out]; exact Nat.le_refl _), hth9.out] at hTh
        have hft2 : ft = c := hft.out
        clear hft hown
        obtain rfl : c = ft := hft2.symm
        replace hm1 := hm1.below hb
        replace hAt := hAt.below hb
        replace hOn := hOn.below hb
        replace hp3 := hp3.below hb
        replace hq5 := hq5.below hb
        replace hPk := hPk.below hb
        replace hL0 := hL0.call hb
        clear hb
        obtain ⟨y5, hy5⟩ : ∃ y, y = wr := ⟨_, rfl⟩
        subst hy5
        go_upto_region 35 with fail
        refine region_tbl 10 8 [EV (.agg #[.int .i64 (a : Int), .int .i64 (b : Int), .slice g3 d3 c3]), EV (.slice po c pc9), EV (.slice oo b oc), EV (.int .i64 (b : Int)), PI ((List.range b).map Int.ofNat), MEp xq 0, MEp xq 0, PM xq, EV (.int .i64 0), NewB y5.heap.size [.int .i64 0, .int .i64 0, .slice none 0 0]] [9] (by kernel_rfl) (by kernel_rfl) ?_ ?_ ?_ ?_ ?_ (by kernel_rfl) ?_
        ·exact (stays_cons (stays_eq _) (stays_cons (stays_eq _) (stays_cons (stays_eq _) (stays_cons (stays_eq _) (stays_cons (stays_pi _) (stays_cons (stays_me _ _) (stays_cons (stays_me _ _) (stays_cons (stays_pm _) (stays_cons (stays_eq _) (stays_cons (stays_new _ _) stays_nil))))))))))
        ·simp only [List.take_succ_cons, List.take_zero, hopsR, and_true]
         refine ⟨?_, ?_, ?_, ?_, ?_, ?_, ?_, ?_, ?_, ?_⟩ <;> intro fv w1 hb1 hp
         all_goals (have hc := (hL0.call (below_drew hb1)).fc; simp only [zF, Nat.reduceAdd] at hc; simp only [putsV, Act.put, zP, Nat.zero_add, Nat.reduceAdd])
         ·refine tyAt_none rfl ?_
          simp [tyUpon, execOp, go_sem, Act.eval, hc, Below.refl]
         ·refine tyAt_none rfl ?_
          simp [tyUpon, execOp, go_sem, Act.eval, Below.refl]
         ·refine tyAt_none rfl ?_
          simp [tyUpon, execOp, go_sem, Act.eval, Below.refl]
         ·have h2 : (EV (.slice oo b oc)) (fv 2) w1 := hp 2 (LC (by kernel_rfl))
          refine tyAt_none rfl ?_
          simp [tyUpon, execOp, go_sem, Act.eval, h2, Below.refl]
         ·have h3 : (EV (.int .i64 (b : Int))) (fv 3) w1 := hp 3 (LC (by kernel_rfl))
          refine tyAt_none rfl ?_
          refine ty_call (f := 32) (args := #[.slice none 0 0, .int .i64 (b : Int), .bool true]) (by simp [execOp, go_sem, Act.eval, h3]) ?_
          exact (HLb.out w1).mono fun e w2 ⟨⟨u, h1, h2⟩, h3⟩ => ⟨_, h1, h2, h3⟩
         ·have h0 : (EV (.agg #[.int .i64 (a : Int), .int .i64 (b : Int), .slice g3 d3 c3])) (fv 0) w1 := hp 0 (LC (by kernel_rfl))
          have h1 : (EV (.slice po c pc9)) (fv 1) w1 := hp 1 (LC (by kernel_rfl))
          have h4 : (PI ((List.range b).map Int.ofNat)) (fv 4) w1 := hp 4 (LC (by kernel_rfl))
          refine tyAt_none rfl ?_
          refine ty_call (f := 31) (args := #[.agg #[.int .i64 (a : Int), .int .i64 (b : Int), .slice g3 d3 c3], .slice po c pc9, fv 4]) (by simp [execOp, go_sem, Act.eval, h0, h1]) ?_
          exact (HP4.out _ _ _ w1 (mt_of (PT.below hp3 (below_drew hb1)) hd3.out hpr.out hpc.out) (hPk.below (below_drew hb1)) h4).mono fun e w2 ⟨pv, h1, h2, h3⟩ => ⟨_, h1, ⟨pv, rfl, h2⟩, h3⟩
         ·have h5 : (MEp xq 0) (fv 5) w1 := hp 5 (LC (by kernel_rfl))
          refine tyAt_none rfl ?_
          simp [tyUpon, execOp, go_sem, Act.eval, Below.refl]
          exact h5
         ·have h6 : (MEp xq 0) (fv 6) w1 := hp 6 (LC (by kernel_rfl))
          refine tyAt_none rfl ?_
          obtain ⟨pa9, pe9, pz9⟩ := h6
          simp [tyUpon, execOp, go_sem, Act.eval, pe9, Below.refl]
          exact pz9
         ·have h6 : (MEp xq 0) (fv 6) w1 := hp 6 (LC (by kernel_rfl))
          refine tyAt_none rfl ?_
          obtain ⟨pa9, pe9, pz9⟩ := h6
          simp [tyUpon, execOp, go_sem, Act.eval, pe9, Below.refl]
         ·exact tyAt_new rfl rfl new_mat (below_drew hb1).size
        ·intro j hj u w2 hT
         simp only [List.contains_iff_mem, List.mem_cons, List.not_mem_nil, or_false] at hj
         rcases hj with rfl <;> exact NewB.ptr hT
        ·exact ⟨⟨_, _, _, _, rfl, rfl, rfl, new_mat⟩, trivial⟩
        ·intro fv wl hb1 hv
         obtain ⟨g6, d6, c6, e7, -, -⟩ := mt_form (show MT wl (fv 7) xq from hv 7 (by omega) (by omega)) hur.out huc.out
         obtain ⟨u6, e6, -⟩ : MEp xq 0 (fv 6) wl := hv 6 (by omega) (by omega)
         obtain ⟨kb, e9, n9, m9⟩ : NewB y5.heap.size [.int .i64 0, .int .i64 0, .slice none 0 0] (fv 9) wl := hv 9 (by omega) (by omega)
         have hX9 := (GL.tnew (M := []) (hL0.call (below_drew hb1)) hL0 n9 m9 (fun p hp => by cases hp))
         simp only [List.nil_append] at hX9
         have hA := hX9.fc
         simp only [zF, Nat.reduceAdd] at hA
         have hPx := hX9.put 0 kb _ rfl [.int .i64 (c : Int), .int .i64 (b : Int), .slice g6 d6 c6] rfl
         simp only [setAll, List.set_cons_zero, List.set_cons_succ, Nat.zero_add, Nat.reduceAdd] at hPx
         have hB1 := hPx.fc
         simp only [zF, Nat.reduceAdd] at hB1
         refine ⟨(((wl.setCell ⟨kb, 0, none⟩ (.int .i64 (c : Int))).setCell ⟨kb, 1, none⟩ (.int .i64 (b : Int))).setCell ⟨kb, 2, none⟩ (.slice g6 d6 c6)), .int .i64 0, fun o ho => ?_, fun o ho => ?_, rfl⟩
         ·obtain rfl := Option.some.inj ho
          simp [execOp, go_sem, Act.eval, putsV, Act.put, List.take_succ_cons, List.take_zero, zP, Nat.zero_add, Nat.reduceAdd, hA, e6, e7, e9]
         ·obtain rfl := Option.some.inj ho
          simp [execOp, go_sem, Act.eval, putsV, Act.put, List.take_succ_cons, List.take_zero, zP, Nat.zero_add, Nat.reduceAdd, hB1, e6, e7, e9]
        ·intro fv u1 hb1 hv hne
         have e0 : fv 0 = _ := hv 0 (by omega)
         have e1 : fv 1 = _ := hv 1 (by omega)
         have e2 : fv 2 = _ := hv 2 (by omega)
         have e3 : fv 3 = _ := hv 3 (by omega)
         have e8 : fv 8 = _ := hv 8 (by omega)
         obtain ⟨u5, e5, -⟩ : MEp xq 0 (fv 5) u1 := hv 5 (by omega)
         obtain ⟨u6, e6, -⟩ : MEp xq 0 (fv 6) u1 := hv 6 (by omega)
         obtain ⟨g6, d6, c6, e7, hq6, hd6⟩ := mt_form (show MT u1 (fv 7) xq from hv 7 (by omega)) hur.out huc.out
         obtain ⟨kb, e9, n9, m9⟩ : NewB y5.heap.size [.int .i64 0, .int .i64 0, .slice none 0 0] (fv 9) u1 := hv 9 (by omega)
         have hx0 := hL0
         replace hL0 := hL0.call (below_drew hb1)
         replace hL0 := GL.tnew (M := []) hL0 hx0 n9 m9 (fun p hp => by cases hp)
         simp only [List.nil_append] at hL0
         simp only [List.take_succ_cons, List.take_zero, putsV, Act.put, zP, List.drop_succ_cons, List.drop_zero, Nat.zero_add, Nat.reduceAdd, e0, e1, e2, e3, e8, e5, e6, e7, e9]
         have hbd := below_drew hb1
         have hA := hL0.fc
         simp only [zF, Nat.reduceAdd] at hA
         have hP := hL0.put 0 kb _ rfl [.int .i64 (c : Int), .int .i64 (b : Int), .slice g6 d6 c6] rfl
         have hu9 := setAll_upd kb [.int .i64 (c : Int), .int .i64 (b : Int), .slice g6 d6 c6] 0 u1
         obtain ⟨y6, hy⟩ : ∃ q, setAll u1 kb 0 [.int .i64 (c : Int), .int .i64 (b : Int), .slice g6 d6 c6] = q := ⟨_, rfl⟩
         rw [hy] at hP hu9
         replace hq6 := slq_pint hq6 hu9 n9
         have hb4 : Below y5.heap.size y5 y6 := hbd.trans (hu9.below m9)
         simp only [setAll, Nat.zero_add, Nat.reduceAdd] at hy
         simp only [List.set_cons_zero, List.set_cons_succ] at hP
         clear hL0
         have hL0 := hP
         clear hP
         replace hm1 := hm1.below hb4
         replace hAt := hAt.below hb4
         replace hOn := hOn.below hb4
         replace hp3 := hp3.below hb4
         replace hq5 := hq5.below hb4
         replace hTh := hTh.below hb4
         have hB := hL0.fc
         simp only [zF, Nat.reduceAdd] at hB
         clear hbd hb4 hb1 hv hne hx0 n9 m9 hu9 e0 e1 e2 e3 e8 e5 e6 e7 e9
         generalize fv 4 = q4
         skip
         go_wp2_with fail
         with_reducible refine Calls.mono (HP5.out _ _ _ _ (mt_of hm1 hcp.out hxr.out hxc.out) hTh hOn) ?_
         rintro e u6 ⟨v7, rfl, q0, hb⟩
         replace hL0 := hL0.call hb
         replace hp3 := hp3.below hb
         replace hq5 := hq5.below hb
         replace hq6 := hq6.below hb
         clear hb hA hB hy
         obtain ⟨g7, d7, c7, rfl, hq7, hd7⟩ := mt_form q0 hur.out huc.out
         clear q0
         replace hL0 := hL0.new rfl [.int .i64 (c : Int), .int .i64 (b : Int), .slice g7 d7 c7] 56
         have hb := (Below.refl u6.heap.size u6).alloc (Nat.le_refl _) (.cells #[.int .i64 (c : Int), .int .i64 (b : Int), .slice g7 d7 c7] 56)
         generalize hweq : u6.alloc (.cells #[.int .i64 (c : Int), .int .i64 (b : Int), .slice g7 d7 c7] 56) = u7 at hL0 hb
         replace hp3 := hp3.below hb
         replace hq5 := hq5.below hb
         replace hq6 := hq6.below hb
         replace hq7 := hq7.below hb
         clear hb
         go_upto_region 37 with fail
         refine region_tl 24 [EV (.int .i64 0), EV (.bool true), EV (.bool true), EV (.agg #[.int .i64 (b : Int), .int .i64 (a : Int), .slice g5 d5 c5]), EV (.agg #[.int .i64 (a : Int), .int .i64 (b : Int), .slice g3 d3 c3]), PM txp, EV (.bool true), EV (.bool true), EV (.bool true), EV (.int .i64 0), EV (.bool true), EV (.bool true), EV (.bool true), EV (.int .i64 0), EV (.bool true), EV (.bool true), EV (.bool true), EV (.agg #[.int .i64 (c : Int), .int .i64 (b : Int), .slice g6 d6 c6]), EV (.agg #[.int .i64 (c : Int), .int .i64 (b : Int), .slice g7 d7 c7]), EV (.bool true), EV (.bool true), EV (.bool true), EV (.bool true), EV (.bool true)] (by kernel_rfl) (by kernel_rfl) ?_ ?_ ?_
         ·exact (stays_cons (stays_eq _) (stays_cons (stays_eq _) (stays_cons (stays_eq _) (stays_cons (stays_eq _) (stays_cons (stays_eq _) (stays_cons (stays_pm _) (stays_cons (stays_eq _) (stays_cons (stays_eq _) (stays_cons (stays_eq _) (stays_cons (stays_eq _) (stays_cons (stays_eq _) (stays_cons (stays_eq _) (stays_cons (stays_eq _) (stays_cons (stays_eq _) (stays_cons (stays_eq _) (stays_cons (stays_eq _) (stays_cons (stays_eq _) (stays_cons (stays_eq _) (stays_cons (stays_eq _) (stays_cons (stays_eq _) (stays_cons (stays_eq _) (stays_cons (stays_eq _) (stays_cons (stays_eq _) (stays_cons (stays_eq _) stays_nil))))))))))))))))))))))))
         ·simp only [List.take_succ_cons, List.take_zero, hopsR, and_true]
          refine ⟨?_, ?_, ?_, ?_, ?_, ?_, ?_, ?_, ?_, ?_, ?_, ?_, ?_, ?_, ?_, ?_, ?_, ?_, ?_, ?_, ?_, ?_, ?_, ?_⟩ <;> intro fv w1 hb1 hp
          all_goals (have hc := (hL0.call (below_drew hb1)).fc; simp only [zF, Nat.reduceAdd] at hc; simp only [putsV, Act.put, zP, Nat.zero_add, Nat.reduceAdd])
          ·refine tyAt_none rfl ?_
           simp [tyUpon, execOp, go_sem, Act.eval, Below.refl]
          ·have h0 : (EV (.int .i64 0)) (fv 0) w1 := hp 0 (LC (by kernel_rfl))
           refine tyAt_none rfl ?_
           simp [tyUpon, execOp, go_sem, Act.eval, h0, Below.refl]
          ·have h1 : (EV (.bool true)) (fv 1) w1 := hp 1 (LC (by kernel_rfl))
           refine tyAt_none rfl ?_
           simp [tyUpon, execOp, go_sem, Act.eval, h1, Below.refl]
          ·have h2 : (EV (.bool true)) (fv 2) w1 := hp 2 (LC (by kernel_rfl))
           refine tyAt_yes (by simp [Region.wanted, yielded, h2]) ?_
           simp [tyUpon, execOp, go_sem, Act.eval, h2, hc, Below.refl]
          ·have h2 : (EV (.bool true)) (fv 2) w1 := hp 2 (LC (by kernel_rfl))
           refine tyAt_yes (by simp [Region.wanted, yielded, h2]) ?_
           simp [tyUpon, execOp, go_sem, Act.eval, h2, hc, Below.refl]
          ·have h4 : (EV (.agg #[.int .i64 (a : Int), .int .i64 (b : Int), .slice g3 d3 c3])) (fv 4) w1 := hp 4 (LC (by kernel_rfl))
           have h2 : (EV (.bool true)) (fv 2) w1 := hp 2 (LC (by kernel_rfl))
           refine tyAt_yes (by simp [Region.wanted, yielded, h4, h2]) ?_
           refine ty_call (f := 33) (args := #[.agg #[.int .i64 (a : Int), .int .i64 (b : Int), .slice g3 d3 c3]]) (by simp [execOp, go_sem, Act.eval, h4, h2]) ?_
           exact (HT2.out _ w1 (mt_of (PT.below hp3 (below_drew hb1)) hd3.out hpr.out hpc.out)).mono fun e w2 ⟨pv, h1, h2, h3⟩ => ⟨_, h1, h2, h3⟩
          ·have h3 : (EV (.agg #[.int .i64 (b : Int), .int .i64 (a : Int), .slice g5 d5 c5])) (fv 3) w1 := hp 3 (LC (by kernel_rfl))
           have h5 : (PM txp) (fv 5) w1 := hp 5 (LC (by kernel_rfl))
           have h2 : (EV (.bool true)) (fv 2) w1 := hp 2 (LC (by kernel_rfl))
           refine tyAt_yes (by simp [Region.wanted, yielded, h3, h5, h2]) ?_
           refine ty_call (f := 30) (args := #[.agg #[.int .i64 (b : Int), .int .i64 (a : Int), .slice g5 d5 c5], fv 5]) (by simp [execOp, go_sem, Act.eval, h3, h2]) ?_
           exact (HSt.out _ _ w1 (mt_of (PT.below hq5 (below_drew hb1)) hd5.out hqr.out hqc.out) h5).mono fun e w2 ⟨h1, h2⟩ => ⟨_, h1, rfl, h2⟩
          ·have h2 : (EV (.bool true)) (fv 2) w1 := hp 2 (LC (by kernel_rfl))
           have h6 : (EV (.bool true)) (fv 6) w1 := hp 6 (LC (by kernel_rfl))
           refine tyAt_none rfl ?_
           simp [tyUpon, execOp, go_sem, Act.eval, h2, h6, Below.refl]
          ·have h7 : (EV (.bool true)) (fv 7) w1 := hp 7 (LC (by kernel_rfl))
           refine tyAt_none rfl ?_
           simp [tyUpon, execOp, go_sem, Act.eval, h7, Below.refl]
          ·have h8 : (EV (.bool true)) (fv 8) w1 := hp 8 (LC (by kernel_rfl))
           refine tyAt_yes (by simp [Region.wanted, yielded, h8]) ?_
           simp [tyUpon, execOp, go_sem, Act.eval, h8, Below.refl]
          ·have h9 : (EV (.int .i64 0)) (fv 9) w1 := hp 9 (LC (by kernel_rfl))
           have h8 : (EV (.bool true)) (fv 8) w1 := hp 8 (LC (by kernel_rfl))
           refine tyAt_yes (by simp [Region.wanted, yielded, h9, h8]) ?_
           simp [tyUpon, execOp, go_sem, Act.eval, h9, h8, Below.refl]
          ·have h8 : (EV (.bool true)) (fv 8) w1 := hp 8 (LC (by kernel_rfl))
           have h10 : (EV (.bool true)) (fv 10) w1 := hp 10 (LC (by kernel_rfl))
           refine tyAt_none rfl ?_
           simp [tyUpon, execOp, go_sem, Act.eval, h8, h10, Below.refl]
          ·have h11 : (EV (.bool true)) (fv 11) w1 := hp 11 (LC (by kernel_rfl))
           refine tyAt_none rfl ?_
           simp [tyUpon, execOp, go_sem, Act.eval, h11, Below.refl]
          ·have h12 : (EV (.bool true)) (fv 12) w1 := hp 12 (LC (by kernel_rfl))
           refine tyAt_yes (by simp [Region.wanted, yielded, h12]) ?_
           simp [tyUpon, execOp, go_sem, Act.eval, h12, Below.refl]
          ·have h13 : (EV (.int .i64 0)) (fv 13) w1 := hp 13 (LC (by kernel_rfl))
           have h12 : (EV (.bool true)) (fv 12) w1 := hp 12 (LC (by kernel_rfl))
           refine tyAt_yes (by simp [Region.wanted, yielded, h13, h12]) ?_
           simp [tyUpon, execOp, go_sem, Act.eval, h13, h12, Below.refl]
          ·have h12 : (EV (.bool true)) (fv 12) w1 := hp 12 (LC (by kernel_rfl))
           have h14 : (EV (.bool true)) (fv 14) w1 := hp 14 (LC (by kernel_rfl))
           refine tyAt_none rfl ?_
           simp [tyUpon, execOp, go_sem, Act.eval, h12, h14, Below.refl]
          ·have h15 : (EV (.bool true)) (fv 15) w1 := hp 15 (LC (by kernel_rfl))
           refine tyAt_none rfl ?_
           simp [tyUpon, execOp, go_sem, Act.eval, h15, Below.refl]
          ·have h16 : (EV (.bool true)) (fv 16) w1 := hp 16 (LC (by kernel_rfl))
           refine tyAt_yes (by simp [Region.wanted, yielded, h16]) ?_
           simp [tyUpon, execOp, go_sem, Act.eval, h16, hc, Below.refl]
          ·have h16 : (EV (.bool true)) (fv 16) w1 := hp 16 (LC (by kernel_rfl))
           refine tyAt_yes (by simp [Region.wanted, yielded, h16]) ?_
           simp [tyUpon, execOp, go_sem, Act.eval, h16, hc, Below.refl]
          ·have h17 : (EV (.agg #[.int .i64 (c : Int), .int .i64 (b : Int), .slice g6 d6 c6])) (fv 17) w1 := hp 17 (LC (by kernel_rfl))
           have h18 : (EV (.agg #[.int .i64 (c : Int), .int .i64 (b : Int), .slice g7 d7 c7])) (fv 18) w1 := hp 18 (LC (by kernel_rfl))
           have h16 : (EV (.bool true)) (fv 16) w1 := hp 16 (LC (by kernel_rfl))
           refine tyAt_yes (by simp [Region.wanted, yielded, h17, h18, h16]) ?_
           refine ty_call (f := 30) (args := #[.agg #[.int .i64 (c : Int), .int .i64 (b : Int), .slice g6 d6 c6], .agg #[.int .i64 (c : Int), .int .i64 (b : Int), .slice g7 d7 c7]]) (by simp [execOp, go_sem, Act.eval, h17, h18, h16]) ?_
           exact (HSq.out _ _ w1 (mt_of (PT.below hq6 (below_drew hb1)) hd6 hur.out huc.out) (mt_of (PT.below hq7 (below_drew hb1)) hd7 hur.out huc.out)).mono fun e w2 ⟨h1, h2⟩ => ⟨_, h1, rfl, h2⟩
          ·have h16 : (EV (.bool true)) (fv 16) w1 := hp 16 (LC (by kernel_rfl))
           have h19 : (EV (.bool true)) (fv 19) w1 := hp 19 (LC (by kernel_rfl))
           refine tyAt_none rfl ?_
           simp [tyUpon, execOp, go_sem, Act.eval, h16, h19, Below.refl]
          ·have h20 : (EV (.bool true)) (fv 20) w1 := hp 20 (LC (by kernel_rfl))
           refine tyAt_none rfl ?_
           simp [tyUpon, execOp, go_sem, Act.eval, h20, Below.refl]
          ·have h21 : (EV (.bool true)) (fv 21) w1 := hp 21 (LC (by kernel_rfl))
           refine tyAt_yes (by simp [Region.wanted, yielded, h21]) ?_
           refine ty_call (f := 21) (args := #[]) (by simp [execOp, go_sem, Act.eval, h21]) ?_
           exact (HW.out w1 (hKT.out.at (hL0.call (below_drew hb1)).bl kKT)).mono fun e w2 ⟨h1, h2⟩ => ⟨_, h1, rfl, h2⟩
          ·have h21 : (EV (.bool true)) (fv 21) w1 := hp 21 (LC (by kernel_rfl))
           have h22 : (EV (.bool true)) (fv 22) w1 := hp 22 (LC (by kernel_rfl))
           refine tyAt_none rfl ?_
           simp [tyUpon, execOp, go_sem, Act.eval, h21, h22, Below.refl]
         intro fv u1 hb1 hv
         have e0 : fv 0 = _ := hv 0 (by omega)
         have e1 : fv 1 = _ := hv 1 (by omega)
         have e2 : fv 2 = _ := hv 2 (by omega)
         have e3 : fv 3 = _ := hv 3 (by omega)
         have e4 : fv 4 = _ := hv 4 (by omega)
         have e6 : fv 6 = _ := hv 6 (by omega)
         have e7 : fv 7 = _ := hv 7 (by omega)
         have e8 : fv 8 = _ := hv 8 (by omega)
         have e9 : fv 9 = _ := hv 9 (by omega)
         have e10 : fv 10 = _ := hv 10 (by omega)
         have e11 : fv 11 = _ := hv 11 (by omega)
         have e12 : fv 12 = _ := hv 12 (by omega)
         have e13 : fv 13 = _ := hv 13 (by omega)
         have e14 : fv 14 = _ := hv 14 (by omega)
         have e15 : fv 15 = _ := hv 15 (by omega)
         have e16 : fv 16 = _ := hv 16 (by omega)
         have e17 : fv 17 = _ := hv 17 (by omega)
         have e18 : fv 18 = _ := hv 18 (by omega)
         have e19 : fv 19 = _ := hv 19 (by omega)
         have e20 : fv 20 = _ := hv 20 (by omega)
         have e21 : fv 21 = _ := hv 21 (by omega)
         have e22 : fv 22 = _ := hv 22 (by omega)
         have e23 : fv 23 = _ := hv 23 (by omega)
         simp only [List.take_succ_cons, List.take_zero, putsV, Act.put, zP, List.drop_succ_cons, List.drop_zero, Nat.zero_add, Nat.reduceAdd, e0, e1, e2, e3, e4, e6, e7, e8, e9, e10, e11, e12, e13, e14, e15, e16, e17, e18, e19, e20, e21, e22, e23]
         have hb9' := below_drew hb1
         replace hL0 := hL0.call hb9'
         go_wp2_with fail
         exact bodyPost_ret (v := .bool true) (by simp [results, Tryz.results4, go_sem]) rfl ⟨rfl, hL0.bl⟩
end Go.Proofs.YthffglapmkkohaaGreatDoor
namespace Go.Proofs.YthffglapmkkohaaGreatDoor
open Go.RowKit
theorem t7p {z : Int} (h : 0 ≤ z) : ∃ d : Nat, Int.tmod z 7 = (d : Int) ∧ d ≤ 6 := by
 rw [Int.tmod_eq_emod_of_nonneg h]
 exact ⟨(z % 7).toNat, by omega, by omega⟩
theorem mmofP (ql : List (Int × Int)) (zr zc : Int) (al : Option Addr) (nl cl sa sb : Nat) (ea : Int.tmod zr 7 = (sa : Int)) (eb : Int.tmod zc 7 = (sb : Int)) (ha : sa ≤ 6) (hb : sb ≤ 6) (hn : nl ≤ 1000) (w : World) (hv : QV w (.slice al nl cl) ql) :
  Calls Tryz.prog 23 #[.agg #[.int .u8 zr, .int .u8 zc, .slice al nl cl]] w fun xe w' => ∃ u, xe = .returned u ∧ MT w' u (someM ql sa sb) ∧ Below w.heap.size w w' :=
 mMOf_w zr zc al nl cl sa sb (someM ql sa sb) (fun w => QV w (.slice al nl cl) ql) (QV.keeps _ _) (fun w h => msome_w ql sa sb nl zr zc al cl (by omega) (by omega) hn w h) ea eb (by omega) (by omega) rfl rfl w hv
theorem ia_len {w : World} {ao : Option Addr} {n c : Nat} {zs : List Int} (h : IA w (.slice ao n c) zs) : zs.length = n := by
 obtain ⟨_, _, e, _, _⟩ := h
 simp at e
 exact e.2.1.symm
theorem mparts_any (l0 : List (Int × Int)) (l1 l2 l3 : List Int) (x0 y0 : Int) (a0 a1 a2 a3 : Option Addr) (n0 c0 n1 c1 n2 c2 n3 c3 : Nat) (b0 : 0 ≤ x0) (b1 : 0 ≤ y0) (w : World)
  (h0 : QV w (.slice a0 n0 c0) l0) (h1 : IA w (.slice a1 n1 c1) l1) (h2 : IA w (.slice a2 n2 c2) l2) (h3 : IA w (.slice a3 n3 c3) l3) (ht : Tab w) :
  Calls Tryz.prog 4 #[.agg #[.int .u8 x0, .int .u8 y0, .slice a0 n0 c0], .slice a1 n1 c1, .slice a2 n2 c2, .slice a3 n3 c3] w fun e w' => e = .returned (.bool true) ∧ Below w.heap.size w w' := by
 by_cases g1 : n0 ≤ 40
 case neg => exact mparts_l x0 y0 a0 a1 a2 a3 n0 c0 n1 c1 n2 c2 n3 c3 (.inl fun v w h => few_any [n0] false ⟨(fun h => by cases h), fun h => absurd (h n0 (by simp)) g1⟩ (by simp) v w h) Tab Keeps.tab mworks_any w ht
 have HF := fun (v : Value) (w : World) (h : FWs w v [n0]) => few_any [n0] true ⟨fun _ l hl => by
  rw [List.mem_singleton.1 hl]; exact g1, fun _ => rfl⟩ (by simp) v w h
 by_cases g2 : 8 < n1
 ·exact mparts_l x0 y0 a0 a1 a2 a3 n0 c0 n1 c1 n2 c2 n3 c3 (.inr (.inl ⟨HF, decide_eq_true (by omega), decide_eq_true g2⟩)) Tab Keeps.tab mworks_any w ht
 by_cases g3 : 8 < n2
 ·exact mparts_l x0 y0 a0 a1 a2 a3 n0 c0 n1 c1 n2 c2 n3 c3 (.inr (.inr (.inl ⟨HF, decide_eq_false (by omega), decide_eq_false g2, decide_eq_true (by omega), decide_eq_true g3⟩))) Tab Keeps.tab mworks_any w ht
 by_cases g4 : 8 < n3
 ·exact mparts_l x0 y0 a0 a1 a2 a3 n0 c0 n1 c1 n2 c2 n3 c3 (.inr (.inr (.inr ⟨HF, decide_eq_false (by omega), decide_eq_false g2, decide_eq_false (by omega), decide_eq_false g3, decide_eq_true (by omega), decide_eq_true g4⟩))) Tab Keeps.tab mworks_any w ht
 obtain ⟨na, ea, na6⟩ := t7p b0
 obtain ⟨nb, eb, nb6⟩ := t7p b1
 have gx := someM_gm (qv_rg h0) na nb
 have HSd := fun w => msides_w x0 y0 a0 n0 c0 na nb ea eb (by omega) (by omega) w
 have HMo := fun w hv => mmofP l0 x0 y0 a0 n0 c0 na nb ea eb na6 nb6 (by omega) w hv
 generalize someM l0 na nb = x at gx HMo
 have e1 := ia_len h1
 have e2 := ia_len h2
 have e3 := ia_len h3
 have p1 : ∀ p ∈ plsL l1 na, p < na := pls_lt
 have p2 : ∀ p ∈ plsL l2 nb, p < nb := pls_lt
 have q1 := pls_len l1 na
 have q2 := pls_len l2 nb
 have HLr := fun w hv => mplaces_sel l1 na (by omega) (by omega) (.slice a1 n1 c1) w hv
 have HLc := fun w hv => mplaces_sel l2 nb (by omega) (by omega) (.slice a2 n2 c2) w hv
 generalize plsL l1 na = at9 at p1 q1 HLr
 generalize plsL l2 nb = on9 at p2 q2 HLc
 have p3 : ∀ p ∈ plsL l3 at9.length, p < at9.length := pls_lt
 have q3 := pls_len l3 at9.length
 have HLg := fun w hv => mplaces_sel l3 at9.length (by omega) (by omega) (.slice a3 n3 c3) w hv
 generalize plsL l3 at9.length = pk9 at p3 q3 HLg
 have gp := ptM_gm gx p1 p2
 have gt := gp.tur
 have gq := ptM_gm gp p3 (fun p hp => List.mem_range.1 hp)
 rw [List.length_range] at gq
 have hth : ∀ p ∈ pk9.map fun i => at9.getD i 0, p < na := fun p hp => by
  obtain ⟨i, hi, rfl⟩ := List.mem_map.1 hp
  exact mem_getD p1 (p3 i hi)
 have hrn : ∀ p ∈ List.range na, p < na := fun p hp => List.mem_range.1 hp
 have hrk : ∀ p ∈ List.range nb, p < nb := fun p hp => List.mem_range.1 hp
 have hrb : ∀ p ∈ List.range on9.length, p < on9.length := fun p hp => List.mem_range.1 hp
 have htx : turM na nb x = turM na nb x := rfl
 have hsn : ∀ p, GM (smP na nb x p) na nb 1 := fun p => smP_gm gx p
 have hxl := gx.len
 have hpl := gp.len
 exact mparts_law x0 y0 a0 a1 a2 a3 n0 c0 n1 c1 n2 c2 n3 c3 na nb at9.length on9.length pk9.length x (turM na nb x) (ptM x at9 on9) (turM at9.length on9.length (ptM x at9 on9)) (ptM (ptM x at9 on9) pk9 (List.range on9.length)) (smP na nb x) (ouP na nb x) (fun p => tabV na fun i => ent x i p) (fun p => tabV nb fun j => if j = p then 1 else 0) at9 on9 pk9
  HF HSd (fun w => QV w (.slice a0 n0 c0) l0) (QV.keeps _ _) HMo
  (fun w => MakeZ na nb x (by omega) (by omega) w)
  (fun p hp u w hu => ColE gx (by omega) (by omega) p hp u w hu)
  (fun p hp w => UnitE nb p (by omega) hp w)
  (fun p hp u v w hu hv => OuterE gx (by omega) (by omega) p hp u v w hu hv)
  (fun p hp u v w hu hv => lmaddG (hsn p) (ouP_gm gx p hp) (by omega) (by omega) (by omega) (by omega) (smP_step p) u v w hu hv)
  (fun u v w hu hv => msame_ok gx (by omega) (by omega) u v w hu hv)
  (fun u v w hu hv => msame_ok gt (by omega) (by omega) u v w hu hv)
  (fun u v w hu hv => msame_ok gq (by omega) (by omega) u v w hu hv)
  (fun u w hu => lturnG gx (by omega) (by omega) rfl u w hu)
  (fun u w hu => lturnG gp (by omega) (by omega) rfl u w hu)
  (fun w => mplaces_all na (by omega) w) (fun w => mplaces_all nb (by omega) w) (fun w => mplaces_all on9.length (by omega) w)
  (fun w => IA w (.slice a1 n1 c1) l1) (IA.keeps _ _) HLr
  (fun w => IA w (.slice a2 n2 c2) l2) (IA.keeps _ _) HLc
  (fun w => IA w (.slice a3 n3 c3) l3) (IA.keeps _ _) HLg
  (fun p s t w hp hs ht => by
   have := PartE gx (by omega) (by omega) (List.range na) (List.range nb) (by rw [List.length_range]; omega) (by rw [List.length_range]; omega) hrn hrk p s t w hp hs ht
   rwa [ptM_all gx] at this)
  (fun p s t w hp hs ht => PartE gx (by omega) (by omega) at9 on9 (by omega) (by omega) p1 p2 p s t w hp hs ht)
  (fun p s t w hp hs ht => by
   have := PartE gx.tur (by omega) (by omega) on9 at9 (by omega) (by omega) p2 p1 p s t w hp hs ht
   rwa [ptM_tur p1 p2] at this)
  (fun p s t w hp hs ht => PartE gp (by omega) (by omega) pk9 (List.range on9.length) (by omega) (by rw [List.length_range]; omega) p3 hrb p s t w hp hs ht)
  (fun p s t w hp hs ht => by
   have := PartE gx (by omega) (by omega) (pk9.map fun i => at9.getD i 0) on9 (by rw [List.length_map]; omega) (by omega) hth p2 p s t w hp hs ht
   rwa [← ptM_pick p3] at this)
  Tab Keeps.tab mworks_any
  (by rw [gx.r]) (by rw [gx.c]) (fun p => by rw [(hsn p).r]) (fun p => by rw [(hsn p).c]) (fun p => rfl) (fun p => rfl) (by rw [gx.tur.r]) (by rw [gx.tur.c]) (by rw [gp.r]) (by rw [gp.c]) (by rw [gt.r]) (by rw [gt.c]) (by rw [gq.r]) (by rw [gq.c])
  na6 nb6 rfl rfl rfl (by omega) (by omega) (by omega) (fun p => tabV_len _ _) (fun p => tabV_len _ _) (smP_end gx) hxl hpl
  (fun i hi => mem_getD p1 hi) (fun j hj => mem_getD p2 hj) (fun i hi => mem_getD p3 hi)
  (fun i j hi hj => by
   have e : gv (ptM x at9 on9).l (i * on9.length + j) = gv x.l (at9.getD i 0 * x.c + on9.getD j 0) := ent_tab (f := fun i j => ent x (at9.getD i 0) (on9.getD j 0)) hi hj
   rwa [gx.c] at e)
  (decide_eq_false (by omega)) (decide_eq_false g2) (decide_eq_false (by omega)) (decide_eq_false g3) (decide_eq_false (by omega)) (decide_eq_false g4) w h0 h1 h2 h3 ht
end Go.Proofs.YthffglapmkkohaaGreatDoor
namespace Go.Proofs.YthffglapmkkohaaGreatDoor
open Go.ChangeShapes Go.WideShapes Go.ChangeAt Go.RowKit
theorem own : ownKnob Tryz.prog.godebug = none := by kernel_rfl
theorem laidOut : laidOutB Tryz.prog = true := by kernel_rfl
theorem cells24 : Tryz.prog.cellsOf 30 = 1 := by kernel_rfl
/-- The variables that every row of this layer lists. -/
def laidAll : List (String × DataW Unit) := [("math/bits.deBruijn32tab", Rows.laid_math_bits_deBruijn32tab), ("math/bits.deBruijn64tab", Rows.laid_math_bits_deBruijn64tab), ("internal/strconv.uint64pow10", Rows.laid_internal_strconv_uint64pow10)]
theorem gPow : Tryz.prog.globalNamed "internal/strconv.uint64pow10" = some 3 := by kernel_rfl
theorem gPowType : (Tryz.prog.globals[3]?).map (·.type) = some 257 := by kernel_rfl
theorem cells20 : Tryz.prog.cellsOf 257 = 20 := by kernel_rfl
theorem tab_of {W : World} (h : laidMetH Tryz.prog laidAll W) : Tab W := by
 have h1 := laidMetH.filter (fun x => x.1 == "internal/strconv.uint64pow10") h
 have e : laidAll.filter (fun x => x.1 == "internal/strconv.uint64pow10") = [("internal/strconv.uint64pow10", Rows.laid_internal_strconv_uint64pow10)] := by kernel_rfl
 rw [e, MakeChecks.laidMetH_plain _ _ _ (by kernel_rfl)] at h1
 exact Lib.tabIs_of_head (rest := []) gPow gPowType Tryz.underlying257 Tryz.underlying30 cells24 cells20 (show laidMet Tryz.prog (("internal/strconv.uint64pow10", Lib.tabData .u64 Lib.pow10Tab) :: []) W from h1)
end Go.Proofs.YthffglapmkkohaaGreatDoor
namespace Go.Proofs.YthffglapmkkohaaGreatDoor
open Go.ChangeShapes Go.WideShapes Go.ChangeAt Go.RowKit Go.Joins
theorem cellsQ : Tryz.prog.cellsOf 40 = 2 := by kernel_rfl
theorem cellsI : Tryz.prog.cellsOf 2 = 1 := by kernel_rfl
theorem cellsU : Tryz.prog.cellsOf 38 = 1 := by kernel_rfl
end Go.Proofs.YthffglapmkkohaaGreatDoor
namespace Go.Proofs.YthffglapmkkohaaGreatDoor
open Go.ChangeShapes Go.WideShapes Go.ChangeAt Go.RowKit Go.Joins
section
variable {H : Type} {enc : TypeId × Value → H} {P : Program} {w : World} {base : Nat} {spare : Nat → Bool} {held : Bool}
end
theorem addaddV (a : Addr) (i j : Nat) : (a.add i).add j = a.add (i + j) := by
 unfold Addr.add
 by_cases h : i = 0
 ·subst h; simp
 ·by_cases h2 : j = 0
  ·subst h2; simp [h]
  ·simp [h, h2, Nat.add_assoc]
end Go.Proofs.YthffglapmkkohaaGreatDoor
namespace Go.Proofs.YthffglapmkkohaaGreatDoor
open Go.ChangeShapes Go.WideShapes Go.ChangeAt Go.RowKit Go.Joins
section
variable {H : Type} {enc : TypeId × Value → H} {P : Program} {w : World} {base : Nat} {spare : Nat → Bool} {held : Bool}
end
theorem qv_of_trod {H : Type} {enc : TypeId × Value → H} {W : World} {fuel : Nat} {v : Value} {y : DataW H × List MemPlace}
  (hf : DataW.trod enc Tryz.prog W 0 (fun _ => true) true fuel 22 [v] = some y) : ∃ a n c l, v = .slice a n c ∧ QV W (.slice a n c) l := by
 obtain ⟨d, p⟩ := y
 rcases Go.Deep.open_slice_pairs Tryz.underlying22 Tryz.underlying40 cellsQ rfl rfl cellsI cellsU hf with ⟨hcs, hx⟩ | ⟨a, len, cap, m, n, V0, V1, D0, D1, P0, P1, hcs, _, hl, _, hm, hx, hcell⟩
 ·simp only [List.cons.injEq, and_true] at hcs
  subst hcs
  exact ⟨none, 0, 0, [], rfl, none, 0, rfl, Nat.le_refl _, fun _ => rfl, fun h => absurd h (Nat.lt_irrefl _)⟩
 ·simp only [List.cons.injEq, and_true] at hcs
  subst hcs
  simp only [if_true] at hm
  by_cases h0 : len = 0
  ·subst h0
   exact ⟨some a, 0, cap, [], rfl, some a, cap, rfl, Nat.zero_le _, (fun h => by cases h), fun h => absurd h (Nat.lt_irrefl _)⟩
  have each : ∀ i, i < len → ∃ z : Int × Int, W.cell? (a.add (i * 2)) = some (.int .i64 z.1) ∧ W.cell? ((a.add (i * 2)).add 1) = some (.int .u32 z.2) ∧ (-9223372036854775808 ≤ z.1 ∧ z.1 < 9223372036854775808) ∧ 0 ≤ z.2 ∧ z.2 < 4294967296 := by
   intro i hi
   obtain ⟨e0, e1, g0, g1⟩ := hcell i (by omega)
   obtain ⟨x, y0, -, f0⟩ := DataW.trod_int Tryz.underlying2 g0
   obtain ⟨y, y1, -, f1⟩ := DataW.trod_int Tryz.underlying38 g1
   simp only [List.cons.injEq, and_true] at y0 y1
   rw [y0] at e0
   rw [y1] at e1
   have b0 := bounds_i64 f0
   have b1 := bounds_u32 f1
   exact ⟨(x, y), e0, by rw [addaddV]; exact e1, by omega, by omega⟩
  obtain ⟨q, hq⟩ := Go.Deep.choose_lt each
  refine ⟨some a, len, cap, (List.range len).map q, rfl, some a, cap, by simp, by simpa using hl, (fun h => by cases h), fun _ => ⟨a, rfl, fun i hi => ?_, fun i hi => ?_, fun z hz => ?_, ?_⟩⟩
  ·have hi' : i < len := by simpa using hi
   have := (hq i hi').1
   simpa using this
  ·have hi' : i < len := by simpa using hi
   have := (hq i hi').2.1
   simpa using this
  ·obtain ⟨i, hi, rfl⟩ := List.mem_map.1 hz
   exact (hq i (List.mem_range.1 hi)).2.2
  ·have e := (hq 0 (by omega)).1
   have := World.block_lt_of_cell? W _ e
   rw [add_blk] at this
   exact this
theorem cellsM : Tryz.prog.cellsOf 51 = 3 := by kernel_rfl
theorem m_of {H : Type} {enc : TypeId × Value → H} {W : World} {base : Nat} {v : Value} {d : DataW H} {p : List MemPlace} (hv : Value.okWide Tryz.prog W .any base 51 v)
  (h : DataW.Trod enc Tryz.prog W 0 (fun _ => true) true 51 v d p) : ∃ (x y : Int) (a : Option Addr) (n c : Nat) (l : List (Int × Int)), v = .agg #[.int .u8 x, .int .u8 y, .slice a n c] ∧ (0 ≤ x ∧ x < 256) ∧ (0 ≤ y ∧ y < 256) ∧ QV W (.slice a n c) l := by
 obtain ⟨v0, v1, v2, y0, y1, y2, m, rfl, rfl, rfl, h0, h1, h2⟩ := open_agg3 Tryz.underlying51 (by kernel_rfl) cellsM hv h
 obtain ⟨x, e0, -, f0⟩ := DataW.trod_int Tryz.underlying5 h0
 obtain ⟨y, e1, -, f1⟩ := DataW.trod_int Tryz.underlying5 h1
 simp only [List.cons.injEq, and_true] at e0 e1
 subst e0 e1
 obtain ⟨a, n, c, l, rfl, hq⟩ := qv_of_trod h2
 have b0 := bounds_u8 f0
 have b1 := bounds_u8 f1
 exact ⟨x, y, a, n, c, l, rfl, by omega, by omega, hq⟩
end Go.Proofs.YthffglapmkkohaaGreatDoor
namespace Go.Proofs.YthffglapmkkohaaGreatDoor
open Go.ChangeShapes Go.WideShapes Go.ChangeAt Go.RowKit Go.Joins
theorem cellsInt : Tryz.prog.cellsOf 3 = 1 := by kernel_rfl
theorem undII : Tryz.prog.underlying 24 = some (.slice 3) := by kernel_rfl
theorem ia_of {H : Type} {enc : TypeId × Value → H} {W : World} {base : Nat} {v : Value} {d : DataW H} {p : List MemPlace} (hv : Value.okWide Tryz.prog W .any base 24 v)
  (h : DataW.Trod enc Tryz.prog W 0 (fun _ => true) true 24 v d p) : ∃ a n c zs, v = .slice a n c ∧ IA W (.slice a n c) zs := by
 obtain ⟨a0, len, cap, rfl⟩ := okWide_slice undII hv
 obtain ⟨fuel, hf⟩ := h
 rcases Go.Deep.open_slice undII hf with ⟨hcs, hx⟩ | ⟨a, len', cap', m, n, D, Pl, hcs, _, hl, _, hm, _, hcell⟩
 ·simp [Value.cells] at hcs
  obtain ⟨rfl, rfl, rfl⟩ := hcs
  exact ⟨none, 0, 0, [], rfl, none, 0, rfl, (fun z hz => by cases hz), fun h => absurd h (Nat.lt_irrefl _)⟩
 ·simp [Value.cells] at hcs
  obtain ⟨rfl, rfl, rfl⟩ := hcs
  simp only [if_true] at hm
  by_cases h0 : len = 0
  ·subst h0
   exact ⟨some a, 0, cap, [], rfl, some a, cap, rfl, (fun z hz => by cases hz), fun h => absurd h (Nat.lt_irrefl _)⟩
  have each : ∀ i, i < len → ∃ z : Int, W.cell? (a.add i) = some (.int .i64 z) ∧ -9223372036854775808 ≤ z ∧ z < 9223372036854775808 := by
   intro i hi
   obtain ⟨cs', h1, h2⟩ := hcell i (by omega)
   obtain ⟨x, rfl, -, f0⟩ := DataW.trod_int Tryz.underlying3 h2
   have b0 := bounds_i64 f0
   rw [cellsInt] at h1
   obtain ⟨_, _, hc⟩ := World.cells?_some h1
   have := hc 0 (by omega)
   rw [Nat.mul_one] at this
   exact ⟨x, by simpa [addaddV] using this, by omega, by omega⟩
  obtain ⟨q, hq⟩ := Go.Deep.choose_lt each
  refine ⟨some a, len, cap, (List.range len).map q, rfl, some a, cap, by simp, fun z hz => ?_, fun _ => ⟨a, rfl, ?_, fun i hi => ?_⟩⟩
  ·obtain ⟨i, hi, rfl⟩ := List.mem_map.1 hz
   exact (hq i (List.mem_range.1 hi)).2
  ·have e := (hq 0 (by omega)).1
   have := World.block_lt_of_cell? W _ e
   rwa [add_blk] at this
  ·have hi' : i < len := by simpa using hi
   have := (hq i hi').1
   simpa using this
end Go.Proofs.YthffglapmkkohaaGreatDoor
