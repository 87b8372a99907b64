/-
  The law answers true at every input, and leaves its arguments as they were: a part of the proof. CONDITIONS: the package-level tables start as the program's text lays them (the card ties them).
-/
import Derived.Test.YtkpghlnegbimdaaGreatDoorZae
import Derived.Test.YtkpghlnegbimdaaGreatDoorRows
set_option linter.unusedVariables false
set_option linter.unusedSimpArgs false
set_option maxHeartbeats 16000000
set_option maxRecDepth 100000
namespace Go.Proofs.YtkpghlnegbimdaaGreatDoor
open Go.RowKit
theorem add_eqv {p p' q q' : TL} (h : Eqv p p') (g : Eqv q q') : Eqv (p ++ q) (p' ++ q') := fun F => by rw [pair_append, pair_append, h, g]
theorem dxF_split (F : Nat → Nat → Rat) (i j k l : Nat) : dxF F (i + k) (j + l) = ((i : Nat) : Rat) * F (i - 1 + k) (j + l) + ((k : Nat) : Rat) * F (i + (k - 1)) (j + l) := by
 unfold dxF
 rw [Rat.natCast_add]
 cases i with
 | zero =>
  cases k with
  | zero => simp; grind
  | succ k => rw [show 0 + (k + 1) - 1 = 0 + (k + 1 - 1) by omega]; simp; grind
 | succ i =>
  rw [show i + 1 + k - 1 = i + 1 - 1 + k by omega]
  cases k with
  | zero => simp; grind
  | succ k => rw [show i + 1 + (k + 1 - 1) = i + 1 - 1 + (k + 1) by omega]; grind
theorem dx_prod (p q : TL) : Eqv (dxL (prodL p q)) (prodL (dxL p) q ++ prodL p (dxL q)) := fun F => by
 rw [pair_dx, pair_prod, pair_append, pair_prod, pair_prod, pair_dx, ← pair_add]
 refine congrArg (pair p) (funext fun i => funext fun j => ?_)
 rw [pair_dx]
 show pair q (fun k l => dxF F (i + k) (j + l)) = ((i : Nat) : Rat) * pair q (fun k l => F (i - 1 + k) (j + l)) + pair q (dxF fun k l => F (i + k) (j + l))
 rw [← pair_mul, ← pair_add]
 exact congrArg (pair q) (funext fun k => funext fun l => dxF_split F i j k l)
end Go.Proofs.YtkpghlnegbimdaaGreatDoor
namespace Go.Proofs.YtkpghlnegbimdaaGreatDoor
open Go.RowKit
/-- No term of the derivative's normal form is of the degree's greatest. -/
theorem dx_degree {p r : TL} {d : Nat} (hp : ∀ t ∈ p, t.1 + t.2.1 ≤ d) (hr : NF r) (e : Eqv r (dxL p)) : ∀ hr0 : r ≠ [], (r.getLast hr0).1 + (r.getLast hr0).2.1 + 1 ≤ d := by
 intro hr0
 have h := (nf_top hr hr0).1.1
 rw [e, pair_dx] at h
 rcases Nat.lt_or_ge d ((r.getLast hr0).1 + (r.getLast hr0).2.1 + 1) with g | g
 ·refine absurd ((pair_congr p fun t ht => ?_).trans (pair_zero p)) h
  have := hp t ht
  unfold dxF ind
  by_cases h0 : t.1 = 0
  ·rw [h0]; grind
  ·rw [if_neg]
   ·grind
   ·intro f
    simp only [key, Prod.mk.injEq] at f
    omega
 ·exact g
theorem dy_degree {p r : TL} {d : Nat} (hp : ∀ t ∈ p, t.1 + t.2.1 ≤ d) (hr : NF r) (e : Eqv r (dyL p)) : ∀ hr0 : r ≠ [], (r.getLast hr0).1 + (r.getLast hr0).2.1 + 1 ≤ d := by
 intro hr0
 have h := (nf_top hr hr0).1.1
 rw [e, pair_dy] at h
 rcases Nat.lt_or_ge d ((r.getLast hr0).1 + (r.getLast hr0).2.1 + 1) with g | g
 ·refine absurd ((pair_congr p fun t ht => ?_).trans (pair_zero p)) h
  have := hp t ht
  unfold dyF ind
  by_cases h0 : t.2.1 = 0
  ·rw [h0]; grind
  ·rw [if_neg]
   ·grind
   ·intro f
    simp only [key, Prod.mk.injEq] at f
    omega
 ·exact g
end Go.Proofs.YtkpghlnegbimdaaGreatDoor
namespace Go.Proofs.YtkpghlnegbimdaaGreatDoor
open Go.RowKit
theorem dyF_split (F : Nat → Nat → Rat) (i j k l : Nat) : dyF F (i + k) (j + l) = ((j : Nat) : Rat) * F (i + k) (j - 1 + l) + ((l : Nat) : Rat) * F (i + k) (j + (l - 1)) := by
 have h := dxF_split (fun a b => F b a) j i l k
 unfold dxF at h
 unfold dyF
 exact h
theorem dy_prod (p q : TL) : Eqv (dyL (prodL p q)) (prodL (dyL p) q ++ prodL p (dyL q)) := fun F => by
 rw [pair_dy, pair_prod, pair_append, pair_prod, pair_prod, pair_dy, ← pair_add]
 refine congrArg (pair p) (funext fun i => funext fun j => ?_)
 rw [pair_dy]
 show pair q (fun k l => dyF F (i + k) (j + l)) = ((j : Nat) : Rat) * pair q (fun k l => F (i + k) (j - 1 + l)) + pair q (dyF fun k l => F (i + k) (j + l))
 rw [← pair_mul, ← pair_add]
 exact congrArg (pair q) (funext fun k => funext fun l => dyF_split F i j k l)
theorem dxF_zero (F : Nat → Nat → Rat) : dxF F 0 0 = 0 := by unfold dxF; first | (simp; done) | (simp; grind)
theorem dyF_zero (F : Nat → Nat → Rat) : dyF F 0 0 = 0 := by unfold dyF; first | (simp; done) | (simp; grind)
end Go.Proofs.YtkpghlnegbimdaaGreatDoor
namespace Go.Proofs.YtkpghlnegbimdaaGreatDoor
open Go.RowKit
attribute [local irreducible] lo hs sm s64 c64 d64 b64 mh ml pd pc qd qc val hiB str cmpI srD lz nb zl zh zs fe klT ordZ
theorem degI_nil : degI [] = -1 := rfl
end Go.Proofs.YtkpghlnegbimdaaGreatDoor
namespace Go.Proofs.YtkpghlnegbimdaaGreatDoor.Rx
open Go.RowKit
end Go.Proofs.YtkpghlnegbimdaaGreatDoor.Rx
namespace Go.Proofs.YtkpghlnegbimdaaGreatDoor.Rx
open Go.RowKit
attribute [local irreducible] tv dg
end Go.Proofs.YtkpghlnegbimdaaGreatDoor.Rx
namespace Go.Proofs.YtkpghlnegbimdaaGreatDoor.Rx
open Go.RowKit
attribute [local irreducible] tv dg
end Go.Proofs.YtkpghlnegbimdaaGreatDoor.Rx
namespace Go.Proofs.YtkpghlnegbimdaaGreatDoor.Rx
open Go.RowKit
attribute [local irreducible] tv dg
end Go.Proofs.YtkpghlnegbimdaaGreatDoor.Rx
namespace Go.Proofs.YtkpghlnegbimdaaGreatDoor.Rx
open Go.RowKit
attribute [local irreducible] tv dg
section
variable {w w' : World} {g : Nat} {l : List Nat}
theorem IB.sl (h : IB w g l) (c : Nat) (hc : l.length ≤ c) : Sl w (.slice (some ⟨g, 0, none⟩) l.length c) l :=
 .inr ⟨⟨g, 0, none⟩, c, rfl, hc, fun i hi => by rw [add0]; exact h.cell i hi, h.lt⟩
end
end Go.Proofs.YtkpghlnegbimdaaGreatDoor.Rx
namespace Go.Proofs.YtkpghlnegbimdaaGreatDoor
open Go.RowKit
attribute [local irreducible] lo hs sm s64 c64 d64 b64 mh ml pd pc qd qc val hiB str cmpI srD lz nb zl zh zs fe klT ordZ
theorem prules_l1 (al am : Option Addr) (nl cl nm cm : Nat)  (KT : World → Prop) (hKT : Keeps KT) (HW : ∀ w, KT w → Calls Tryz.prog 8 #[] w fun xe w' => xe = .returned (.bool true) ∧ Below w.heap.size w w') (l0 : decide ((8 : Int) < ((nl : Nat) : Int)) = true) (k0 : decide (8 < nl) = true) (w : World) (kKT : KT w) :
  Calls Tryz.prog 5 #[.slice al nl cl, .slice am nm cm] w fun e w' => e = .returned (.bool true) ∧ Below w.heap.size w w' := by
 replace hKT := Lib.hid hKT
 replace HW := Lib.hid HW
 have hL0 : GL w w [] := GL.start w
 have hT : PTs w [] := PTs.nil w
 go_enter Tryz.func5, Tryz.ntmps5
 go_wp2_with fail
 with_reducible refine Calls.mono (HW.out _ (hKT.out.at hL0.bl kKT)) ?_
 rintro e x1 ⟨rfl, hb⟩
 replace hL0 := hL0.call hb
 replace hT := hT.call hb
 clear hb
 go_wp2_with fail
 exact bodyPost_ret (v := .bool true) (by simp [results, Tryz.results5, go_sem]) rfl ⟨rfl, hL0.bl⟩
theorem prules_l2 (al am : Option Addr) (nl cl nm cm : Nat)  (KT : World → Prop) (hKT : Keeps KT) (HW : ∀ w, KT w → Calls Tryz.prog 8 #[] w fun xe w' => xe = .returned (.bool true) ∧ Below w.heap.size w w') (l0 : decide ((8 : Int) < ((nl : Nat) : Int)) = false) (k0 : decide (8 < nl) = false) (l1 : decide ((8 : Int) < ((nm : Nat) : Int)) = true) (k1 : decide (8 < nm) = true) (w : World) (kKT : KT w) :
  Calls Tryz.prog 5 #[.slice al nl cl, .slice am nm cm] w fun e w' => e = .returned (.bool true) ∧ Below w.heap.size w w' := by
 replace hKT := Lib.hid hKT
 replace HW := Lib.hid HW
 have hL0 : GL w w [] := GL.start w
 have hT : PTs w [] := PTs.nil w
 go_enter Tryz.func5, Tryz.ntmps5
 go_wp2_with fail
 with_reducible refine Calls.mono (HW.out _ (hKT.out.at hL0.bl kKT)) ?_
 rintro e x1 ⟨rfl, hb⟩
 replace hL0 := hL0.call hb
 replace hT := hT.call hb
 clear hb
 go_wp2_with fail
 exact bodyPost_ret (v := .bool true) (by simp [results, Tryz.results5, go_sem]) rfl ⟨rfl, hL0.bl⟩
theorem prules_w (al am : Option Addr) (nl cl nm cm : Nat) (pa pb pc xa xb xc f1 f2 f3 pp xp xs pk ya yb yc g7 g8 g9 yp ys xya yxa la xxa yya sl : List TI) (dx dy da d1 mx : Int) (c5 : Rat) (KL : World → Prop) (hKL : Keeps KL) (HMa : ∀ (w : World), KL w → Calls Tryz.prog 22 #[.slice al nl cl, .int .i64 5] w fun e w' => ∃ pv, e = .returned pv ∧ PT w' pv pa ∧ Below w.heap.size w w') (KM : World → Prop) (hKM : Keeps KM) (HMb : ∀ (w : World), KM w → Calls Tryz.prog 22 #[.slice am nm cm, .int .i64 5] w fun e w' => ∃ pv, e = .returned pv ∧ PT w' pv pb ∧ Below w.heap.size w w') (HMu : ∀ (p0 p1 : Value) (w : World), PT w p0 pa → PT w p1 pb → Calls Tryz.prog 23 #[p0, p1] w fun e w' => ∃ pv, e = .returned (.tuple #[pv, .int .i64 0]) ∧ PT w' pv pc ∧ Below w.heap.size w w') (Dx1 : ∀ (p0 : Value) (w : World), PT w p0 pa → Calls Tryz.prog 32 #[p0] w fun e w' => ∃ pv, e = .returned pv ∧ PT w' pv xa ∧ Below w.heap.size w w') (Dx2 : ∀ (p0 : Value) (w : World), PT w p0 pb → Calls Tryz.prog 32 #[p0] w fun e w' => ∃ pv, e = .returned pv ∧ PT w' pv xb ∧ Below w.heap.size w w') (Dx3 : ∀ (p0 : Value) (w : World), PT w p0 pc → Calls Tryz.prog 32 #[p0] w fun e w' => ∃ pv, e = .returned pv ∧ PT w' pv xc ∧ Below w.heap.size w w') (Mx1 : ∀ (p0 p1 : Value) (w : World), PT w p0 xa → PT w p1 pb → Calls Tryz.prog 23 #[p0, p1] w fun e w' => ∃ pv, e = .returned (.tuple #[pv, .int .i64 0]) ∧ PT w' pv f1 ∧ Below w.heap.size w w') (Mx2 : ∀ (p0 p1 : Value) (w : World), PT w p0 pa → PT w p1 xb → Calls Tryz.prog 23 #[p0, p1] w fun e w' => ∃ pv, e = .returned (.tuple #[pv, .int .i64 0]) ∧ PT w' pv f2 ∧ Below w.heap.size w w') (Ax1 : ∀ (p0 p1 : Value) (w : World), PT w p0 f1 → PT w p1 f2 → Calls Tryz.prog 24 #[p0, p1] w fun e w' => ∃ pv, e = .returned pv ∧ PT w' pv f3 ∧ Below w.heap.size w w') (Sx1 : ∀ (p0 p1 : Value) (w : World), PT w p0 xc → PT w p1 f3 → Calls Tryz.prog 17 #[p0, p1] w fun e w' => e = .returned (.bool true) ∧ Below w.heap.size w w') (App : ∀ (p0 p1 : Value) (w : World), PT w p0 pa → PT w p1 pb → Calls Tryz.prog 24 #[p0, p1] w fun e w' => ∃ pv, e = .returned pv ∧ PT w' pv pp ∧ Below w.heap.size w w') (Dx4 : ∀ (p0 : Value) (w : World), PT w p0 pp → Calls Tryz.prog 32 #[p0] w fun e w' => ∃ pv, e = .returned pv ∧ PT w' pv xp ∧ Below w.heap.size w w') (Ax2 : ∀ (p0 p1 : Value) (w : World), PT w p0 xa → PT w p1 xb → Calls Tryz.prog 24 #[p0, p1] w fun e w' => ∃ pv, e = .returned pv ∧ PT w' pv xs ∧ Below w.heap.size w w') (Sx2 : ∀ (p0 p1 : Value) (w : World), PT w p0 xp → PT w p1 xs → Calls Tryz.prog 17 #[p0, p1] w fun e w' => e = .returned (.bool true) ∧ Below w.heap.size w w') (Dgx : ∀ (p0 : Value) (w : World), PT w p0 xa → Calls Tryz.prog 15 #[p0] w fun e w' => e = .returned (.int .i64 dx) ∧ Below w.heap.size w w') (Dga : ∀ (p0 : Value) (w : World), PT w p0 pa → Calls Tryz.prog 15 #[p0] w fun e w' => e = .returned (.int .i64 da) ∧ Below w.heap.size w w') (Dgy : ∀ (p0 : Value) (w : World), PT w p0 ya → Calls Tryz.prog 15 #[p0] w fun e w' => e = .returned (.int .i64 dy) ∧ Below w.heap.size w w') (HI5 : ∀ w, Calls Tryz.prog 35 #[.int .i64 5] w fun xe w' => xe = .returned (fracV c5) ∧ Below w.heap.size w w') (HK : ∀ (w : World), Calls Tryz.prog 34 #[fracV c5] w fun e w' => ∃ pv, e = .returned pv ∧ PT w' pv pk ∧ Below w.heap.size w w') (Dx5 : ∀ (p0 : Value) (w : World), PT w p0 pk → Calls Tryz.prog 32 #[p0] w fun e w' => ∃ pv, e = .returned pv ∧ PT w' pv ([]) ∧ Below w.heap.size w w') (Dy5 : ∀ (p0 : Value) (w : World), PT w p0 pk → Calls Tryz.prog 33 #[p0] w fun e w' => ∃ pv, e = .returned pv ∧ PT w' pv ([]) ∧ Below w.heap.size w w') (Dy1 : ∀ (p0 : Value) (w : World), PT w p0 pa → Calls Tryz.prog 33 #[p0] w fun e w' => ∃ pv, e = .returned pv ∧ PT w' pv ya ∧ Below w.heap.size w w') (Dy2 : ∀ (p0 : Value) (w : World), PT w p0 pb → Calls Tryz.prog 33 #[p0] w fun e w' => ∃ pv, e = .returned pv ∧ PT w' pv yb ∧ Below w.heap.size w w') (Dy3 : ∀ (p0 : Value) (w : World), PT w p0 pc → Calls Tryz.prog 33 #[p0] w fun e w' => ∃ pv, e = .returned pv ∧ PT w' pv yc ∧ Below w.heap.size w w') (My1 : ∀ (p0 p1 : Value) (w : World), PT w p0 ya → PT w p1 pb → Calls Tryz.prog 23 #[p0, p1] w fun e w' => ∃ pv, e = .returned (.tuple #[pv, .int .i64 0]) ∧ PT w' pv g7 ∧ Below w.heap.size w w') (My2 : ∀ (p0 p1 : Value) (w : World), PT w p0 pa → PT w p1 yb → Calls Tryz.prog 23 #[p0, p1] w fun e w' => ∃ pv, e = .returned (.tuple #[pv, .int .i64 0]) ∧ PT w' pv g8 ∧ Below w.heap.size w w') (Ay1 : ∀ (p0 p1 : Value) (w : World), PT w p0 g7 → PT w p1 g8 → Calls Tryz.prog 24 #[p0, p1] w fun e w' => ∃ pv, e = .returned pv ∧ PT w' pv g9 ∧ Below w.heap.size w w') (Sy1 : ∀ (p0 p1 : Value) (w : World), PT w p0 yc → PT w p1 g9 → Calls Tryz.prog 17 #[p0, p1] w fun e w' => e = .returned (.bool true) ∧ Below w.heap.size w w') (Dy4 : ∀ (p0 : Value) (w : World), PT w p0 pp → Calls Tryz.prog 33 #[p0] w fun e w' => ∃ pv, e = .returned pv ∧ PT w' pv yp ∧ Below w.heap.size w w') (Ay2 : ∀ (p0 p1 : Value) (w : World), PT w p0 ya → PT w p1 yb → Calls Tryz.prog 24 #[p0, p1] w fun e w' => ∃ pv, e = .returned pv ∧ PT w' pv ys ∧ Below w.heap.size w w') (Sy2 : ∀ (p0 p1 : Value) (w : World), PT w p0 yp → PT w p1 ys → Calls Tryz.prog 17 #[p0, p1] w fun e w' => e = .returned (.bool true) ∧ Below w.heap.size w w') (Dxy : ∀ (p0 : Value) (w : World), PT w p0 ya → Calls Tryz.prog 32 #[p0] w fun e w' => ∃ pv, e = .returned pv ∧ PT w' pv xya ∧ Below w.heap.size w w') (Dyx : ∀ (p0 : Value) (w : World), PT w p0 xa → Calls Tryz.prog 33 #[p0] w fun e w' => ∃ pv, e = .returned pv ∧ PT w' pv yxa ∧ Below w.heap.size w w') (Sxy : ∀ (p0 p1 : Value) (w : World), PT w p0 xya → PT w p1 yxa → Calls Tryz.prog 17 #[p0, p1] w fun e w' => e = .returned (.bool true) ∧ Below w.heap.size w w') (HLa : ∀ (p0 : Value) (w : World), PT w p0 pa → Calls Tryz.prog 36 #[p0] w fun e w' => ∃ pv, e = .returned pv ∧ PT w' pv la ∧ Below w.heap.size w w') (Dxx : ∀ (p0 : Value) (w : World), PT w p0 xa → Calls Tryz.prog 32 #[p0] w fun e w' => ∃ pv, e = .returned pv ∧ PT w' pv xxa ∧ Below w.heap.size w w') (Dyy : ∀ (p0 : Value) (w : World), PT w p0 ya → Calls Tryz.prog 33 #[p0] w fun e w' => ∃ pv, e = .returned pv ∧ PT w' pv yya ∧ Below w.heap.size w w') (Asl : ∀ (p0 p1 : Value) (w : World), PT w p0 xxa → PT w p1 yya → Calls Tryz.prog 24 #[p0, p1] w fun e w' => ∃ pv, e = .returned pv ∧ PT w' pv sl ∧ Below w.heap.size w w') (Sl8 : ∀ (p0 p1 : Value) (w : World), PT w p0 la → PT w p1 sl → Calls Tryz.prog 17 #[p0, p1] w fun e w' => e = .returned (.bool true) ∧ Below w.heap.size w w') (KT : World → Prop) (hKT : Keeps KT) (HW : ∀ w, KT w → Calls Tryz.prog 8 #[] w fun xe w' => xe = .returned (.bool true) ∧ Below w.heap.size w w') (l0 : decide ((8 : Int) < ((nl : Nat) : Int)) = false) (k0 : decide (8 < nl) = false) (l1 : decide ((8 : Int) < ((nm : Nat) : Int)) = false) (k1 : decide (8 < nm) = false) (e1 : IntKind.i64.wrap (da - 1) = d1) (e2 : wrap64 (da - 1) = d1) (e3 : max (-1) d1 = mx) (e4 : decide (mx < dx) = false) (e5 : decide (mx < dy) = false) (w : World) (kKL : KL w) (kKM : KM w) (kKT : KT w) :
  Calls Tryz.prog 5 #[.slice al nl cl, .slice am nm cm] w fun e w' => e = .returned (.bool true) ∧ Below w.heap.size w w' := by
 replace hKL := Lib.hid hKL
 replace HMa := Lib.hid HMa
 replace hKM := Lib.hid hKM
 replace HMb := Lib.hid HMb
 replace HMu := Lib.hid HMu
 replace Dx1 := Lib.hid Dx1
 replace Dx2 := Lib.hid Dx2
 replace Dx3 := Lib.hid Dx3
 replace Mx1 := Lib.hid Mx1
 replace Mx2 := Lib.hid Mx2
 replace Ax1 := Lib.hid Ax1
 replace Sx1 := Lib.hid Sx1
 replace App := Lib.hid App
 replace Dx4 := Lib.hid Dx4
 replace Ax2 := Lib.hid Ax2
 replace Sx2 := Lib.hid Sx2
 replace Dgx := Lib.hid Dgx
 replace Dga := Lib.hid Dga
 replace Dgy := Lib.hid Dgy
 replace HI5 := Lib.hid HI5
 replace HK := Lib.hid HK
 replace Dx5 := Lib.hid Dx5
 replace Dy5 := Lib.hid Dy5
 replace Dy1 := Lib.hid Dy1
 replace Dy2 := Lib.hid Dy2
 replace Dy3 := Lib.hid Dy3
 replace My1 := Lib.hid My1
 replace My2 := Lib.hid My2
 replace Ay1 := Lib.hid Ay1
 replace Sy1 := Lib.hid Sy1
 replace Dy4 := Lib.hid Dy4
 replace Ay2 := Lib.hid Ay2
 replace Sy2 := Lib.hid Sy2
 replace Dxy := Lib.hid Dxy
 replace Dyx := Lib.hid Dyx
 replace Sxy := Lib.hid Sxy
 replace HLa := Lib.hid HLa
 replace Dxx := Lib.hid Dxx
 replace Dyy := Lib.hid Dyy
 replace Asl := Lib.hid Asl
 replace Sl8 := Lib.hid Sl8
 replace hKT := Lib.hid hKT
 replace HW := Lib.hid HW
 have hL0 : GL w w [] := GL.start w
 have hT : PTs w [] := PTs.nil w
 have egx := enters_of Tryz.func32 (by kernel_rfl) rfl
 have egy := enters_of Tryz.func33 (by kernel_rfl) rfl
 go_enter Tryz.func5, Tryz.ntmps5
 go_wp2_with fail
 with_reducible refine Calls.mono (HMa.out _ (hKL.out.at (hL0.bl) kKL)) ?_
 rintro e x1 ⟨v0, rfl, q0, hb⟩
 replace hL0 := hL0.call hb
 replace hT := hT.call hb
 clear hb
 obtain ⟨g1, d1, g1c, rfl, -⟩ := pt_form q0
 replace hT := hT.cons q0
 clear q0
 go_wp2_with fail
 with_reducible refine Calls.mono (HMb.out _ (hKM.out.at (hL0.bl) kKM)) ?_
 rintro e x2 ⟨v0, rfl, q0, hb⟩
 replace hL0 := hL0.call hb
 replace hT := hT.call hb
 clear hb
 obtain ⟨g2, d2, g2c, rfl, -⟩ := pt_form q0
 replace hT := hT.cons q0
 clear q0
 go_wp2_with fail
 with_reducible refine Calls.mono (HMu.out (.slice g1 d1 g1c) (.slice g2 d2 g2c) _ (hT.get (mK mZ)) (hT.get mZ)) ?_
 rintro e x3 ⟨v0, rfl, q0, hb⟩
 replace hL0 := hL0.call hb
 replace hT := hT.call hb
 clear hb
 obtain ⟨g3, d3, g3c, rfl, -⟩ := pt_form q0
 replace hT := hT.cons q0
 clear q0
 go_wp2_with fail
 go_loopg [9] 2 (fun gk iv wr => ∃ (i : Nat), i + gk = 2 ∧ iv = .int .i64 (i : Int) ∧ GL w wr [] ∧ PTs wr [(.slice g3 d3 g3c, pc), (.slice g2 d2 g2c, pb), (.slice g1 d1 g1c, pa)])
 case atStart => exact ⟨0, by omega, by first | rfl | go_num, hL0, hT⟩
 case round =>
  clear hL0 hT
  obtain ⟨i, hik, rfl, hL0, hT⟩ := hrel
  rcases (by omega : i = 0 ∨ i = 1 ∨ i = 2) with rfl | rfl | rfl
  ·obtain rfl : gk = 2 := by omega
   go_wp2_with fail
   with_reducible refine Calls.mono (Dx1.out (.slice g1 d1 g1c) _ (hT.get (mK (mK mZ)))) ?_
   rintro e x4 ⟨v0, rfl, q0, hb⟩
   replace hL0 := hL0.call hb
   replace hT := hT.call hb
   clear hb
   obtain ⟨g4, d4, g4c, rfl, -⟩ := pt_form q0
   replace hT := hT.cons q0
   clear q0
   go_wp2_with fail
   with_reducible refine Calls.mono (Mx1.out (.slice g4 d4 g4c) (.slice g2 d2 g2c) _ (hT.get mZ) (hT.get (mK (mK mZ)))) ?_
   rintro e x5 ⟨v0, rfl, q0, hb⟩
   replace hL0 := hL0.call hb
   replace hT := hT.call hb
   clear hb
   obtain ⟨g5, d5, g5c, rfl, -⟩ := pt_form q0
   replace hT := hT.cons q0
   clear q0
   go_wp2_with fail
   with_reducible refine Calls.mono (Dx2.out (.slice g2 d2 g2c) _ (hT.get (mK (mK (mK mZ))))) ?_
   rintro e x6 ⟨v0, rfl, q0, hb⟩
   replace hL0 := hL0.call hb
   replace hT := hT.call hb
   clear hb
   obtain ⟨g6, d6, g6c, rfl, -⟩ := pt_form q0
   replace hT := hT.cons q0
   clear q0
   go_wp2_with fail
   with_reducible refine Calls.mono (Mx2.out (.slice g1 d1 g1c) (.slice g6 d6 g6c) _ (hT.get (mK (mK (mK (mK (mK mZ)))))) (hT.get mZ)) ?_
   rintro e x7 ⟨v0, rfl, q0, hb⟩
   replace hL0 := hL0.call hb
   replace hT := hT.call hb
   clear hb
   obtain ⟨g7, d7, g7c, rfl, -⟩ := pt_form q0
   replace hT := hT.cons q0
   clear q0
   go_wp2_with fail
   with_reducible refine Calls.mono (Dx3.out (.slice g3 d3 g3c) _ (hT.get (mK (mK (mK (mK mZ)))))) ?_
   rintro e x8 ⟨v0, rfl, q0, hb⟩
   replace hL0 := hL0.call hb
   replace hT := hT.call hb
   clear hb
   obtain ⟨g8, d8, g8c, rfl, -⟩ := pt_form q0
   replace hT := hT.cons q0
   clear q0
   go_wp2_with fail
   with_reducible refine Calls.mono (Ax1.out (.slice g5 d5 g5c) (.slice g7 d7 g7c) _ (hT.get (mK (mK (mK mZ)))) (hT.get (mK mZ))) ?_
   rintro e x9 ⟨v0, rfl, q0, hb⟩
   replace hL0 := hL0.call hb
   replace hT := hT.call hb
   clear hb
   obtain ⟨g9, d9, g9c, rfl, -⟩ := pt_form q0
   replace hT := hT.cons q0
   clear q0
   go_wp2_with fail
   with_reducible refine Calls.mono (Sx1.out (.slice g8 d8 g8c) (.slice g9 d9 g9c) _ (hT.get (mK mZ)) (hT.get mZ)) ?_
   rintro e x10 ⟨rfl, hb⟩
   replace hL0 := hL0.call hb
   replace hT := hT.call hb
   clear hb
   go_wp2_with fail
   with_reducible refine Calls.mono (App.out (.slice g1 d1 g1c) (.slice g2 d2 g2c) _ (hT.get (mK (mK (mK (mK (mK (mK (mK (mK mZ))))))))) (hT.get (mK (mK (mK (mK (mK (mK (mK mZ))))))))) ?_
   rintro e x11 ⟨v0, rfl, q0, hb⟩
   replace hL0 := hL0.call hb
   replace hT := hT.call hb
   clear hb
   obtain ⟨g10, d10, g10c, rfl, -⟩ := pt_form q0
   replace hT := hT.cons q0
   clear q0
   go_wp2_with fail
   with_reducible refine Calls.mono (Dx4.out (.slice g10 d10 g10c) _ (hT.get mZ)) ?_
   rintro e x12 ⟨v0, rfl, q0, hb⟩
   replace hL0 := hL0.call hb
   replace hT := hT.call hb
   clear hb
   obtain ⟨g11, d11, g11c, rfl, -⟩ := pt_form q0
   replace hT := hT.cons q0
   clear q0
   go_wp2_with fail
   with_reducible refine Calls.mono (Dx1.out (.slice g1 d1 g1c) _ (hT.get (mK (mK (mK (mK (mK (mK (mK (mK (mK (mK mZ)))))))))))) ?_
   rintro e x13 ⟨v0, rfl, q0, hb⟩
   replace hL0 := hL0.call hb
   replace hT := hT.call hb
   clear hb
   obtain ⟨g12, d12, g12c, rfl, -⟩ := pt_form q0
   replace hT := hT.cons q0
   clear q0
   go_wp2_with fail
   with_reducible refine Calls.mono (Dx2.out (.slice g2 d2 g2c) _ (hT.get (mK (mK (mK (mK (mK (mK (mK (mK (mK (mK mZ)))))))))))) ?_
   rintro e x14 ⟨v0, rfl, q0, hb⟩
   replace hL0 := hL0.call hb
   replace hT := hT.call hb
   clear hb
   obtain ⟨g13, d13, g13c, rfl, -⟩ := pt_form q0
   replace hT := hT.cons q0
   clear q0
   go_wp2_with fail
   with_reducible refine Calls.mono (Ax2.out (.slice g12 d12 g12c) (.slice g13 d13 g13c) _ (hT.get (mK mZ)) (hT.get mZ)) ?_
   rintro e x15 ⟨v0, rfl, q0, hb⟩
   replace hL0 := hL0.call hb
   replace hT := hT.call hb
   clear hb
   obtain ⟨g14, d14, g14c, rfl, -⟩ := pt_form q0
   replace hT := hT.cons q0
   clear q0
   go_wp2_with fail
   with_reducible refine Calls.mono (Sx2.out (.slice g11 d11 g11c) (.slice g14 d14 g14c) _ (hT.get (mK (mK (mK mZ)))) (hT.get mZ)) ?_
   rintro e x16 ⟨rfl, hb⟩
   replace hL0 := hL0.call hb
   replace hT := hT.call hb
   clear hb
   go_wp2_with fail
   with_reducible refine Calls.mono (Dx1.out (.slice g1 d1 g1c) _ (hT.get (mK (mK (mK (mK (mK (mK (mK (mK (mK (mK (mK (mK (mK mZ))))))))))))))) ?_
   rintro e x17 ⟨v0, rfl, q0, hb⟩
   replace hL0 := hL0.call hb
   replace hT := hT.call hb
   clear hb
   obtain ⟨g15, d15, g15c, rfl, -⟩ := pt_form q0
   replace hT := hT.cons q0
   clear q0
   go_wp2_with fail
   with_reducible refine Calls.mono (Dgx.out (.slice g15 d15 g15c) _ (hT.get mZ)) ?_
   rintro e x18 ⟨rfl, hb⟩
   replace hL0 := hL0.call hb
   replace hT := hT.call hb
   clear hb
   go_wp2_with fail
   with_reducible refine Calls.mono (Dga.out (.slice g1 d1 g1c) _ (hT.get (mK (mK (mK (mK (mK (mK (mK (mK (mK (mK (mK (mK (mK (mK mZ)))))))))))))))) ?_
   rintro e x19 ⟨rfl, hb⟩
   replace hL0 := hL0.call hb
   replace hT := hT.call hb
   clear hb
   go_wp2_with fail
   with_reducible refine Calls.mono (HI5.out _) ?_
   rintro e x20 ⟨rfl, hb⟩
   replace hL0 := hL0.call hb
   replace hT := hT.call hb
   clear hb
   go_wp2_with fail
   with_reducible refine Calls.mono (HK.out _) ?_
   rintro e x21 ⟨v0, rfl, q0, hb⟩
   replace hL0 := hL0.call hb
   replace hT := hT.call hb
   clear hb
   obtain ⟨g16, d16, g16c, rfl, -⟩ := pt_form q0
   replace hT := hT.cons q0
   clear q0
   go_wp2_with fail
   with_reducible refine Calls.mono (Dx5.out (.slice g16 d16 g16c) _ (hT.get mZ)) ?_
   rintro e x22 ⟨v0, rfl, q0, hb⟩
   replace hL0 := hL0.call hb
   replace hT := hT.call hb
   clear hb
   obtain ⟨g17, d17, g17c, rfl, d17h⟩ := pt_form q0
   obtain rfl : d17 = 0 := d17h
   replace hT := hT.cons q0
   clear q0
   go_wp2_with fail
   go_roundg 1
   case measure => omega
   case rel => exact ⟨1, by omega, by first | rfl | go_num, hL0, fun p hp => hT p (mK (mK (mK (mK (mK (mK (mK (mK (mK (mK (mK (mK (mK (mK (hp)))))))))))))))⟩
  ·obtain rfl : gk = 1 := by omega
   go_wp2_with fail
   with_reducible refine Calls.mono (Dy1.out (.slice g1 d1 g1c) _ (hT.get (mK (mK mZ)))) ?_
   rintro e x4 ⟨v0, rfl, q0, hb⟩
   replace hL0 := hL0.call hb
   replace hT := hT.call hb
   clear hb
   obtain ⟨g18, d18, g18c, rfl, -⟩ := pt_form q0
   replace hT := hT.cons q0
   clear q0
   go_wp2_with fail
   with_reducible refine Calls.mono (My1.out (.slice g18 d18 g18c) (.slice g2 d2 g2c) _ (hT.get mZ) (hT.get (mK (mK mZ)))) ?_
   rintro e x5 ⟨v0, rfl, q0, hb⟩
   replace hL0 := hL0.call hb
   replace hT := hT.call hb
   clear hb
   obtain ⟨g19, d19, g19c, rfl, -⟩ := pt_form q0
   replace hT := hT.cons q0
   clear q0
   go_wp2_with fail
   with_reducible refine Calls.mono (Dy2.out (.slice g2 d2 g2c) _ (hT.get (mK (mK (mK mZ))))) ?_
   rintro e x6 ⟨v0, rfl, q0, hb⟩
   replace hL0 := hL0.call hb
   replace hT := hT.call hb
   clear hb
   obtain ⟨g20, d20, g20c, rfl, -⟩ := pt_form q0
   replace hT := hT.cons q0
   clear q0
   go_wp2_with fail
   with_reducible refine Calls.mono (My2.out (.slice g1 d1 g1c) (.slice g20 d20 g20c) _ (hT.get (mK (mK (mK (mK (mK mZ)))))) (hT.get mZ)) ?_
   rintro e x7 ⟨v0, rfl, q0, hb⟩
   replace hL0 := hL0.call hb
   replace hT := hT.call hb
   clear hb
   obtain ⟨g21, d21, g21c, rfl, -⟩ := pt_form q0
   replace hT := hT.cons q0
   clear q0
   go_wp2_with fail
   with_reducible refine Calls.mono (Dy3.out (.slice g3 d3 g3c) _ (hT.get (mK (mK (mK (mK mZ)))))) ?_
   rintro e x8 ⟨v0, rfl, q0, hb⟩
   replace hL0 := hL0.call hb
   replace hT := hT.call hb
   clear hb
   obtain ⟨g22, d22, g22c, rfl, -⟩ := pt_form q0
   replace hT := hT.cons q0
   clear q0
   go_wp2_with fail
   with_reducible refine Calls.mono (Ay1.out (.slice g19 d19 g19c) (.slice g21 d21 g21c) _ (hT.get (mK (mK (mK mZ)))) (hT.get (mK mZ))) ?_
   rintro e x9 ⟨v0, rfl, q0, hb⟩
   replace hL0 := hL0.call hb
   replace hT := hT.call hb
   clear hb
   obtain ⟨g23, d23, g23c, rfl, -⟩ := pt_form q0
   replace hT := hT.cons q0
   clear q0
   go_wp2_with fail
   with_reducible refine Calls.mono (Sy1.out (.slice g22 d22 g22c) (.slice g23 d23 g23c) _ (hT.get (mK mZ)) (hT.get mZ)) ?_
   rintro e x10 ⟨rfl, hb⟩
   replace hL0 := hL0.call hb
   replace hT := hT.call hb
   clear hb
   go_wp2_with fail
   with_reducible refine Calls.mono (App.out (.slice g1 d1 g1c) (.slice g2 d2 g2c) _ (hT.get (mK (mK (mK (mK (mK (mK (mK (mK mZ))))))))) (hT.get (mK (mK (mK (mK (mK (mK (mK mZ))))))))) ?_
   rintro e x11 ⟨v0, rfl, q0, hb⟩
   replace hL0 := hL0.call hb
   replace hT := hT.call hb
   clear hb
   obtain ⟨g24, d24, g24c, rfl, -⟩ := pt_form q0
   replace hT := hT.cons q0
   clear q0
   go_wp2_with fail
   with_reducible refine Calls.mono (Dy4.out (.slice g24 d24 g24c) _ (hT.get mZ)) ?_
   rintro e x12 ⟨v0, rfl, q0, hb⟩
   replace hL0 := hL0.call hb
   replace hT := hT.call hb
   clear hb
   obtain ⟨g25, d25, g25c, rfl, -⟩ := pt_form q0
   replace hT := hT.cons q0
   clear q0
   go_wp2_with fail
   with_reducible refine Calls.mono (Dy1.out (.slice g1 d1 g1c) _ (hT.get (mK (mK (mK (mK (mK (mK (mK (mK (mK (mK mZ)))))))))))) ?_
   rintro e x13 ⟨v0, rfl, q0, hb⟩
   replace hL0 := hL0.call hb
   replace hT := hT.call hb
   clear hb
   obtain ⟨g26, d26, g26c, rfl, -⟩ := pt_form q0
   replace hT := hT.cons q0
   clear q0
   go_wp2_with fail
   with_reducible refine Calls.mono (Dy2.out (.slice g2 d2 g2c) _ (hT.get (mK (mK (mK (mK (mK (mK (mK (mK (mK (mK mZ)))))))))))) ?_
   rintro e x14 ⟨v0, rfl, q0, hb⟩
   replace hL0 := hL0.call hb
   replace hT := hT.call hb
   clear hb
   obtain ⟨g27, d27, g27c, rfl, -⟩ := pt_form q0
   replace hT := hT.cons q0
   clear q0
   go_wp2_with fail
   with_reducible refine Calls.mono (Ay2.out (.slice g26 d26 g26c) (.slice g27 d27 g27c) _ (hT.get (mK mZ)) (hT.get mZ)) ?_
   rintro e x15 ⟨v0, rfl, q0, hb⟩
   replace hL0 := hL0.call hb
   replace hT := hT.call hb
   clear hb
   obtain ⟨g28, d28, g28c, rfl, -⟩ := pt_form q0
   replace hT := hT.cons q0
   clear q0
   go_wp2_with fail
   with_reducible refine Calls.mono (Sy2.out (.slice g25 d25 g25c) (.slice g28 d28 g28c) _ (hT.get (mK (mK (mK mZ)))) (hT.get mZ)) ?_
   rintro e x16 ⟨rfl, hb⟩
   replace hL0 := hL0.call hb
   replace hT := hT.call hb
   clear hb
   go_wp2_with fail
   with_reducible refine Calls.mono (Dy1.out (.slice g1 d1 g1c) _ (hT.get (mK (mK (mK (mK (mK (mK (mK (mK (mK (mK (mK (mK (mK mZ))))))))))))))) ?_
   rintro e x17 ⟨v0, rfl, q0, hb⟩
   replace hL0 := hL0.call hb
   replace hT := hT.call hb
   clear hb
   obtain ⟨g29, d29, g29c, rfl, -⟩ := pt_form q0
   replace hT := hT.cons q0
   clear q0
   go_wp2_with fail
   with_reducible refine Calls.mono (Dgy.out (.slice g29 d29 g29c) _ (hT.get mZ)) ?_
   rintro e x18 ⟨rfl, hb⟩
   replace hL0 := hL0.call hb
   replace hT := hT.call hb
   clear hb
   go_wp2_with fail
   with_reducible refine Calls.mono (Dga.out (.slice g1 d1 g1c) _ (hT.get (mK (mK (mK (mK (mK (mK (mK (mK (mK (mK (mK (mK (mK (mK mZ)))))))))))))))) ?_
   rintro e x19 ⟨rfl, hb⟩
   replace hL0 := hL0.call hb
   replace hT := hT.call hb
   clear hb
   go_wp2_with fail
   with_reducible refine Calls.mono (HI5.out _) ?_
   rintro e x20 ⟨rfl, hb⟩
   replace hL0 := hL0.call hb
   replace hT := hT.call hb
   clear hb
   go_wp2_with fail
   with_reducible refine Calls.mono (HK.out _) ?_
   rintro e x21 ⟨v0, rfl, q0, hb⟩
   replace hL0 := hL0.call hb
   replace hT := hT.call hb
   clear hb
   obtain ⟨g30, d30, g30c, rfl, -⟩ := pt_form q0
   replace hT := hT.cons q0
   clear q0
   go_wp2_with fail
   with_reducible refine Calls.mono (Dy5.out (.slice g30 d30 g30c) _ (hT.get mZ)) ?_
   rintro e x22 ⟨v0, rfl, q0, hb⟩
   replace hL0 := hL0.call hb
   replace hT := hT.call hb
   clear hb
   obtain ⟨g31, d31, g31c, rfl, d31h⟩ := pt_form q0
   obtain rfl : d31 = 0 := d31h
   replace hT := hT.cons q0
   clear q0
   go_wp2_with fail
   go_roundg 0
   case measure => omega
   case rel => exact ⟨2, by omega, by first | rfl | go_num, hL0, fun p hp => hT p (mK (mK (mK (mK (mK (mK (mK (mK (mK (mK (mK (mK (mK (mK (hp)))))))))))))))⟩
  ·obtain rfl : gk = 0 := by omega
   go_wp2_with fail
   with_reducible refine Calls.mono (Dy1.out (.slice g1 d1 g1c) _ (hT.get (mK (mK mZ)))) ?_
   rintro e x4 ⟨v0, rfl, q0, hb⟩
   replace hL0 := hL0.call hb
   replace hT := hT.call hb
   clear hb
   obtain ⟨g32, d32, g32c, rfl, -⟩ := pt_form q0
   replace hT := hT.cons q0
   clear q0
   go_wp2_with fail
   with_reducible refine Calls.mono (Dxy.out (.slice g32 d32 g32c) _ (hT.get mZ)) ?_
   rintro e x5 ⟨v0, rfl, q0, hb⟩
   replace hL0 := hL0.call hb
   replace hT := hT.call hb
   clear hb
   obtain ⟨g33, d33, g33c, rfl, -⟩ := pt_form q0
   replace hT := hT.cons q0
   clear q0
   go_wp2_with fail
   with_reducible refine Calls.mono (Dx1.out (.slice g1 d1 g1c) _ (hT.get (mK (mK (mK (mK mZ)))))) ?_
   rintro e x6 ⟨v0, rfl, q0, hb⟩
   replace hL0 := hL0.call hb
   replace hT := hT.call hb
   clear hb
   obtain ⟨g34, d34, g34c, rfl, -⟩ := pt_form q0
   replace hT := hT.cons q0
   clear q0
   go_wp2_with fail
   with_reducible refine Calls.mono (Dyx.out (.slice g34 d34 g34c) _ (hT.get mZ)) ?_
   rintro e x7 ⟨v0, rfl, q0, hb⟩
   replace hL0 := hL0.call hb
   replace hT := hT.call hb
   clear hb
   obtain ⟨g35, d35, g35c, rfl, -⟩ := pt_form q0
   replace hT := hT.cons q0
   clear q0
   go_wp2_with fail
   with_reducible refine Calls.mono (Sxy.out (.slice g33 d33 g33c) (.slice g35 d35 g35c) _ (hT.get (mK (mK mZ))) (hT.get mZ)) ?_
   rintro e x8 ⟨rfl, hb⟩
   replace hL0 := hL0.call hb
   replace hT := hT.call hb
   clear hb
   go_wp2_with fail
   with_reducible refine Calls.mono (HLa.out (.slice g1 d1 g1c) _ (hT.get (mK (mK (mK (mK (mK (mK mZ)))))))) ?_
   rintro e x9 ⟨v0, rfl, q0, hb⟩
   replace hL0 := hL0.call hb
   replace hT := hT.call hb
   clear hb
   obtain ⟨g36, d36, g36c, rfl, -⟩ := pt_form q0
   replace hT := hT.cons q0
   clear q0
   go_wp2_with fail
   with_reducible refine Calls.mono (Dx1.out (.slice g1 d1 g1c) _ (hT.get (mK (mK (mK (mK (mK (mK (mK mZ))))))))) ?_
   rintro e x10 ⟨v0, rfl, q0, hb⟩
   replace hL0 := hL0.call hb
   replace hT := hT.call hb
   clear hb
   obtain ⟨g37, d37, g37c, rfl, -⟩ := pt_form q0
   replace hT := hT.cons q0
   clear q0
   go_wp2_with fail
   with_reducible refine Calls.mono (Dxx.out (.slice g37 d37 g37c) _ (hT.get mZ)) ?_
   rintro e x11 ⟨v0, rfl, q0, hb⟩
   replace hL0 := hL0.call hb
   replace hT := hT.call hb
   clear hb
   obtain ⟨g38, d38, g38c, rfl, -⟩ := pt_form q0
   replace hT := hT.cons q0
   clear q0
   go_wp2_with fail
   with_reducible refine Calls.mono (Dy1.out (.slice g1 d1 g1c) _ (hT.get (mK (mK (mK (mK (mK (mK (mK (mK (mK mZ))))))))))) ?_
   rintro e x12 ⟨v0, rfl, q0, hb⟩
   replace hL0 := hL0.call hb
   replace hT := hT.call hb
   clear hb
   obtain ⟨g39, d39, g39c, rfl, -⟩ := pt_form q0
   replace hT := hT.cons q0
   clear q0
   go_wp2_with fail
   with_reducible refine Calls.mono (Dyy.out (.slice g39 d39 g39c) _ (hT.get mZ)) ?_
   rintro e x13 ⟨v0, rfl, q0, hb⟩
   replace hL0 := hL0.call hb
   replace hT := hT.call hb
   clear hb
   obtain ⟨g40, d40, g40c, rfl, -⟩ := pt_form q0
   replace hT := hT.cons q0
   clear q0
   go_wp2_with fail
   with_reducible refine Calls.mono (Asl.out (.slice g38 d38 g38c) (.slice g40 d40 g40c) _ (hT.get (mK (mK mZ))) (hT.get mZ)) ?_
   rintro e x14 ⟨v0, rfl, q0, hb⟩
   replace hL0 := hL0.call hb
   replace hT := hT.call hb
   clear hb
   obtain ⟨g41, d41, g41c, rfl, -⟩ := pt_form q0
   replace hT := hT.cons q0
   clear q0
   go_wp2_with fail
   with_reducible refine Calls.mono (Sl8.out (.slice g36 d36 g36c) (.slice g41 d41 g41c) _ (hT.get (mK (mK (mK (mK (mK mZ)))))) (hT.get mZ)) ?_
   rintro e x15 ⟨rfl, hb⟩
   replace hL0 := hL0.call hb
   replace hT := hT.call hb
   clear hb
   go_wp2_with fail
   with_reducible refine Calls.mono (HW.out _ (hKT.out.at hL0.bl kKT)) ?_
   rintro e x16 ⟨rfl, hb⟩
   replace hL0 := hL0.call hb
   replace hT := hT.call hb
   clear hb
   go_wp2_with fail
   exact bodyPost_ret (v := .bool true) (by simp [results, Tryz.results5, go_sem]) rfl ⟨rfl, hL0.bl⟩
end Go.Proofs.YtkpghlnegbimdaaGreatDoor
namespace Go.Proofs.YtkpghlnegbimdaaGreatDoor
open Go.RowKit
attribute [local irreducible] lo hs sm s64 c64 d64 b64 mh ml pd pc qd qc val hiB str cmpI srD lz nb zl zh zs fe klT ordZ
theorem mulN_eqv (p q : TL) : Eqv (mulN p q) (prodL p q) := nfL_eqv _
theorem dx_app (p q : TL) : Eqv (dxL (p ++ q)) (dxL p ++ dxL q) := fun F => by rw [pair_dx, pair_append, pair_append, pair_dx, pair_dx]
theorem dy_app (p q : TL) : Eqv (dyL (p ++ q)) (dyL p ++ dyL q) := fun F => by rw [pair_dy, pair_append, pair_append, pair_dy, pair_dy]
theorem rule_x (p q : TL) : dxN (mulN p q) = addN (mulN (dxN p) q) (mulN p (dxN q)) :=
 nf_uniq (nfL_nf _) (nfL_nf _) ((dxN_eqv _).trans ((dx_eqv (mulN_eqv p q)).trans ((dx_prod p q).trans (Eqv.symm ((addN_eqv _ _).trans (add_eqv ((mulN_eqv _ _).trans (prod_eqv (dxN_eqv p) (Eqv.refl q))) ((mulN_eqv _ _).trans (prod_eqv (Eqv.refl p) (dxN_eqv q)))))))))
theorem rule_y (p q : TL) : dyN (mulN p q) = addN (mulN (dyN p) q) (mulN p (dyN q)) :=
 nf_uniq (nfL_nf _) (nfL_nf _) ((dyN_eqv _).trans ((dy_eqv (mulN_eqv p q)).trans ((dy_prod p q).trans (Eqv.symm ((addN_eqv _ _).trans (add_eqv ((mulN_eqv _ _).trans (prod_eqv (dyN_eqv p) (Eqv.refl q))) ((mulN_eqv _ _).trans (prod_eqv (Eqv.refl p) (dyN_eqv q)))))))))
theorem sum_x (p q : TL) : dxN (addN p q) = addN (dxN p) (dxN q) :=
 nf_uniq (nfL_nf _) (nfL_nf _) ((dxN_eqv _).trans ((dx_eqv (addN_eqv p q)).trans ((dx_app p q).trans (Eqv.symm ((addN_eqv _ _).trans (add_eqv (dxN_eqv p) (dxN_eqv q)))))))
theorem sum_y (p q : TL) : dyN (addN p q) = addN (dyN p) (dyN q) :=
 nf_uniq (nfL_nf _) (nfL_nf _) ((dyN_eqv _).trans ((dy_eqv (addN_eqv p q)).trans ((dy_app p q).trans (Eqv.symm ((addN_eqv _ _).trans (add_eqv (dyN_eqv p) (dyN_eqv q)))))))
theorem deg_dx {p : TL} (hp : NF p) : degI (dxN p) ≤ max (-1) (degI p - 1) := by
 by_cases h0 : dxN p = []
 ·rw [h0, degI_nil]; omega
 ·rw [degI_last h0]
  have h1 : ∀ t ∈ p, t.1 + t.2.1 ≤ (degI p).toNat := fun t ht => by have := degI_top hp t ht; omega
  have := dx_degree (r := dxN p) h1 (nfL_nf _) (dxN_eqv p) h0
  omega
theorem deg_dy {p : TL} (hp : NF p) : degI (dyN p) ≤ max (-1) (degI p - 1) := by
 by_cases h0 : dyN p = []
 ·rw [h0, degI_nil]; omega
 ·rw [degI_last h0]
  have h1 : ∀ t ∈ p, t.1 + t.2.1 ≤ (degI p).toNat := fun t ht => by have := degI_top hp t ht; omega
  have := dy_degree (r := dyN p) h1 (nfL_nf _) (dyN_eqv p) h0
  omega
theorem dx_con (c : Rat) : dxN (conN c) = [] := nf_uniq (nfL_nf _) NF.nil ((dxN_eqv _).trans ((dx_eqv (nfL_eqv _)).trans fun F => by
 rw [pair_dx]; show c * dxF F 0 0 + 0 = 0; rw [dxF_zero, Rat.mul_zero, Rat.zero_add]))
theorem dy_con (c : Rat) : dyN (conN c) = [] := nf_uniq (nfL_nf _) NF.nil ((dyN_eqv _).trans ((dy_eqv (nfL_eqv _)).trans fun F => by
 rw [pair_dy]; show c * dyF F 0 0 + 0 = 0; rw [dyF_zero, Rat.mul_zero, Rat.zero_add]))
theorem prules_any (l m : List RI) (hl : RO l) (hm : RO m) (al am : Option Addr) (nl cl nm cm : Nat) (w : World) (hv : RW8 w (.slice al nl cl) l) (hu : RW8 w (.slice am nm cm) m) (ht : Tab w) :
  Calls Tryz.prog 5 #[.slice al nl cl, .slice am nm cm] w fun e w' => e = .returned (.bool true) ∧ Below w.heap.size w w' := by
 have n1 := (rt_parts hv).1
 have n2 := (rt_parts hu).1
 by_cases g1 : 8 < nl
 ·exact prules_l1 al am nl cl nm cm Tab Keeps.tab lworks_any (decide_eq_true (by omega)) (decide_eq_true g1) w ht
 by_cases g2 : 8 < nm
 ·exact prules_l2 al am nl cl nm cm Tab Keeps.tab lworks_any (decide_eq_false (by omega)) (decide_eq_false g1) (decide_eq_true (by omega)) (decide_eq_true g2) w ht
 have ga := made_gp hl (by omega) (D := 5) (by omega)
 have gb := made_gp hm (by omega) (D := 5) (by omega)
 have hA := fun w hv => made_any hl (by omega) (D := 5) (by omega) al nl cl w hv
 have hB := fun w hv => made_any hm (by omega) (D := 5) (by omega) am nm cm w hv
 generalize nrm (madeL l 5) = A at ga hA
 generalize nrm (madeL m 5) = B at gb hB
 have gc := ga.mul gb
 have xa := ga.dx (by omega)
 have xb := gb.dx (by omega)
 have xc := gc.dx (by omega)
 have ya := ga.dy (by omega)
 have yb := gb.dy (by omega)
 have yc := gc.dy (by omega)
 have f1 := xa.mul gb
 have f2 := ga.mul xb
 have f3 := f1.add f2
 have g7 := ya.mul gb
 have g8 := ga.mul yb
 have g9 := g7.add g8
 have pp := ga.add gb
 have xp := pp.dx (by omega)
 have xs := xa.add xb
 have yp := pp.dy (by omega)
 have ys := ya.add yb
 have xya := ya.dx (by omega)
 have yxa := xa.dy (by omega)
 have xxa := xa.dx (by omega)
 have yya := ya.dy (by omega)
 have sl := xxa.add yya
 have gk := GP.con sz5
 have da := degI_ge A
 have db := degI_le ga.tb
 refine prules_w al am nl cl nm cm (ofL A) (ofL B) (ofL (mulN A B)) (ofL (dxN A)) (ofL (dxN B)) (ofL (dxN (mulN A B))) (ofL (mulN (dxN A) B)) (ofL (mulN A (dxN B))) (ofL (addN (mulN (dxN A) B) (mulN A (dxN B)))) (ofL (addN A B)) (ofL (dxN (addN A B))) (ofL (addN (dxN A) (dxN B))) (ofL (conN 5))
  (ofL (dyN A)) (ofL (dyN B)) (ofL (dyN (mulN A B))) (ofL (mulN (dyN A) B)) (ofL (mulN A (dyN B))) (ofL (addN (mulN (dyN A) B) (mulN A (dyN B)))) (ofL (dyN (addN A B))) (ofL (addN (dyN A) (dyN B))) (ofL (dxN (dyN A))) (ofL (dyN (dxN A))) (ofL (addN (dxN (dxN A)) (dyN (dyN A)))) (ofL (dxN (dxN A))) (ofL (dyN (dyN A))) (ofL (addN (dxN (dxN A)) (dyN (dyN A))))
  (degI (dxN A)) (degI (dyN A)) (degI A) (degI A - 1) (max (-1) (degI A - 1)) 5
  (fun w => RW8 w (.slice al nl cl) l) (rtKeeps _ _) hA (fun w => RW8 w (.slice am nm cm) m) (rtKeeps _ _) hB
  (fun p q w h g => mulG ga gb (by omega) (by omega) w p q h g)
  (fun p w h => dxG ga (by omega) (by omega) w p h)
  (fun p w h => dxG gb (by omega) (by omega) w p h)
  (fun p w h => dxG gc (by omega) (by omega) w p h)
  (fun p q w h g => mulG xa gb (by omega) (by omega) w p q h g)
  (fun p q w h g => mulG ga xb (by omega) (by omega) w p q h g)
  (fun p q w h g => addG f1 f2 (by omega) (by omega) (by omega) w p q h g)
  (fun p q w h g => by have := sameG xc f3 (by omega) (by omega) (by omega) (by omega) w p q h g; rwa [decide_eq_true (rule_x A B)] at this)
  (fun p q w h g => addG ga gb (by omega) (by omega) (by omega) w p q h g)
  (fun p w h => dxG pp (by omega) (by omega) w p h)
  (fun p q w h g => addG xa xb (by omega) (by omega) (by omega) w p q h g)
  (fun p q w h g => by have := sameG xp xs (by omega) (by omega) (by omega) (by omega) w p q h g; rwa [decide_eq_true (sum_x A B)] at this)
  (fun p w h => degG xa (by omega) (by omega) w p h)
  (fun p w h => degG ga (by omega) (by omega) w p h)
  (fun p w h => degG ya (by omega) (by omega) w p h)
  (fun w => intF 5 (by decide) (by decide) w)
  (fun w => conG sz5 (by omega) (by omega) w)
  (fun p w h => by have := dxG gk (by omega) (by omega) w p h; rwa [dx_con] at this)
  (fun p w h => by have := dyG gk (by omega) (by omega) w p h; rwa [dy_con] at this)
  (fun p w h => dyG ga (by omega) (by omega) w p h)
  (fun p w h => dyG gb (by omega) (by omega) w p h)
  (fun p w h => dyG gc (by omega) (by omega) w p h)
  (fun p q w h g => mulG ya gb (by omega) (by omega) w p q h g)
  (fun p q w h g => mulG ga yb (by omega) (by omega) w p q h g)
  (fun p q w h g => addG g7 g8 (by omega) (by omega) (by omega) w p q h g)
  (fun p q w h g => by have := sameG yc g9 (by omega) (by omega) (by omega) (by omega) w p q h g; rwa [decide_eq_true (rule_y A B)] at this)
  (fun p w h => dyG pp (by omega) (by omega) w p h)
  (fun p q w h g => addG ya yb (by omega) (by omega) (by omega) w p q h g)
  (fun p q w h g => by have := sameG yp ys (by omega) (by omega) (by omega) (by omega) w p q h g; rwa [decide_eq_true (sum_y A B)] at this)
  (fun p w h => dxG ya (by omega) (by omega) w p h)
  (fun p w h => dyG xa (by omega) (by omega) w p h)
  (fun p q w h g => by have := sameG xya yxa (by omega) (by omega) (by omega) (by omega) w p q h g; rwa [decide_eq_true (mixed A)] at this)
  (fun p w h => laplG ga (by omega) (by omega) w p h)
  (fun p w h => dxG xa (by omega) (by omega) w p h)
  (fun p w h => dyG ya (by omega) (by omega) w p h)
  (fun p q w h g => addG xxa yya (by omega) (by omega) (by omega) w p q h g)
  (fun p q w h g => by have := sameG sl sl (by omega) (by omega) (by omega) (by omega) w p q h g; rwa [decide_eq_true (rfl)] at this)
  Tab Keeps.tab lworks_any (decide_eq_false (by omega)) (decide_eq_false g1) (decide_eq_false (by omega)) (decide_eq_false g2)
  (by simp [IntKind.wrap, IntKind.bits, IntKind.signed]; omega) (by simp [wrap64]; omega) rfl (decide_eq_false (by have := deg_dx ga.nf; omega)) (decide_eq_false (by have := deg_dy ga.nf; omega)) w hv hu ht
end Go.Proofs.YtkpghlnegbimdaaGreatDoor
