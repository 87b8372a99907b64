/-
  The law answers true at every input, and leaves its arguments as they were: a part of the proof. CONDITIONS: the package-level tables start as the program's text lays them (the card ties them).
-/
import Derived.Test.YtkpghlnegbimdaaGreatDoorZab
set_option linter.unusedVariables false
set_option linter.unusedSimpArgs false
set_option maxHeartbeats 16000000
set_option maxRecDepth 100000
namespace Go.Proofs.YtkpghlnegbimdaaGreatDoor
open Go.RowKit
/-- Terms: the powers of x and y, the coefficient. -/
abbrev TL := List (Nat × Nat × Rat)
/-- What a sum of terms does to a function on powers: the sum of c F(i, j). -/
def pair : TL → (Nat → Nat → Rat) → Rat
 | [], _ => 0
 | t :: p, F => t.2.2 * F t.1 t.2.1 + pair p F
theorem pair_append (p q : TL) (F : Nat → Nat → Rat) : pair (p ++ q) F = pair p F + pair q F := by
 induction p with
 | nil => simp only [pair, List.nil_append]; grind
 | cons t p ih => simp only [List.cons_append, pair, ih]; grind
theorem pair_add (p : TL) (F G : Nat → Nat → Rat) : pair p (fun i j => F i j + G i j) = pair p F + pair p G := by
 induction p with
 | nil => simp only [pair, List.nil_append]; grind
 | cons t p ih => simp only [pair, ih]; grind
theorem pair_mul (p : TL) (c : Rat) (F : Nat → Nat → Rat) : pair p (fun i j => c * F i j) = c * pair p F := by
 induction p with
 | nil => simp only [pair, List.nil_append]; grind
 | cons t p ih => simp only [pair, ih]; grind
theorem pair_zero (p : TL) : pair p (fun _ _ => 0) = 0 := by
 induction p with
 | nil => rfl
 | cons t p ih => simp only [pair, ih]; grind
theorem pair_swap (p q : TL) (G : Nat → Nat → Nat → Nat → Rat) : pair p (fun i j => pair q (G i j)) = pair q (fun k l => pair p (fun i j => G i j k l)) := by
 induction p with
 | nil => simp only [pair]; exact (pair_zero q).symm
 | cons t p ih =>
  simp only [pair, ih]
  rw [pair_add q (fun k l => t.2.2 * G t.1 t.2.1 k l) (fun k l => pair p (fun i j => G i j k l)), pair_mul q t.2.2 (G t.1 t.2.1)]
theorem pair_congr (p : TL) {F G : Nat → Nat → Rat} (h : ∀ t ∈ p, F t.1 t.2.1 = G t.1 t.2.1) : pair p F = pair p G := by
 induction p with
 | nil => rfl
 | cons t p ih =>
  simp only [pair]
  rw [h t mZ, ih (fun u hu => h u (mK hu))]
/-- Two sums of terms are one polynomial. -/
def Eqv (p q : TL) : Prop := ∀ F, pair p F = pair q F
theorem Eqv.refl (p : TL) : Eqv p p := fun _ => rfl
theorem Eqv.symm {p q : TL} (h : Eqv p q) : Eqv q p := fun F => (h F).symm
theorem Eqv.trans {p q r : TL} (h : Eqv p q) (g : Eqv q r) : Eqv p r := fun F => (h F).trans (g F)
/-- Each term of p changed: its powers and its coefficient. -/
theorem pair_map (p : TL) (f : Nat × Nat × Rat → Nat × Nat × Rat) (F G : Nat → Nat → Rat) (h : ∀ t : Nat × Nat × Rat, (f t).2.2 * F (f t).1 (f t).2.1 = t.2.2 * G t.1 t.2.1) : pair (p.map f) F = pair p G := by
 induction p with
 | nil => rfl
 | cons t p ih => simp only [List.map_cons, pair, ih, h]
def scaleL (c : Rat) (p : TL) : TL := p.map fun t => (t.1, t.2.1, c * t.2.2)
theorem pair_scale (c : Rat) (p : TL) (F : Nat → Nat → Rat) : pair (scaleL c p) F = c * pair p F := by
 unfold scaleL
 rw [← pair_mul]
 exact pair_map p _ F _ fun t => by show c * t.2.2 * F t.1 t.2.1 = t.2.2 * (c * F t.1 t.2.1); grind
def timesL (s : Nat × Nat × Rat) (q : TL) : TL := q.map fun t => (s.1 + t.1, s.2.1 + t.2.1, s.2.2 * t.2.2)
def prodL : TL → TL → TL
 | [], _ => []
 | s :: p, q => timesL s q ++ prodL p q
theorem pair_prod (p q : TL) (F : Nat → Nat → Rat) : pair (prodL p q) F = pair p (fun i j => pair q (fun k l => F (i + k) (j + l))) := by
 induction p with
 | nil => rfl
 | cons s p ih =>
  simp only [prodL, pair, pair_append, ih]
  rw [← pair_mul]
  congr 1
  exact pair_map q _ F _ fun t => by show s.2.2 * t.2.2 * F (s.1 + t.1) (s.2.1 + t.2.1) = t.2.2 * (s.2.2 * F (s.1 + t.1) (s.2.1 + t.2.1)); grind
theorem prod_eqv {p p' q q' : TL} (h : Eqv p p') (g : Eqv q q') : Eqv (prodL p q) (prodL p' q') := fun F => by
 rw [pair_prod, pair_prod, h]
 exact congrArg (pair p') (funext fun i => funext fun j => g _)
theorem prod_comm (p q : TL) : Eqv (prodL p q) (prodL q p) := fun F => by
 rw [pair_prod, pair_prod, pair_swap]
 exact congrArg (pair q) (funext fun k => funext fun l => congrArg (pair p) (funext fun i => funext fun j => by rw [Nat.add_comm i k, Nat.add_comm j l]))
theorem prod_assoc (p q r : TL) : Eqv (prodL (prodL p q) r) (prodL p (prodL q r)) := fun F => by
 rw [pair_prod, pair_prod, pair_prod]
 refine congrArg (pair p) (funext fun i => funext fun j => ?_)
 rw [pair_prod]
 exact congrArg (pair q) (funext fun k => funext fun l => congrArg (pair r) (funext fun m => funext fun n => by rw [Nat.add_assoc, Nat.add_assoc]))
/-- The value at a point. -/
def atL (p : TL) (x y : Rat) : Rat := pair p fun i j => x ^ i * y ^ j
def dxL (p : TL) : TL := p.map fun t => (t.1 - 1, t.2.1, ((t.1 : Nat) : Rat) * t.2.2)
def dyL (p : TL) : TL := p.map fun t => (t.1, t.2.1 - 1, ((t.2.1 : Nat) : Rat) * t.2.2)
def dxF (F : Nat → Nat → Rat) : Nat → Nat → Rat := fun i j => ((i : Nat) : Rat) * F (i - 1) j
def dyF (F : Nat → Nat → Rat) : Nat → Nat → Rat := fun i j => ((j : Nat) : Rat) * F i (j - 1)
theorem pair_dx (p : TL) (F : Nat → Nat → Rat) : pair (dxL p) F = pair p (dxF F) := pair_map p _ F _ fun t => by show ((t.1 : Nat) : Rat) * t.2.2 * F (t.1 - 1) t.2.1 = t.2.2 * (((t.1 : Nat) : Rat) * F (t.1 - 1) t.2.1); grind
theorem pair_dy (p : TL) (F : Nat → Nat → Rat) : pair (dyL p) F = pair p (dyF F) := pair_map p _ F _ fun t => by show ((t.2.1 : Nat) : Rat) * t.2.2 * F t.1 (t.2.1 - 1) = t.2.2 * (((t.2.1 : Nat) : Rat) * F t.1 (t.2.1 - 1)); grind
theorem dx_eqv {p q : TL} (h : Eqv p q) : Eqv (dxL p) (dxL q) := fun F => by rw [pair_dx, pair_dx, h]
theorem dy_eqv {p q : TL} (h : Eqv p q) : Eqv (dyL p) (dyL q) := fun F => by rw [pair_dy, pair_dy, h]
theorem dx_dy (p : TL) : Eqv (dxL (dyL p)) (dyL (dxL p)) := fun F => by
 rw [pair_dx, pair_dy, pair_dy, pair_dx]
 exact congrArg (pair p) (funext fun i => funext fun j => by unfold dxF dyF; grind)
end Go.Proofs.YtkpghlnegbimdaaGreatDoor
namespace Go.Proofs.YtkpghlnegbimdaaGreatDoor
open Go.RowKit
/-- The order of the powers: by i + j, then by j. -/
def KLt (a b : Nat × Nat) : Prop := a.1 + a.2 < b.1 + b.2 ∨ (a.1 + a.2 = b.1 + b.2 ∧ a.2 < b.2)
instance (a b : Nat × Nat) : Decidable (KLt a b) := by unfold KLt; exact inferInstance
theorem KLt.irrefl (a : Nat × Nat) : ¬ KLt a a := by unfold KLt; omega
theorem KLt.trans {a b c : Nat × Nat} (h : KLt a b) (g : KLt b c) : KLt a c := by unfold KLt at *; omega
theorem KLt.tri (a b : Nat × Nat) : KLt a b ∨ a = b ∨ KLt b a := by
 obtain ⟨a1, a2⟩ := a
 obtain ⟨b1, b2⟩ := b
 unfold KLt
 simp only [Prod.mk.injEq]
 omega
theorem KLt.add {a b c d : Nat × Nat} (h : ¬ KLt b a) (g : ¬ KLt d c) : ¬ KLt (b.1 + d.1, b.2 + d.2) (a.1 + c.1, a.2 + c.2) := by unfold KLt at *; simp only; omega
abbrev key (t : Nat × Nat × Rat) : Nat × Nat := (t.1, t.2.1)
/-- In strictly rising order, no coefficient 0. -/
structure NF (p : TL) : Prop where
 up : p.Pairwise fun s t => KLt (key s) (key t)
 nz : ∀ t ∈ p, t.2.2 ≠ 0
theorem NF.tail {t : Nat × Nat × Rat} {p : TL} (h : NF (t :: p)) : NF p := ⟨(List.pairwise_cons.1 h.up).2, fun u hu => h.nz u (mK hu)⟩
theorem NF.nil : NF [] := ⟨List.Pairwise.nil, fun t h => by cases h⟩
/-- 1 at one place. -/
def ind (k : Nat × Nat) : Nat → Nat → Rat := fun i j => if (i, j) = k then 1 else 0
theorem coef_none {p : TL} {k : Nat × Nat} (h : ∀ t ∈ p, key t ≠ k) : pair p (ind k) = 0 := by
 rw [← pair_zero p]
 exact pair_congr p fun t ht => by unfold ind; rw [if_neg (h t ht)]
theorem coef_head {t : Nat × Nat × Rat} {p : TL} (h : NF (t :: p)) : pair (t :: p) (ind (key t)) = t.2.2 := by
 simp only [pair]
 rw [coef_none fun u hu e => KLt.irrefl _ (by have := (List.pairwise_cons.1 h.up).1 u hu; rwa [e] at this)]
 unfold ind
 rw [if_pos rfl]; grind
theorem nf_uniq : ∀ {p q : TL}, NF p → NF q → Eqv p q → p = q
 | [], [], _, _, _ => rfl
 | [], t :: q, _, hq, e => by
  have h := e (ind (key t))
  rw [coef_head hq] at h
  exact absurd h.symm (hq.nz t mZ)
 | s :: p, [], hp, _, e => by
  have h := e (ind (key s))
  rw [coef_head hp] at h
  exact absurd h (hp.nz s mZ)
 | s :: p, t :: q, hp, hq, e => by
  have low : ∀ {s t : Nat × Nat × Rat} {p q : TL}, NF (s :: p) → NF (t :: q) → Eqv (s :: p) (t :: q) → ¬ KLt (key s) (key t) := by
   intro s t p q hp hq e hlt
   have h := e (ind (key s))
   rw [coef_head hp, coef_none (p := t :: q)] at h
   ·exact hp.nz s mZ h
   ·intro u hu e2
    rcases List.mem_cons.1 hu with rfl | hu
    ·rw [e2] at hlt; exact KLt.irrefl _ hlt
    ·have := hlt.trans ((List.pairwise_cons.1 hq.up).1 u hu)
     rw [e2] at this; exact KLt.irrefl _ this
  have hk : key s = key t := by
   rcases KLt.tri (key s) (key t) with h | h | h
   ·exact absurd h (low hp hq e)
   ·exact h
   ·exact absurd h (low hq hp e.symm)
  have hc : s.2.2 = t.2.2 := by
   have h := e (ind (key s))
   rw [coef_head hp, hk, coef_head hq] at h; exact h
  have hst : s = t := by
   obtain ⟨s1, s2, s3⟩ := s
   obtain ⟨t1, t2, t3⟩ := t
   simp only [key, Prod.mk.injEq] at hk hc ⊢
   exact ⟨hk.1, hk.2, hc⟩
  subst hst
  have ht : Eqv p q := fun F => by
   have h := e F
   simp only [pair] at h
   grind
  rw [nf_uniq hp.tail hq.tail ht]
/-- The greatest powers with a coefficient. -/
def TopK (p : TL) (m : Nat × Nat) : Prop := pair p (ind m) ≠ 0 ∧ ∀ k, KLt m k → pair p (ind k) = 0
theorem TopK.uniq {p : TL} {m n : Nat × Nat} (h : TopK p m) (g : TopK p n) : m = n := by
 rcases KLt.tri m n with q | q | q
 ·exact absurd (h.2 n q) g.1
 ·exact q
 ·exact absurd (g.2 m q) h.1
theorem nf_top : ∀ {p : TL} (hp : NF p) (h0 : p ≠ []), TopK p (key (p.getLast h0)) ∧ (∀ t ∈ p, ¬ KLt (key (p.getLast h0)) (key t))
 | [], _, h0 => absurd rfl h0
 | [t], hp, _ => by
  refine ⟨⟨by show pair [t] (ind (key t)) ≠ 0; rw [coef_head hp]; exact hp.nz t mZ, fun k hk => coef_none fun u hu e => ?_⟩, fun u hu => ?_⟩
  ·have : u = t := by simpa using hu
   rw [← e, this] at hk; exact KLt.irrefl _ hk
  ·have : u = t := by simpa using hu
   rw [this]; exact KLt.irrefl _
 | s :: t :: p, hp, _ => by
  obtain ⟨⟨h1, h2⟩, h3⟩ := nf_top hp.tail (List.cons_ne_nil t p)
  have hl : (s :: t :: p).getLast (List.cons_ne_nil _ _) = (t :: p).getLast (List.cons_ne_nil _ _) := rfl
  have hs : KLt (key s) (key ((t :: p).getLast (List.cons_ne_nil _ _))) := (List.pairwise_cons.1 hp.up).1 _ (List.getLast_mem _)
  have z : ∀ k, key s ≠ k → pair (s :: t :: p) (ind k) = pair (t :: p) (ind k) := fun k hk => by
   show s.2.2 * ind k s.1 s.2.1 + pair (t :: p) (ind k) = _
   have : ind k s.1 s.2.1 = 0 := if_neg hk
   rw [this]; grind
  refine ⟨⟨?_, fun k hk => ?_⟩, fun u hu => ?_⟩
  ·rw [hl, z _ (fun e => by rw [e] at hs; exact KLt.irrefl _ hs)]; exact h1
  ·rw [hl] at hk
   rw [z _ (fun e => KLt.irrefl _ (by have := hs.trans hk; rwa [e] at this))]
   exact h2 k hk
  ·rw [hl]
   rcases List.mem_cons.1 hu with rfl | hu
   ·exact fun h => KLt.irrefl _ (h.trans hs)
   ·exact h3 u hu
end Go.Proofs.YtkpghlnegbimdaaGreatDoor
namespace Go.Proofs.YtkpghlnegbimdaaGreatDoor
open Go.RowKit
def oneL : TL := [(0, 0, 1)]
theorem pair_one (F : Nat → Nat → Rat) : pair oneL F = F 0 0 := by unfold oneL; simp only [pair]; grind
def powL (u : TL) : Nat → TL
 | 0 => oneL
 | n + 1 => prodL (powL u n) u
theorem prod_one (p : TL) : Eqv (prodL p oneL) p := fun F => by
 rw [pair_prod]
 exact congrArg (pair p) (funext fun i => funext fun j => pair_one _)
theorem powL_add (u : TL) (m : Nat) : ∀ n, Eqv (powL u (m + n)) (prodL (powL u m) (powL u n))
 | 0 => (prod_one _).symm
 | n + 1 => fun F => by
  show pair (prodL (powL u (m + n)) u) F = _
  rw [prod_eqv (powL_add u m n) (Eqv.refl u) F, prod_assoc]; rfl
/-- u^i v^j. -/
def mono (u v : TL) (i j : Nat) : TL := prodL (powL u i) (powL v j)
theorem prod_four (a b c d : TL) : Eqv (prodL (prodL a b) (prodL c d)) (prodL (prodL a c) (prodL b d)) := fun F => by
 rw [prod_assoc, prod_assoc, pair_prod, pair_prod (p := a)]
 refine congrArg (pair a) (funext fun i => funext fun j => ?_)
 rw [← prod_assoc b c d, ← prod_assoc c b d]
 exact prod_eqv (prod_comm b c) (Eqv.refl d) _
theorem mono_add (u v : TL) (i j k l : Nat) : Eqv (mono u v (i + k) (j + l)) (prodL (mono u v i j) (mono u v k l)) :=
 (prod_eqv (powL_add u i k) (powL_add v j l)).trans (prod_four _ _ _ _)
/-- p with u for x and v for y. -/
def subL (p u v : TL) : TL := p.flatMap fun t => scaleL t.2.2 (mono u v t.1 t.2.1)
theorem pair_sub (p u v : TL) (F : Nat → Nat → Rat) : pair (subL p u v) F = pair p (fun i j => pair (mono u v i j) F) := by
 induction p with
 | nil => rfl
 | cons t p ih =>
  unfold subL at ih ⊢
  rw [List.flatMap_cons, pair_append, pair_scale, ih]; rfl
theorem sub_prod (a b u v : TL) : Eqv (subL (prodL a b) u v) (prodL (subL a u v) (subL b u v)) := fun F => by
 rw [pair_sub, pair_prod, pair_prod, pair_sub]
 refine congrArg (pair a) (funext fun i => funext fun j => ?_)
 have h : (fun m n => pair (subL b u v) fun k l => F (m + k) (n + l)) = fun m n => pair b fun k l => pair (mono u v k l) fun k l => F (m + k) (n + l) := by
  funext m n; exact pair_sub b u v _
 rw [h, pair_swap (mono u v i j) b (fun m n k l => pair (mono u v k l) fun k l => F (m + k) (n + l))]
 refine congrArg (pair b) (funext fun k => funext fun l => ?_)
 rw [mono_add u v i j k l F, pair_prod]
theorem sub_one (u v : TL) : Eqv (subL oneL u v) oneL := fun F => by
 rw [pair_sub, pair_one]
 exact prod_one oneL F
theorem sub_pow (w u v : TL) : ∀ n, Eqv (subL (powL w n) u v) (powL (subL w u v) n)
 | 0 => sub_one u v
 | n + 1 => (sub_prod (powL w n) w u v).trans (prod_eqv (sub_pow w u v n) (Eqv.refl _))
/-- Substitutions one behind the other. -/
theorem sub_sub (p u v s t : TL) : Eqv (subL (subL p u v) s t) (subL p (subL u s t) (subL v s t)) := fun F => by
 rw [pair_sub, pair_sub, pair_sub]
 refine congrArg (pair p) (funext fun i => funext fun j => ?_)
 have h := (sub_prod (powL u i) (powL v j) s t).trans (prod_eqv (sub_pow u s t i) (sub_pow v s t j)) F
 rw [pair_sub] at h
 exact h
def TB (p : TL) (d : Nat) : Prop := ∀ t ∈ p, t.1 + t.2.1 ≤ d
theorem tb_prod {p q : TL} {a b : Nat} (h : TB p a) (g : TB q b) : TB (prodL p q) (a + b) := by
 induction p with
 | nil => intro t ht; cases ht
 | cons s p ih =>
  intro t ht
  rcases List.mem_append.1 ht with h1 | h1
  ·obtain ⟨u, hu, rfl⟩ := List.mem_map.1 h1
   have := h s mZ
   have := g u hu
   show s.1 + u.1 + (s.2.1 + u.2.1) ≤ a + b
   omega
  ·exact ih (fun x hx => h x (mK hx)) t h1
end Go.Proofs.YtkpghlnegbimdaaGreatDoor
namespace Go.Proofs.YtkpghlnegbimdaaGreatDoor
open Go.RowKit
/-- a x + b y + c. -/
def linL (a b c : Rat) : TL := [(1, 0, a), (0, 1, b), (0, 0, c)]
theorem tb_lin (a b c : Rat) : TB (linL a b c) 1 := by
 intro t ht
 unfold linL at ht
 simp only [List.mem_cons, List.not_mem_nil, or_false] at ht
 rcases ht with rfl | rfl | rfl
 ·exact Nat.le_refl 1
 ·exact Nat.le_refl 1
 ·exact Nat.zero_le 1
def sumN : Nat → (Nat → Rat) → Rat
 | 0, _ => 0
 | n + 1, f => sumN n f + f n
theorem sumN_congr {f g : Nat → Rat} : ∀ {n : Nat}, (∀ i, i < n → f i = g i) → sumN n f = sumN n g
 | 0, _ => rfl
 | n + 1, h => by simp only [sumN]; rw [sumN_congr fun i hi => h i (by omega), h n (by omega)]
theorem sumN_zero : ∀ n, sumN n (fun _ => 0) = 0
 | 0 => rfl
 | n + 1 => by simp only [sumN, sumN_zero n]; grind
theorem sumN_add (f g : Nat → Rat) : ∀ n, sumN n (fun i => f i + g i) = sumN n f + sumN n g
 | 0 => by simp only [sumN]; grind
 | n + 1 => by simp only [sumN, sumN_add f g n]; grind
theorem sumN_pick {f : Nat → Rat} : ∀ {n k : Nat}, k < n → (∀ i, i < n → i ≠ k → f i = 0) → sumN n f = f k
 | n + 1, k, hk, h => by
  simp only [sumN]
  by_cases e : k = n
  ·subst e
   rw [sumN_congr (g := fun _ => 0) fun i hi => h i (by omega) (by omega), sumN_zero]; grind
  ·rw [sumN_pick (n := n) (k := k) (by omega) fun i hi => h i (by omega), h n (by omega) (fun q => e q.symm)]; grind
/-- A polynomial by its coefficients. -/
theorem expand (d : Nat) (G : Nat → Nat → Rat) : ∀ p : TL, TB p d → pair p G = sumN (d + 1) (fun i => sumN (d - i + 1) fun j => pair p (ind (i, j)) * G i j)
 | [], _ => by
  rw [sumN_congr (g := fun _ => 0) fun i _ => (sumN_congr (g := fun _ => 0) fun j _ => by simp only [pair]; grind).trans (sumN_zero _), sumN_zero]; rfl
 | t :: p, h => by
  have ih := expand d G p fun u hu => h u (mK hu)
  have ht := h t mZ
  have e : ∀ i, (sumN (d - i + 1) fun j => pair (t :: p) (ind (i, j)) * G i j) = (sumN (d - i + 1) fun j => t.2.2 * ind (i, j) t.1 t.2.1 * G i j) + (sumN (d - i + 1) fun j => pair p (ind (i, j)) * G i j) := fun i => by
   rw [← sumN_add]
   exact sumN_congr fun j _ => by simp only [pair]; grind
  rw [sumN_congr fun i _ => e i, sumN_add, ← ih]
  show t.2.2 * G t.1 t.2.1 + pair p G = _
  congr 1
  rw [sumN_pick (k := t.1) (by omega), sumN_pick (k := t.2.1) (by omega)]
  ·unfold ind; rw [if_pos rfl]; grind
  ·intro j _ hj
   unfold ind; rw [if_neg (by simp only [Prod.mk.injEq]; omega)]; grind
  ·intro i _ hi
   refine (sumN_congr (g := fun _ => 0) fun j _ => ?_).trans (sumN_zero _)
   unfold ind; rw [if_neg (by simp only [Prod.mk.injEq]; omega)]; grind
end Go.Proofs.YtkpghlnegbimdaaGreatDoor
namespace Go.Proofs.YtkpghlnegbimdaaGreatDoor
theorem eqv_of_coef {p q : TL} {d : Nat} (hp : TB p d) (hq : TB q d) (h : ∀ i j, pair p (ind (i, j)) = pair q (ind (i, j))) : Eqv p q := fun F => by
 rw [expand d F p hp, expand d F q hq]; simp only [h]
theorem key_ext {s t : Nat × Nat × Rat} (h : key s = key t) : s.1 = t.1 ∧ s.2.1 = t.2.1 := by simpa [key] using h
/-- A term put into a normal form. -/
def insT (t : Nat × Nat × Rat) : TL → TL
 | [] => if t.2.2 = 0 then [] else [t]
 | u :: p => if KLt (key t) (key u) then (if t.2.2 = 0 then u :: p else t :: u :: p)
  else if key t = key u then (if t.2.2 + u.2.2 = 0 then p else (u.1, u.2.1, t.2.2 + u.2.2) :: p)
  else u :: insT t p
def nfL : TL → TL
 | [] => []
 | t :: p => insT t (nfL p)
theorem ins_key (t : Nat × Nat × Rat) : ∀ (p : TL), ∀ u ∈ insT t p, key u = key t ∨ ∃ v ∈ p, key u = key v
 | [], u, hu => by
  unfold insT at hu
  split at hu
  ·cases hu
  ·rw [List.mem_singleton.1 hu]; exact .inl rfl
 | v :: p, u, hu => by
  unfold insT at hu
  split at hu
  ·split at hu
   ·exact .inr ⟨u, hu, rfl⟩
   ·rcases List.mem_cons.1 hu with rfl | hu
    ·exact .inl rfl
    ·exact .inr ⟨u, hu, rfl⟩
  ·split at hu
   ·split at hu
    ·exact .inr ⟨u, mK hu, rfl⟩
    ·rcases List.mem_cons.1 hu with rfl | hu
     ·exact .inr ⟨v, mZ, rfl⟩
     ·exact .inr ⟨u, mK hu, rfl⟩
   ·rcases List.mem_cons.1 hu with rfl | hu
    ·exact .inr ⟨u, mZ, rfl⟩
    ·rcases ins_key t p u hu with h | ⟨x, hx, h⟩
     ·exact .inl h
     ·exact .inr ⟨x, mK hx, h⟩
theorem ins_nf (t : Nat × Nat × Rat) : ∀ {p : TL}, NF p → NF (insT t p)
 | [], h => by
  unfold insT
  split
  ·exact NF.nil
  ·rename_i hc
   exact ⟨List.pairwise_cons.2 ⟨fun _ h => (by cases h), List.Pairwise.nil⟩, fun u hu => by rw [List.mem_singleton.1 hu]; exact hc⟩
 | u :: p, h => by
  have hu := List.pairwise_cons.1 h.up
  unfold insT
  split
  ·rename_i hk
   split
   ·exact h
   ·rename_i hc
    refine ⟨List.pairwise_cons.2 ⟨fun x hx => ?_, h.up⟩, fun x hx => ?_⟩
    ·rcases List.mem_cons.1 hx with rfl | hx
     ·exact hk
     ·exact KLt.trans hk (hu.1 x hx)
    ·rcases List.mem_cons.1 hx with rfl | hx
     ·exact hc
     ·exact h.nz x hx
  ·rename_i hk
   split
   ·rename_i he
    split
    ·exact h.tail
    ·rename_i hc
     refine ⟨List.pairwise_cons.2 ⟨fun x hx => hu.1 x hx, hu.2⟩, fun x hx => ?_⟩
     rcases List.mem_cons.1 hx with rfl | hx
     ·exact hc
     ·exact h.nz x (mK hx)
   ·rename_i he
    have ih := ins_nf t h.tail
    refine ⟨List.pairwise_cons.2 ⟨fun x hx => ?_, ih.up⟩, fun x hx => ?_⟩
    ·rcases ins_key t p x hx with h1 | ⟨y, hy, h1⟩
     ·show KLt (key u) (key x)
      rw [h1]
      rcases KLt.tri (key t) (key u) with h2 | h2 | h2
      ·exact absurd h2 hk
      ·exact absurd h2 he
      ·exact h2
     ·show KLt (key u) (key x)
      rw [h1]; exact hu.1 y hy
    ·rcases List.mem_cons.1 hx with rfl | hx
     ·exact h.nz x mZ
     ·exact ih.nz x hx
theorem ins_eqv (t : Nat × Nat × Rat) (F : Nat → Nat → Rat) : ∀ (p : TL), pair (insT t p) F = t.2.2 * F t.1 t.2.1 + pair p F
 | [] => by
  unfold insT
  split
  ·rename_i h; simp only [pair, h]; grind
  ·simp only [pair]
 | u :: p => by
  unfold insT
  split
  ·split
   ·rename_i h; rw [h]; grind
   ·simp only [pair]
  ·split
   ·rename_i he
    obtain ⟨e1, e2⟩ := key_ext he
    split
    ·rename_i hc
     simp only [pair, e1, e2]
     have : t.2.2 * F u.1 u.2.1 + u.2.2 * F u.1 u.2.1 = 0 := by rw [← Rat.add_mul, hc, Rat.zero_mul]
     grind
    ·simp only [pair, e1, e2]; grind
   ·simp only [pair]
    rw [ins_eqv t F p]; grind
theorem nfL_nf : ∀ p : TL, NF (nfL p)
 | [] => NF.nil
 | t :: p => ins_nf t (nfL_nf p)
theorem nfL_eqv : ∀ p : TL, Eqv (nfL p) p
 | [] => Eqv.refl _
 | t :: p => fun F => by
  show pair (insT t (nfL p)) F = _
  rw [ins_eqv, nfL_eqv p F]; rfl
theorem nfL_of {p q : TL} (hp : NF p) (h : Eqv p q) : nfL q = p := nf_uniq (nfL_nf q) hp ((nfL_eqv q).trans h.symm)
theorem nfL_self {p : TL} (hp : NF p) : nfL p = p := nfL_of hp (Eqv.refl p)
theorem nfL_key : ∀ (p : TL), ∀ u ∈ nfL p, ∃ v ∈ p, key u = key v
 | [], u, h => by cases h
 | t :: p, u, h => by
  rcases ins_key t (nfL p) u h with h1 | ⟨v, hv, h1⟩
  ·exact ⟨t, mZ, h1⟩
  ·obtain ⟨x, hx, h2⟩ := nfL_key p v hv
   exact ⟨x, mK hx, h1.trans h2⟩
theorem tb_nfL {p : TL} {d : Nat} (h : TB p d) : TB (nfL p) d := fun u hu => by
 obtain ⟨v, hv, e⟩ := nfL_key p u hu
 obtain ⟨e1, e2⟩ := key_ext e
 rw [e1, e2]; exact h v hv
theorem ins_len (t : Nat × Nat × Rat) : ∀ q : TL, (insT t q).length ≤ q.length + 1
 | [] => by unfold insT; split <;> simp
 | u :: q => by
  have ih := ins_len t q
  unfold insT
  split
  ·split <;> simp only [List.length_cons] <;> omega
  ·split
   ·split <;> simp only [List.length_cons] <;> omega
   ·simp only [List.length_cons]; omega
theorem nfL_len : ∀ p : TL, (nfL p).length ≤ p.length
 | [] => Nat.le_refl _
 | t :: p => by
  have := nfL_len p
  have h1 := ins_len t (nfL p)
  show (insT t (nfL p)).length ≤ _
  rw [List.length_cons]; omega
end Go.Proofs.YtkpghlnegbimdaaGreatDoor
namespace Go.Proofs.YtkpghlnegbimdaaGreatDoor
open Go.RowKit
attribute [local irreducible] lo hs sm s64 c64 d64 b64 mh ml pd pc qd qc val hiB str cmpI srD lz nb zl zh zs
theorem cls_box {α : Type} {F : α → World} {z : World} (h1 : ∀ x, Below z.heap.size z (F x)) {w : World} {L : List (Nat × List Value)} (hL : GL w z L) (k : Nat) (c : List Value) (hm : (k, c) ∈ L) : cellsC F k 0 c :=
 cellsC_of c 0 fun x => cells_of c 0 [] rfl ((hL.get k c hm).below (h1 x))
end Go.Proofs.YtkpghlnegbimdaaGreatDoor
namespace Go.Proofs.YtkpghlnegbimdaaGreatDoor
open Go.RowKit
attribute [local irreducible] lo hs sm s64 c64 d64 b64 mh ml pd pc qd qc val hiB str cmpI srD lz nb zl zh zs dval
theorem dI_small {z : Int} (h : z.natAbs < Bs) : dI z ≤ 1 := digs_length_iff.2 (by rw [Nat.pow_one]; exact h)
end Go.Proofs.YtkpghlnegbimdaaGreatDoor
namespace Go.Proofs.YtkpghlnegbimdaaGreatDoor
open Go.RowKit
attribute [local irreducible] lo hs zl zh zs
theorem Ws.len {w : World} {a : Option Addr} {n c : Nat} {l : List Nat} (h : Ws w (.slice a n c) l) : l.length = n := by
 rcases h with ⟨ao, c1, h1, h2⟩ | ⟨a1, c1, h1, h2⟩
 ·simp only [Value.slice.injEq] at h1; rw [h2, h1.2.1]; rfl
 ·simp only [Value.slice.injEq] at h1; rw [h1.2.1]
end Go.Proofs.YtkpghlnegbimdaaGreatDoor
namespace Go.Proofs.YtkpghlnegbimdaaGreatDoor
open Go.RowKit
attribute [local irreducible] lo hs sm s64 c64 d64 b64 mh ml pd pc qd qc val hiB str cmpI srD lz nb zl zh zs
theorem whole_yes (n : Int) (w : World) :
  Calls Tryz.prog 92 #[frV n 0] w fun xe w' => xe = .returned (.bool true) ∧ Below w.heap.size w w' := by
 have hL0 : GL w w [] := GL.start w
 have e0 : (((lo 0 : Nat) : Int) == 0) = true := by rw [lo_small Bs_pos]; rfl
 have e1 : ((hs 0).toList == []) = true := by rw [hs_small Bs_pos, ByteArray.toList_eq]; rfl
 obtain ⟨x1, hweq, hL0⟩ := GL.named (hL0.new rfl [.int .u64 ((zl n : Nat) : Int), .string (zh n), .bool (zs n), .int .u64 ((lo 0 : Nat) : Int), .string (hs 0)] 47)
 go_enter Tryz.func92, Tryz.ntmps92
 have hN0 := cells_of _ 0 [] rfl (hL0.get _ _ mZ)
 simp only [zF, Nat.reduceAdd] at hN0
 go_wp2_with fail
 exact bodyPost_ret (v := .bool true) (by simp [results, Tryz.results92, go_sem, hN0]) rfl ⟨rfl, hL0.bl⟩
theorem whole_no (n : Int) (e : Nat) (he : e ≠ 0) (w : World) :
  Calls Tryz.prog 92 #[frV n e] w fun xe w' => xe = .returned (.bool false) ∧ Below w.heap.size w w' := by
 have hL0 : GL w w [] := GL.start w
 have hz := ne0 he
 clear he
 rcases hz with e0 | ⟨e0, e1⟩
 all_goals (
  obtain ⟨x1, hweq, hL0⟩ := GL.named (hL0.new rfl [.int .u64 ((zl n : Nat) : Int), .string (zh n), .bool (zs n), .int .u64 ((lo e : Nat) : Int), .string (hs e)] 47)
  go_enter Tryz.func92, Tryz.ntmps92
  have hN0 := cells_of _ 0 [] rfl (hL0.get _ _ mZ)
  simp only [zF, Nat.reduceAdd] at hN0
  go_wp2_with fail
  exact bodyPost_ret (v := .bool false) (by simp [results, Tryz.results92, go_sem, hN0]) rfl ⟨rfl, hL0.bl⟩)
theorem den_one_w (n : Int) (HW : RT 92 #[frV n 0] (.bool true)) (HO : RT 115 #[.int .u64 1] (natV 1)) (w : World) :
  Calls Tryz.prog 70 #[frV n 0] w fun xe w' => xe = .returned (natV 1) ∧ Below w.heap.size w w' := by
 have hL0 : GL w w [] := GL.start w
 replace HW := Lib.hid HW
 replace HO := Lib.hid HO
 obtain ⟨x1, hweq, hL0⟩ := GL.named ((hL0.new rfl [.int .u64 ((zl n : Nat) : Int), .string (zh n), .bool (zs n), .int .u64 ((lo 0 : Nat) : Int), .string (hs 0)] 47).new (K := w.heap.size + 1) (szA _ _) [.int .u64 0, .string ⟨#[]⟩] 43)
 go_enter Tryz.func70, Tryz.ntmps70
 have hN0 := cells_of _ 0 [] rfl (hL0.get _ _ (mK mZ))
 simp only [zF, Nat.reduceAdd] at hN0
 go_wp2_with fail
 clear hN0
 with_reducible refine Calls.mono (HW.out _) ?_
 rintro e x2 ⟨rfl, hb⟩
 replace hL0 := hL0.call hb
 clear hb hweq
 go_wp2_with fail
 with_reducible refine Calls.mono (HO.out _) ?_
 rintro e x3 ⟨rfl, hb⟩
 replace hL0 := hL0.call hb
 clear hb
 have hA := hL0.fc
 simp only [zF, Nat.reduceAdd] at hA
 obtain ⟨x4, hput1, hP⟩ := GL.named (hL0.put 0 (w.heap.size + 1) _ rfl [.int .u64 ((lo 1 : Nat) : Int), .string (hs 1)] rfl)
 simp only [setAll] at hput1
 simp only [List.set_cons_zero, List.set_cons_succ] at hP
 have hB1 := hP.fc
 simp only [zF, Nat.reduceAdd] at hB1
 replace hL0 := hP
 go_wp2_with fail
 exact bodyPost_ret (v := natV 1) (by simp [results, Tryz.results70, go_sem, hB1]) rfl ⟨rfl, hL0.bl⟩
theorem den_part_w (n : Int) (e : Nat) (HW : RT 92 #[frV n e] (.bool false)) (w : World) :
  Calls Tryz.prog 70 #[frV n e] w fun xe w' => xe = .returned (natV e) ∧ Below w.heap.size w w' := by
 have hL0 : GL w w [] := GL.start w
 replace HW := Lib.hid HW
 obtain ⟨x1, hweq, hL0⟩ := GL.named ((hL0.new rfl [.int .u64 ((zl n : Nat) : Int), .string (zh n), .bool (zs n), .int .u64 ((lo e : Nat) : Int), .string (hs e)] 47).new (K := w.heap.size + 1) (szA _ _) [.int .u64 0, .string ⟨#[]⟩] 43)
 go_enter Tryz.func70, Tryz.ntmps70
 have hN0 := cells_of _ 0 [] rfl (hL0.get _ _ (mK mZ))
 simp only [zF, Nat.reduceAdd] at hN0
 go_wp2_with fail
 clear hN0
 with_reducible refine Calls.mono (HW.out _) ?_
 rintro e x2 ⟨rfl, hb⟩
 replace hL0 := hL0.call hb
 clear hb hweq
 have hA := hL0.fc
 simp only [zF, Nat.reduceAdd] at hA
 obtain ⟨x3, hput1, hP⟩ := GL.named (hL0.put 0 (w.heap.size + 1) _ rfl [.int .u64 ((lo e : Nat) : Int), .string (hs e)] rfl)
 simp only [setAll] at hput1
 simp only [List.set_cons_zero, List.set_cons_succ] at hP
 have hB1 := hP.fc
 simp only [zF, Nat.reduceAdd] at hB1
 replace hL0 := hP
 go_wp2_with fail
 exact bodyPost_ret (v := natV e) (by simp [results, Tryz.results70, go_sem, hB1]) rfl ⟨rfl, hL0.bl⟩
theorem lowest_one (n : Int) (HO : RT 115 #[.int .u64 1] (natV 1)) (w : World) :
  Calls Tryz.prog 71 #[intV n, natV 1] w fun xe w' => xe = .returned (.agg #[.int .u64 ((zl n : Nat) : Int), .string (zh n), .bool (zs n), .int .u64 0, .string ⟨#[]⟩]) ∧ Below w.heap.size w w' := by
 have hL0 : GL w w [] := GL.start w
 replace HO := Lib.hid HO
 obtain ⟨x1, hweq, hL0⟩ := GL.named (((hL0.new rfl [.int .u64 ((zl n : Nat) : Int), .string (zh n), .bool (zs n)] 45).new (K := w.heap.size + 1) (szA _ _) [.int .u64 ((lo 1 : Nat) : Int), .string (hs 1)] 43).new (K := w.heap.size + 1 + 1) (by simp only [World.size_alloc]) [.int .u64 0, .string ⟨#[]⟩, .bool false, .int .u64 0, .string ⟨#[]⟩] 47)
 go_enter Tryz.func71, Tryz.ntmps71
 go_upto_region 1 with fail
 clear hweq
 obtain ⟨α, iα, F, hF1, hF2⟩ := cls x1
 have hq0 := cls_box hF1 hL0 _ _ (mK mZ)
 simp only [zC, Nat.reduceAdd] at hq0
 refine region_qs 3 (C := fun w' => ∃ x, w' = F x) (by kernel_rfl) (by kernel_rfl) (cls_drew hF2) ?_
 simp only [zT]
 repeat (go_big_quiet_step (first | fail | (go_at_call 115; with_reducible exact cls_call hF1 hF2 HO.out _)))
 refine wpQuiet_nil ?_
 rintro wq ⟨xq, rfl⟩
 replace hL0 := hL0.call (hF1 xq)
 clear  hq0 hF2
 generalize F xq = x2 at hL0 ⊢
 clear hF1 xq iα F α
 have hA := hL0.fc
 simp only [zF, Nat.reduceAdd] at hA
 obtain ⟨x3, hput1, hP⟩ := GL.named (hL0.put 0 (w.heap.size + 1 + 1) _ rfl [.int .u64 ((zl n : Nat) : Int), .string (zh n), .bool (zs n), .int .u64 0, .string ⟨#[]⟩] rfl)
 simp only [setAll] at hput1
 simp only [List.set_cons_zero, List.set_cons_succ] at hP
 have hB1 := hP.fc
 simp only [zF, Nat.reduceAdd] at hB1
 replace hL0 := hP
 go_wp2_with fail
 exact bodyPost_ret (v := .agg #[.int .u64 ((zl n : Nat) : Int), .string (zh n), .bool (zs n), .int .u64 0, .string ⟨#[]⟩]) (by simp [results, Tryz.results71, go_sem, hB1]) rfl ⟨rfl, hL0.bl⟩
theorem lowest_part (n : Int) (d : Nat) (HO : RT 115 #[.int .u64 1] (natV 1)) (hd : d ≠ 1) (w : World) :
  Calls Tryz.prog 71 #[intV n, natV d] w fun xe w' => xe = .returned (frV n d) ∧ Below w.heap.size w w' := by
 have hL0 : GL w w [] := GL.start w
 replace HO := Lib.hid HO
 have hz := ne_nat hd
 clear hd
 rcases hz with e0 | ⟨e0, e1⟩
 all_goals (
  obtain ⟨x1, hweq, hL0⟩ := GL.named (((hL0.new rfl [.int .u64 ((zl n : Nat) : Int), .string (zh n), .bool (zs n)] 45).new (K := w.heap.size + 1) (szA _ _) [.int .u64 ((lo d : Nat) : Int), .string (hs d)] 43).new (K := w.heap.size + 1 + 1) (by simp only [World.size_alloc]) [.int .u64 0, .string ⟨#[]⟩, .bool false, .int .u64 0, .string ⟨#[]⟩] 47)
  go_enter Tryz.func71, Tryz.ntmps71
  go_upto_region 1 with fail
  clear hweq
  obtain ⟨α, iα, F, hF1, hF2⟩ := cls x1
  have hq0 := cls_box hF1 hL0 _ _ (mK mZ)
  simp only [zC, Nat.reduceAdd] at hq0
  refine region_qs 3 (C := fun w' => ∃ x, w' = F x) (by kernel_rfl) (by kernel_rfl) (cls_drew hF2) ?_
  simp only [zT]
  repeat (go_big_quiet_step (first | fail | (go_at_call 115; with_reducible exact cls_call hF1 hF2 HO.out _)))
  refine wpQuiet_nil ?_
  rintro wq ⟨xq, rfl⟩
  replace hL0 := hL0.call (hF1 xq)
  clear  hq0 hF2
  generalize F xq = x2 at hL0 ⊢
  clear hF1 xq iα F α
  have hA := hL0.fc
  simp only [zF, Nat.reduceAdd] at hA
  obtain ⟨x3, hput1, hP⟩ := GL.named (hL0.put 0 (w.heap.size + 1 + 1) _ rfl [.int .u64 ((zl n : Nat) : Int), .string (zh n), .bool (zs n), .int .u64 ((lo d : Nat) : Int), .string (hs d)] rfl)
  simp only [setAll] at hput1
  simp only [List.set_cons_zero, List.set_cons_succ] at hP
  have hB1 := hP.fc
  simp only [zF, Nat.reduceAdd] at hB1
  replace hL0 := hP
  go_wp2_with fail
  exact bodyPost_ret (v := frV n d) (by simp [results, Tryz.results71, go_sem, hB1]) rfl ⟨rfl, hL0.bl⟩)
theorem pon_one (n : Nat) (HO : RT 115 #[.int .u64 1] (natV 1)) (w : World) :
  Calls Tryz.prog 114 #[natV n, natV 1] w fun xe w' => xe = .returned (natV n) ∧ Below w.heap.size w w' := by
 have hL0 : GL w w [] := GL.start w
 replace HO := Lib.hid HO
 obtain ⟨x1, hweq, hL0⟩ := GL.named (((hL0.new rfl [.int .u64 ((lo n : Nat) : Int), .string (hs n)] 43).new (K := w.heap.size + 1) (szA _ _) [.int .u64 ((lo 1 : Nat) : Int), .string (hs 1)] 43).new (K := w.heap.size + 1 + 1) (by simp only [World.size_alloc]) [.int .u64 0, .string ⟨#[]⟩] 43)
 go_enter Tryz.func114, Tryz.ntmps114
 go_upto_region 1 with fail
 clear hweq
 obtain ⟨α, iα, F, hF1, hF2⟩ := cls x1
 have hq0 := cls_box hF1 hL0 _ _ (mK mZ)
 simp only [zC, Nat.reduceAdd] at hq0
 refine region_qs 3 (C := fun w' => ∃ x, w' = F x) (by kernel_rfl) (by kernel_rfl) (cls_drew hF2) ?_
 simp only [zT]
 repeat (go_big_quiet_step (first | fail | (go_at_call 115; with_reducible exact cls_call hF1 hF2 HO.out _)))
 refine wpQuiet_nil ?_
 rintro wq ⟨xq, rfl⟩
 replace hL0 := hL0.call (hF1 xq)
 clear  hq0 hF2
 generalize F xq = x2 at hL0 ⊢
 clear hF1 xq iα F α
 have hA := hL0.fc
 simp only [zF, Nat.reduceAdd] at hA
 obtain ⟨x3, hput1, hP⟩ := GL.named (hL0.put 0 (w.heap.size + 1 + 1) _ rfl [.int .u64 ((lo n : Nat) : Int), .string (hs n)] rfl)
 simp only [setAll] at hput1
 simp only [List.set_cons_zero, List.set_cons_succ] at hP
 have hB1 := hP.fc
 simp only [zF, Nat.reduceAdd] at hB1
 replace hL0 := hP
 go_wp2_with fail
 exact bodyPost_ret (v := natV n) (by simp [results, Tryz.results114, go_sem, hB1]) rfl ⟨rfl, hL0.bl⟩
theorem pon_div (n d q r : Nat) (HO : RT 115 #[.int .u64 1] (natV 1)) (HD : RT 149 #[natV n, natV d] (.tuple #[natV q, natV r, .bool true])) (hd : d ≠ 1) (w : World) :
  Calls Tryz.prog 114 #[natV n, natV d] w fun xe w' => xe = .returned (natV q) ∧ Below w.heap.size w w' := by
 have hL0 : GL w w [] := GL.start w
 replace HO := Lib.hid HO
 replace HD := Lib.hid HD
 have hz := ne_nat hd
 clear hd
 rcases hz with e0 | ⟨e0, e1⟩
 all_goals (
  obtain ⟨x1, hweq, hL0⟩ := GL.named (((hL0.new rfl [.int .u64 ((lo n : Nat) : Int), .string (hs n)] 43).new (K := w.heap.size + 1) (szA _ _) [.int .u64 ((lo d : Nat) : Int), .string (hs d)] 43).new (K := w.heap.size + 1 + 1) (by simp only [World.size_alloc]) [.int .u64 0, .string ⟨#[]⟩] 43)
  go_enter Tryz.func114, Tryz.ntmps114
  go_upto_region 1 with fail
  clear hweq
  obtain ⟨α, iα, F, hF1, hF2⟩ := cls x1
  have hq0 := cls_box hF1 hL0 _ _ (mK mZ)
  simp only [zC, Nat.reduceAdd] at hq0
  refine region_qs 3 (C := fun w' => ∃ x, w' = F x) (by kernel_rfl) (by kernel_rfl) (cls_drew hF2) ?_
  simp only [zT]
  repeat (go_big_quiet_step (first | fail | (go_at_call 115; with_reducible exact cls_call hF1 hF2 HO.out _)))
  refine wpQuiet_nil ?_
  rintro wq ⟨xq, rfl⟩
  replace hL0 := hL0.call (hF1 xq)
  clear  hq0 hF2
  generalize F xq = x2 at hL0 ⊢
  clear hF1 xq iα F α
  have hN0 := cells_of _ 0 [] rfl (hL0.get _ _ (mK mZ))
  simp only [zF, Nat.reduceAdd] at hN0
  have hN1 := cells_of _ 0 [] rfl (hL0.get _ _ (mK (mK mZ)))
  simp only [zF, Nat.reduceAdd] at hN1
  go_wp2_with fail
  clear hN0 hN1
  with_reducible refine Calls.mono (HD.out _) ?_
  rintro e x3 ⟨rfl, hb⟩
  replace hL0 := hL0.call hb
  clear hb
  obtain ⟨x4, hweq, hL0⟩ := GL.named ((hL0.new rfl [.int .u64 ((lo q : Nat) : Int), .string (hs q)] 43).new (K := x3.heap.size + 1) (szA _ _) [.int .u64 ((lo r : Nat) : Int), .string (hs r)] 43)
  have hA := hL0.fc
  simp only [zF, Nat.reduceAdd] at hA
  obtain ⟨x5, hput1, hP⟩ := GL.named (hL0.put 2 (w.heap.size + 1 + 1) _ rfl [.int .u64 ((lo q : Nat) : Int), .string (hs q)] rfl)
  simp only [setAll] at hput1
  simp only [List.set_cons_zero, List.set_cons_succ] at hP
  have hB1 := hP.fc
  simp only [zF, Nat.reduceAdd] at hB1
  replace hL0 := hP
  go_wp2_with fail
  exact bodyPost_ret (v := natV q) (by simp [results, Tryz.results114, go_sem, hB1]) rfl ⟨rfl, hL0.bl⟩)
theorem part_true (z s u : Int) (a g q : Nat) (HS : RT 89 #[intV z] (.int .i64 s)) (HA : RT 91 #[intV z] (natV a)) (HP : RT 114 #[natV a, natV g] (natV q)) (HF : RT 95 #[.bool true, natV q] (intV u)) (hsg : decide (s < 0) = true) (w : World) :
  Calls Tryz.prog 113 #[intV z, natV g] w fun xe w' => xe = .returned (intV u) ∧ Below w.heap.size w w' := by
 have hL0 : GL w w [] := GL.start w
 replace HS := Lib.hid HS
 replace HA := Lib.hid HA
 replace HP := Lib.hid HP
 replace HF := Lib.hid HF
 obtain ⟨x1, hweq, hL0⟩ := GL.named (((hL0.new rfl [.int .u64 ((zl z : Nat) : Int), .string (zh z), .bool (zs z)] 45).new (K := w.heap.size + 1) (szA _ _) [.int .u64 ((lo g : Nat) : Int), .string (hs g)] 43).new (K := w.heap.size + 1 + 1) (by simp only [World.size_alloc]) [.int .u64 0, .string ⟨#[]⟩, .bool false] 45)
 go_enter Tryz.func113, Tryz.ntmps113
 go_upto_region 1 with fail
 clear hweq
 obtain ⟨α, iα, F, hF1, hF2⟩ := cls x1
 have hq0 := cls_box hF1 hL0 _ _ (mK mZ)
 simp only [zC, Nat.reduceAdd] at hq0
 have hq1 := cls_box hF1 hL0 _ _ (mK (mK mZ))
 simp only [zC, Nat.reduceAdd] at hq1
 refine region_qs 8 (C := fun w' => ∃ x, w' = F x) (by kernel_rfl) (by kernel_rfl) (cls_drew hF2) ?_
 simp only [zT]
 repeat (go_big_quiet_step (first | fail | (go_at_call 89; with_reducible exact cls_call hF1 hF2 HS.out _) | (go_at_call 91; with_reducible exact cls_call hF1 hF2 HA.out _) | (go_at_call 114; with_reducible exact cls_call hF1 hF2 HP.out _) | (go_at_call 95; with_reducible exact cls_call hF1 hF2 HF.out _)))
 refine wpQuiet_nil ?_
 rintro wq ⟨xq, rfl⟩
 replace hL0 := hL0.call (hF1 xq)
 clear  hq0 hq1 hF2
 generalize F xq = x2 at hL0 ⊢
 clear hF1 xq iα F α
 have hA := hL0.fc
 simp only [zF, Nat.reduceAdd] at hA
 obtain ⟨x3, hput1, hP⟩ := GL.named (hL0.put 0 (w.heap.size + 1 + 1) _ rfl [.int .u64 ((zl u : Nat) : Int), .string (zh u), .bool (zs u)] rfl)
 simp only [setAll] at hput1
 simp only [List.set_cons_zero, List.set_cons_succ] at hP
 have hB1 := hP.fc
 simp only [zF, Nat.reduceAdd] at hB1
 replace hL0 := hP
 go_wp2_with fail
 exact bodyPost_ret (v := intV u) (by simp [results, Tryz.results113, go_sem, hB1]) rfl ⟨rfl, hL0.bl⟩
theorem part_false (z s u : Int) (a g q : Nat) (HS : RT 89 #[intV z] (.int .i64 s)) (HA : RT 91 #[intV z] (natV a)) (HP : RT 114 #[natV a, natV g] (natV q)) (HF : RT 95 #[.bool false, natV q] (intV u)) (hsg : decide (s < 0) = false) (w : World) :
  Calls Tryz.prog 113 #[intV z, natV g] w fun xe w' => xe = .returned (intV u) ∧ Below w.heap.size w w' := by
 have hL0 : GL w w [] := GL.start w
 replace HS := Lib.hid HS
 replace HA := Lib.hid HA
 replace HP := Lib.hid HP
 replace HF := Lib.hid HF
 obtain ⟨x1, hweq, hL0⟩ := GL.named (((hL0.new rfl [.int .u64 ((zl z : Nat) : Int), .string (zh z), .bool (zs z)] 45).new (K := w.heap.size + 1) (szA _ _) [.int .u64 ((lo g : Nat) : Int), .string (hs g)] 43).new (K := w.heap.size + 1 + 1) (by simp only [World.size_alloc]) [.int .u64 0, .string ⟨#[]⟩, .bool false] 45)
 go_enter Tryz.func113, Tryz.ntmps113
 go_upto_region 1 with fail
 clear hweq
 obtain ⟨α, iα, F, hF1, hF2⟩ := cls x1
 have hq0 := cls_box hF1 hL0 _ _ (mK mZ)
 simp only [zC, Nat.reduceAdd] at hq0
 have hq1 := cls_box hF1 hL0 _ _ (mK (mK mZ))
 simp only [zC, Nat.reduceAdd] at hq1
 refine region_qs 8 (C := fun w' => ∃ x, w' = F x) (by kernel_rfl) (by kernel_rfl) (cls_drew hF2) ?_
 simp only [zT]
 repeat (go_big_quiet_step (first | fail | (go_at_call 89; with_reducible exact cls_call hF1 hF2 HS.out _) | (go_at_call 91; with_reducible exact cls_call hF1 hF2 HA.out _) | (go_at_call 114; with_reducible exact cls_call hF1 hF2 HP.out _) | (go_at_call 95; with_reducible exact cls_call hF1 hF2 HF.out _)))
 refine wpQuiet_nil ?_
 rintro wq ⟨xq, rfl⟩
 replace hL0 := hL0.call (hF1 xq)
 clear  hq0 hq1 hF2
 generalize F xq = x2 at hL0 ⊢
 clear hF1 xq iα F α
 have hA := hL0.fc
 simp only [zF, Nat.reduceAdd] at hA
 obtain ⟨x3, hput1, hP⟩ := GL.named (hL0.put 0 (w.heap.size + 1 + 1) _ rfl [.int .u64 ((zl u : Nat) : Int), .string (zh u), .bool (zs u)] rfl)
 simp only [setAll] at hput1
 simp only [List.set_cons_zero, List.set_cons_succ] at hP
 have hB1 := hP.fc
 simp only [zF, Nat.reduceAdd] at hB1
 replace hL0 := hP
 go_wp2_with fail
 exact bodyPost_ret (v := intV u) (by simp [results, Tryz.results113, go_sem, hB1]) rfl ⟨rfl, hL0.bl⟩
theorem cancel_w (z u : Int) (a d g v : Nat) (HA : RT 91 #[intV z] (natV a)) (HG : RT 112 #[natV a, natV d] (natV g)) (HP : RT 113 #[intV z, natV g] (intV u)) (HQ : RT 114 #[natV d, natV g] (natV v)) (w : World) :
  Calls Tryz.prog 69 #[intV z, natV d] w fun xe w' => xe = .returned (.tuple #[intV u, natV v]) ∧ Below w.heap.size w w' := by
 have hL0 : GL w w [] := GL.start w
 replace HA := Lib.hid HA
 replace HG := Lib.hid HG
 replace HP := Lib.hid HP
 replace HQ := Lib.hid HQ
 obtain ⟨x1, hweq, hL0⟩ := GL.named ((((hL0.new rfl [.int .u64 ((zl z : Nat) : Int), .string (zh z), .bool (zs z)] 45).new (K := w.heap.size + 1) (szA _ _) [.int .u64 ((lo d : Nat) : Int), .string (hs d)] 43).new (K := w.heap.size + 1 + 1) (by simp only [World.size_alloc]) [.int .u64 0, .string ⟨#[]⟩, .bool false] 45).new (K := w.heap.size + 1 + 1 + 1) (by simp only [World.size_alloc]) [.int .u64 0, .string ⟨#[]⟩] 43)
 go_enter Tryz.func69, Tryz.ntmps69
 go_upto_region 1 with fail
 clear hweq
 refine region_gh (by kernel_rfl) (by kernel_rfl) ?_
 refine lex_seg (gl := []) 4 (by kernel_rfl) ?_
 intro α iα F hF1 hF2
 have hq := GL.seg hF1 hL0
 simp only [zC, Nat.reduceAdd] at hq
 simp only [zT]
 repeat (go_big_quiet_step (first | fail | (go_at_call 91; with_reducible exact seg_call hF2 HA.out _) | (go_at_call 112; with_reducible exact seg_call hF2 HG.out _)))
 refine wpQuiet_nil ?_
 clear hq hF1 hF2 iα F α
 refine lex_new [.int .u64 0, .string ⟨#[]⟩] 6 43 43 rfl rfl (of_decide_eq_true (by kernel_rfl)) (by kernel_rfl) rfl new_natc ?_
 simp only [Act.put, zP]
 refine lex_put [.int .u64 ((lo g : Nat) : Int), .string (hs g)] [.int .u64 0, .string ⟨#[]⟩] 6 43 (.tmp 10) rfl (by kernel_rfl) (by simp [toG, upd]) rfl (fun w k h => put_natc _ _ _ _ w k h) ?_
 simp only [Act.put]
 refine lexG_nil ?_
 intro κ x2 hS
 replace hL0 := hL0.ghs hS [(6, [.int .u64 ((lo g : Nat) : Int), .string (hs g)])] (by simp) (by intro p hp; simp only [List.mem_cons, List.not_mem_nil, or_false] at hp; rcases hp with rfl <;> exact ⟨_, by simp only [toG, upd]; rfl⟩)
 simp only [List.map_cons, List.map_nil, List.cons_append, List.nil_append] at hL0
 simp only [over_toG, over_nil, Act.put, zP]
 clear hS
 generalize κ 6 = k2_6 at *
 go_upto_region 2 with fail
 obtain ⟨α, iα, F, hF1, hF2⟩ := cls x2
 have hq0 := cls_box hF1 hL0 _ _ mZ
 simp only [zC, Nat.reduceAdd] at hq0
 have hq1 := cls_box hF1 hL0 _ _ (mK (mK (mK mZ)))
 simp only [zC, Nat.reduceAdd] at hq1
 have hq2 := cls_box hF1 hL0 _ _ (mK (mK (mK (mK mZ))))
 simp only [zC, Nat.reduceAdd] at hq2
 refine region_qs 6 (C := fun w' => ∃ x, w' = F x) (by kernel_rfl) (by kernel_rfl) (cls_drew hF2) ?_
 simp only [zT]
 repeat (go_big_quiet_step (first | fail | (go_at_call 113; with_reducible exact cls_call hF1 hF2 HP.out _) | (go_at_call 114; with_reducible exact cls_call hF1 hF2 HQ.out _)))
 refine wpQuiet_nil ?_
 rintro wq ⟨xq, rfl⟩
 replace hL0 := hL0.call (hF1 xq)
 clear  hq0 hq1 hq2 hF2
 generalize F xq = x3 at hL0 ⊢
 clear hF1 xq iα F α
 have hA := hL0.fc
 simp only [zF, Nat.reduceAdd] at hA
 obtain ⟨x4, hput1, hP⟩ := GL.named (hL0.put 2 (w.heap.size + 1 + 1) _ rfl [.int .u64 ((zl u : Nat) : Int), .string (zh u), .bool (zs u)] rfl)
 simp only [setAll] at hput1
 simp only [List.set_cons_zero, List.set_cons_succ] at hP
 have hB1 := hP.fc
 simp only [zF, Nat.reduceAdd] at hB1
 replace hL0 := hP
 obtain ⟨x5, hput2, hP⟩ := GL.named (hL0.put 1 (w.heap.size + 1 + 1 + 1) _ rfl [.int .u64 ((lo v : Nat) : Int), .string (hs v)] rfl)
 simp only [setAll] at hput2
 simp only [List.set_cons_zero, List.set_cons_succ] at hP
 have hB2 := hP.fc
 simp only [zF, Nat.reduceAdd] at hB2
 replace hL0 := hP
 go_wp2_with fail
 exact bodyPost_ret (v := .tuple #[intV u, natV v]) (by simp [results, Tryz.results69, go_sem, hB2]) rfl ⟨rfl, hL0.bl⟩
theorem times_one (z : Int) (HO : RT 115 #[.int .u64 1] (natV 1)) (w : World) :
  Calls Tryz.prog 122 #[intV z, natV 1] w fun xe w' => xe = .returned (intV z) ∧ Below w.heap.size w w' := by
 have hL0 : GL w w [] := GL.start w
 replace HO := Lib.hid HO
 obtain ⟨x1, hweq, hL0⟩ := GL.named (((hL0.new rfl [.int .u64 ((zl z : Nat) : Int), .string (zh z), .bool (zs z)] 45).new (K := w.heap.size + 1) (szA _ _) [.int .u64 ((lo 1 : Nat) : Int), .string (hs 1)] 43).new (K := w.heap.size + 1 + 1) (by simp only [World.size_alloc]) [.int .u64 0, .string ⟨#[]⟩, .bool false] 45)
 go_enter Tryz.func122, Tryz.ntmps122
 go_upto_region 1 with fail
 clear hweq
 obtain ⟨α, iα, F, hF1, hF2⟩ := cls x1
 have hq0 := cls_box hF1 hL0 _ _ (mK mZ)
 simp only [zC, Nat.reduceAdd] at hq0
 refine region_qs 3 (C := fun w' => ∃ x, w' = F x) (by kernel_rfl) (by kernel_rfl) (cls_drew hF2) ?_
 simp only [zT]
 repeat (go_big_quiet_step (first | fail | (go_at_call 115; with_reducible exact cls_call hF1 hF2 HO.out _)))
 refine wpQuiet_nil ?_
 rintro wq ⟨xq, rfl⟩
 replace hL0 := hL0.call (hF1 xq)
 clear  hq0 hF2
 generalize F xq = x2 at hL0 ⊢
 clear hF1 xq iα F α
 have hA := hL0.fc
 simp only [zF, Nat.reduceAdd] at hA
 obtain ⟨x3, hput1, hP⟩ := GL.named (hL0.put 0 (w.heap.size + 1 + 1) _ rfl [.int .u64 ((zl z : Nat) : Int), .string (zh z), .bool (zs z)] rfl)
 simp only [setAll] at hput1
 simp only [List.set_cons_zero, List.set_cons_succ] at hP
 have hB1 := hP.fc
 simp only [zF, Nat.reduceAdd] at hB1
 replace hL0 := hP
 go_wp2_with fail
 exact bodyPost_ret (v := intV z) (by simp [results, Tryz.results122, go_sem, hB1]) rfl ⟨rfl, hL0.bl⟩
theorem times_mul (z f p : Int) (d : Nat) (HO : RT 115 #[.int .u64 1] (natV 1)) (HF : RT 95 #[.bool false, natV d] (intV f)) (HM : RT 72 #[intV z, intV f] (intV p)) (hd : d ≠ 1) (w : World) :
  Calls Tryz.prog 122 #[intV z, natV d] w fun xe w' => xe = .returned (intV p) ∧ Below w.heap.size w w' := by
 have hL0 : GL w w [] := GL.start w
 replace HO := Lib.hid HO
 replace HF := Lib.hid HF
 replace HM := Lib.hid HM
 have hz := ne_nat hd
 clear hd
 rcases hz with e0 | ⟨e0, e1⟩
 all_goals (
  obtain ⟨x1, hweq, hL0⟩ := GL.named (((hL0.new rfl [.int .u64 ((zl z : Nat) : Int), .string (zh z), .bool (zs z)] 45).new (K := w.heap.size + 1) (szA _ _) [.int .u64 ((lo d : Nat) : Int), .string (hs d)] 43).new (K := w.heap.size + 1 + 1) (by simp only [World.size_alloc]) [.int .u64 0, .string ⟨#[]⟩, .bool false] 45)
  go_enter Tryz.func122, Tryz.ntmps122
  go_upto_region 1 with fail
  clear hweq
  obtain ⟨α, iα, F, hF1, hF2⟩ := cls x1
  have hq0 := cls_box hF1 hL0 _ _ (mK mZ)
  simp only [zC, Nat.reduceAdd] at hq0
  refine region_qs 3 (C := fun w' => ∃ x, w' = F x) (by kernel_rfl) (by kernel_rfl) (cls_drew hF2) ?_
  simp only [zT]
  repeat (go_big_quiet_step (first | fail | (go_at_call 115; with_reducible exact cls_call hF1 hF2 HO.out _)))
  refine wpQuiet_nil ?_
  rintro wq ⟨xq, rfl⟩
  replace hL0 := hL0.call (hF1 xq)
  clear  hq0 hF2
  generalize F xq = x2 at hL0 ⊢
  clear hF1 xq iα F α
  go_upto_region 3 with fail
  obtain ⟨α, iα, F, hF1, hF2⟩ := cls x2
  have hq0 := cls_box hF1 hL0 _ _ (mK mZ)
  simp only [zC, Nat.reduceAdd] at hq0
  have hq1 := cls_box hF1 hL0 _ _ (mK (mK mZ))
  simp only [zC, Nat.reduceAdd] at hq1
  refine region_qs 4 (C := fun w' => ∃ x, w' = F x) (by kernel_rfl) (by kernel_rfl) (cls_drew hF2) ?_
  simp only [zT]
  repeat (go_big_quiet_step (first | fail | (go_at_call 95; with_reducible exact cls_call hF1 hF2 HF.out _) | (go_at_call 72; with_reducible exact cls_call hF1 hF2 HM.out _)))
  refine wpQuiet_nil ?_
  rintro wq ⟨xq, rfl⟩
  replace hL0 := hL0.call (hF1 xq)
  clear  hq0 hq1 hF2
  generalize F xq = x3 at hL0 ⊢
  clear hF1 xq iα F α
  have hA := hL0.fc
  simp only [zF, Nat.reduceAdd] at hA
  obtain ⟨x4, hput1, hP⟩ := GL.named (hL0.put 0 (w.heap.size + 1 + 1) _ rfl [.int .u64 ((zl p : Nat) : Int), .string (zh p), .bool (zs p)] rfl)
  simp only [setAll] at hput1
  simp only [List.set_cons_zero, List.set_cons_succ] at hP
  have hB1 := hP.fc
  simp only [zF, Nat.reduceAdd] at hB1
  replace hL0 := hP
  go_wp2_with fail
  exact bodyPost_ret (v := intV p) (by simp [results, Tryz.results122, go_sem, hB1]) rfl ⟨rfl, hL0.bl⟩)
theorem int_w (k z : Int) (HO : RT 82 #[.int .i64 k] (intV z)) (w : World) :
  Calls Tryz.prog 35 #[.int .i64 k] w fun xe w' => xe = .returned (.agg #[.int .u64 ((zl z : Nat) : Int), .string (zh z), .bool (zs z), .int .u64 0, .string ⟨#[]⟩]) ∧ Below w.heap.size w w' := by
 have hL0 : GL w w [] := GL.start w
 replace HO := Lib.hid HO
 obtain ⟨x1, hweq, hL0⟩ := GL.named (hL0.new rfl [.int .u64 0, .string ⟨#[]⟩, .bool false, .int .u64 0, .string ⟨#[]⟩] 47)
 go_enter Tryz.func35, Tryz.ntmps35
 go_wp2_with fail
 with_reducible refine Calls.mono (HO.out _) ?_
 rintro e x2 ⟨rfl, hb⟩
 replace hL0 := hL0.call hb
 clear hb hweq
 have hA := hL0.fc
 simp only [zF, Nat.reduceAdd] at hA
 obtain ⟨x3, hput1, hP⟩ := GL.named (hL0.put 0 (w.heap.size) _ rfl [.int .u64 ((zl z : Nat) : Int), .string (zh z), .bool (zs z), .int .u64 0, .string ⟨#[]⟩] rfl)
 simp only [setAll] at hput1
 simp only [List.set_cons_zero, List.set_cons_succ] at hP
 have hB1 := hP.fc
 simp only [zF, Nat.reduceAdd] at hB1
 replace hL0 := hP
 go_wp2_with fail
 exact bodyPost_ret (v := .agg #[.int .u64 ((zl z : Nat) : Int), .string (zh z), .bool (zs z), .int .u64 0, .string ⟨#[]⟩]) (by simp [results, Tryz.results35, go_sem, hB1]) rfl ⟨rfl, hL0.bl⟩
theorem fof_true (x y s z p : Int) (a b : Int) (d e : Nat) (c : Int) (HO : RT 82 #[.int .i64 a] (intV x)) (HQ : RT 82 #[.int .i64 b] (intV y)) (HS : RT 89 #[intV y] (.int .i64 s)) (HN : RT 76 #[intV x] (intV z)) (HA : RT 91 #[intV y] (natV d)) (HF : RT 90 #[intV z, natV d] (.tuple #[frV p e, .int .i64 c])) (hsg : decide (s < 0) = true) (w : World) :
  Calls Tryz.prog 41 #[.int .i64 a, .int .i64 b] w fun xe w' => xe = .returned (.tuple #[frV p e, .int .i64 c]) ∧ Below w.heap.size w w' := by
 have hL0 : GL w w [] := GL.start w
 replace HO := Lib.hid HO
 replace HQ := Lib.hid HQ
 replace HS := Lib.hid HS
 replace HN := Lib.hid HN
 replace HA := Lib.hid HA
 replace HF := Lib.hid HF
 obtain ⟨x1, hweq, hL0⟩ := GL.named (hL0.new rfl [.int .u64 0, .string ⟨#[]⟩, .bool false, .int .u64 0, .string ⟨#[]⟩] 47)
 go_enter Tryz.func41, Tryz.ntmps41
 go_wp2_with fail
 with_reducible refine Calls.mono (HO.out _) ?_
 rintro e x2 ⟨rfl, hb⟩
 replace hL0 := hL0.call hb
 clear hb hweq
 go_wp2_with fail
 with_reducible refine Calls.mono (HQ.out _) ?_
 rintro e x3 ⟨rfl, hb⟩
 replace hL0 := hL0.call hb
 clear hb
 obtain ⟨x4, hweq, hL0⟩ := GL.named ((hL0.new rfl [.int .u64 ((zl x : Nat) : Int), .string (zh x), .bool (zs x)] 45).new (K := x3.heap.size + 1) (szA _ _) [.int .u64 ((zl y : Nat) : Int), .string (zh y), .bool (zs y)] 45)
 have hN0 := cells_of _ 0 [] rfl (hL0.get _ _ mZ)
 simp only [zF, Nat.reduceAdd] at hN0
 go_wp2_with fail
 clear hN0
 with_reducible refine Calls.mono (HS.out _) ?_
 rintro e x5 ⟨rfl, hb⟩
 replace hL0 := hL0.call hb
 clear hb hweq
 have hN0 := cells_of _ 0 [] rfl (hL0.get _ _ (mK mZ))
 simp only [zF, Nat.reduceAdd] at hN0
 go_wp2_with fail
 clear hN0
 with_reducible refine Calls.mono (HN.out _) ?_
 rintro e x6 ⟨rfl, hb⟩
 replace hL0 := hL0.call hb
 clear hb
 have hA := hL0.fc
 simp only [zF, Nat.reduceAdd] at hA
 obtain ⟨x7, hput1, hP⟩ := GL.named (hL0.put 1 (x3.heap.size) _ rfl [.int .u64 ((zl z : Nat) : Int), .string (zh z), .bool (zs z)] rfl)
 simp only [setAll] at hput1
 simp only [List.set_cons_zero, List.set_cons_succ] at hP
 have hB1 := hP.fc
 simp only [zF, Nat.reduceAdd] at hB1
 replace hL0 := hP
 go_upto_region 4 with fail
 clear hA
 clear hput1 hB1
 obtain ⟨α, iα, F, hF1, hF2⟩ := cls x7
 have hq0 := cls_box hF1 hL0 _ _ mZ
 simp only [zC, Nat.reduceAdd] at hq0
 have hq1 := cls_box hF1 hL0 _ _ (mK mZ)
 simp only [zC, Nat.reduceAdd] at hq1
 refine region_qs 6 (C := fun w' => ∃ x, w' = F x) (by kernel_rfl) (by kernel_rfl) (cls_drew hF2) ?_
 simp only [zT]
 repeat (go_big_quiet_step (first | fail | (go_at_call 91; with_reducible exact cls_call hF1 hF2 HA.out _) | (go_at_call 90; with_reducible exact cls_call hF1 hF2 HF.out _)))
 refine wpQuiet_nil ?_
 rintro wq ⟨xq, rfl⟩
 replace hL0 := hL0.call (hF1 xq)
 clear  hq0 hq1 hF2
 generalize F xq = x8 at hL0 ⊢
 clear hF1 xq iα F α
 have hA := hL0.fc
 simp only [zF, Nat.reduceAdd] at hA
 obtain ⟨x9, hput2, hP⟩ := GL.named (hL0.put 2 (w.heap.size) _ rfl [.int .u64 ((zl p : Nat) : Int), .string (zh p), .bool (zs p), .int .u64 ((lo e : Nat) : Int), .string (hs e)] rfl)
 simp only [setAll] at hput2
 simp only [List.set_cons_zero, List.set_cons_succ] at hP
 have hB2 := hP.fc
 simp only [zF, Nat.reduceAdd] at hB2
 replace hL0 := hP
 go_wp2_with fail
 exact bodyPost_ret (v := .tuple #[frV p e, .int .i64 c]) (by simp [results, Tryz.results41, go_sem, hB2]) rfl ⟨rfl, hL0.bl⟩
theorem fof_false (x y s z p : Int) (a b : Int) (d e : Nat) (c : Int) (HO : RT 82 #[.int .i64 a] (intV x)) (HQ : RT 82 #[.int .i64 b] (intV y)) (HS : RT 89 #[intV y] (.int .i64 s)) (HA : RT 91 #[intV y] (natV d)) (HF : RT 90 #[intV x, natV d] (.tuple #[frV p e, .int .i64 c])) (hsg : decide (s < 0) = false) (w : World) :
  Calls Tryz.prog 41 #[.int .i64 a, .int .i64 b] w fun xe w' => xe = .returned (.tuple #[frV p e, .int .i64 c]) ∧ Below w.heap.size w w' := by
 have hL0 : GL w w [] := GL.start w
 replace HO := Lib.hid HO
 replace HQ := Lib.hid HQ
 replace HS := Lib.hid HS
 replace HA := Lib.hid HA
 replace HF := Lib.hid HF
 obtain ⟨x1, hweq, hL0⟩ := GL.named (hL0.new rfl [.int .u64 0, .string ⟨#[]⟩, .bool false, .int .u64 0, .string ⟨#[]⟩] 47)
 go_enter Tryz.func41, Tryz.ntmps41
 go_wp2_with fail
 with_reducible refine Calls.mono (HO.out _) ?_
 rintro e x2 ⟨rfl, hb⟩
 replace hL0 := hL0.call hb
 clear hb hweq
 go_wp2_with fail
 with_reducible refine Calls.mono (HQ.out _) ?_
 rintro e x3 ⟨rfl, hb⟩
 replace hL0 := hL0.call hb
 clear hb
 obtain ⟨x4, hweq, hL0⟩ := GL.named ((hL0.new rfl [.int .u64 ((zl x : Nat) : Int), .string (zh x), .bool (zs x)] 45).new (K := x3.heap.size + 1) (szA _ _) [.int .u64 ((zl y : Nat) : Int), .string (zh y), .bool (zs y)] 45)
 have hN0 := cells_of _ 0 [] rfl (hL0.get _ _ mZ)
 simp only [zF, Nat.reduceAdd] at hN0
 go_wp2_with fail
 clear hN0
 with_reducible refine Calls.mono (HS.out _) ?_
 rintro e x5 ⟨rfl, hb⟩
 replace hL0 := hL0.call hb
 clear hb hweq
 go_upto_region 4 with fail
 obtain ⟨α, iα, F, hF1, hF2⟩ := cls x5
 have hq0 := cls_box hF1 hL0 _ _ mZ
 simp only [zC, Nat.reduceAdd] at hq0
 have hq1 := cls_box hF1 hL0 _ _ (mK mZ)
 simp only [zC, Nat.reduceAdd] at hq1
 refine region_qs 6 (C := fun w' => ∃ x, w' = F x) (by kernel_rfl) (by kernel_rfl) (cls_drew hF2) ?_
 simp only [zT]
 repeat (go_big_quiet_step (first | fail | (go_at_call 91; with_reducible exact cls_call hF1 hF2 HA.out _) | (go_at_call 90; with_reducible exact cls_call hF1 hF2 HF.out _)))
 refine wpQuiet_nil ?_
 rintro wq ⟨xq, rfl⟩
 replace hL0 := hL0.call (hF1 xq)
 clear  hq0 hq1 hF2
 generalize F xq = x6 at hL0 ⊢
 clear hF1 xq iα F α
 have hA := hL0.fc
 simp only [zF, Nat.reduceAdd] at hA
 obtain ⟨x7, hput1, hP⟩ := GL.named (hL0.put 2 (w.heap.size) _ rfl [.int .u64 ((zl p : Nat) : Int), .string (zh p), .bool (zs p), .int .u64 ((lo e : Nat) : Int), .string (hs e)] rfl)
 simp only [setAll] at hput1
 simp only [List.set_cons_zero, List.set_cons_succ] at hP
 have hB1 := hP.fc
 simp only [zF, Nat.reduceAdd] at hB1
 replace hL0 := hP
 go_wp2_with fail
 exact bodyPost_ret (v := .tuple #[frV p e, .int .i64 c]) (by simp [results, Tryz.results41, go_sem, hB1]) rfl ⟨rfl, hL0.bl⟩
theorem fabs_w (n m : Int) (a e : Nat) (HA : RT 91 #[intV n] (natV a)) (HF : RT 95 #[.bool false, natV a] (intV m)) (w : World) :
  Calls Tryz.prog 47 #[frV n e] w fun xe w' => xe = .returned (frV m e) ∧ Below w.heap.size w w' := by
 have hL0 : GL w w [] := GL.start w
 replace HA := Lib.hid HA
 replace HF := Lib.hid HF
 obtain ⟨x1, hweq, hL0⟩ := GL.named ((hL0.new rfl [.int .u64 ((zl n : Nat) : Int), .string (zh n), .bool (zs n), .int .u64 ((lo e : Nat) : Int), .string (hs e)] 47).new (K := w.heap.size + 1) (szA _ _) [.int .u64 0, .string ⟨#[]⟩, .bool false, .int .u64 0, .string ⟨#[]⟩] 47)
 go_enter Tryz.func47, Tryz.ntmps47
 go_upto_region 1 with fail
 clear hweq
 obtain ⟨α, iα, F, hF1, hF2⟩ := cls x1
 have hq0 := cls_box hF1 hL0 _ _ (mK mZ)
 simp only [zC, Nat.reduceAdd] at hq0
 refine region_qs 7 (C := fun w' => ∃ x, w' = F x) (by kernel_rfl) (by kernel_rfl) (cls_drew hF2) ?_
 simp only [zT]
 repeat (go_big_quiet_step (first | fail | (go_at_call 91; with_reducible exact cls_call hF1 hF2 HA.out _) | (go_at_call 95; with_reducible exact cls_call hF1 hF2 HF.out _)))
 refine wpQuiet_nil ?_
 rintro wq ⟨xq, rfl⟩
 replace hL0 := hL0.call (hF1 xq)
 clear  hq0 hF2
 generalize F xq = x2 at hL0 ⊢
 clear hF1 xq iα F α
 have hA := hL0.fc
 simp only [zF, Nat.reduceAdd] at hA
 obtain ⟨x3, hput1, hP⟩ := GL.named (hL0.put 0 (w.heap.size + 1) _ rfl [.int .u64 ((zl m : Nat) : Int), .string (zh m), .bool (zs m), .int .u64 ((lo e : Nat) : Int), .string (hs e)] rfl)
 simp only [setAll] at hput1
 simp only [List.set_cons_zero, List.set_cons_succ] at hP
 have hB1 := hP.fc
 simp only [zF, Nat.reduceAdd] at hB1
 replace hL0 := hP
 go_wp2_with fail
 exact bodyPost_ret (v := frV m e) (by simp [results, Tryz.results47, go_sem, hB1]) rfl ⟨rfl, hL0.bl⟩
theorem fsign_w (n s : Int) (e : Nat) (HS : RT 89 #[intV n] (.int .i64 s)) (w : World) :
  Calls Tryz.prog 55 #[frV n e] w fun xe w' => xe = .returned (.int .i64 s) ∧ Below w.heap.size w w' := by
 have hL0 : GL w w [] := GL.start w
 replace HS := Lib.hid HS
 obtain ⟨x1, hweq, hL0⟩ := GL.named (hL0.new rfl [.int .u64 ((zl n : Nat) : Int), .string (zh n), .bool (zs n), .int .u64 ((lo e : Nat) : Int), .string (hs e)] 47)
 go_enter Tryz.func55, Tryz.ntmps55
 have hN0 := cells_of _ 0 [] rfl (hL0.get _ _ mZ)
 simp only [zF, Nat.reduceAdd] at hN0
 go_wp2_with fail
 clear hN0
 with_reducible refine Calls.mono (HS.out _) ?_
 rintro e x2 ⟨rfl, hb⟩
 replace hL0 := hL0.call hb
 clear hb hweq
 go_wp2_with fail
 exact bodyPost_ret (v := .int .i64 s) (by simp [results, Tryz.results55, go_sem]) rfl ⟨rfl, hL0.bl⟩
end Go.Proofs.YtkpghlnegbimdaaGreatDoor
namespace Go.Proofs.YtkpghlnegbimdaaGreatDoor
open Go.RowKit
attribute [local irreducible] lo hs sm s64 c64 d64 b64 mh ml pd pc qd qc val hiB str cmpI srD lz nb zl zh zs
theorem fmul_w (m n u v x y : Int) (d e p q g h k f : Nat) (HD : RT 70 #[frV m d] (natV p)) (HE : RT 70 #[frV n e] (natV q)) (HX : RT 69 #[intV m, natV q] (.tuple #[intV u, natV g])) (HY : RT 69 #[intV n, natV p] (.tuple #[intV v, natV h])) (HM : RT 72 #[intV u, intV v] (intV x)) (HP : RT 73 #[natV h, natV g] (natV k)) (HL : RT 71 #[intV x, natV k] (frV y f)) (w : World) :
  Calls Tryz.prog 28 #[frV m d, frV n e] w fun xe w' => xe = .returned (frV y f) ∧ Below w.heap.size w w' := by
 have hL0 : GL w w [] := GL.start w
 replace HD := Lib.hid HD
 replace HE := Lib.hid HE
 replace HX := Lib.hid HX
 replace HY := Lib.hid HY
 replace HM := Lib.hid HM
 replace HP := Lib.hid HP
 replace HL := Lib.hid HL
 obtain ⟨x1, hweq, hL0⟩ := GL.named (((hL0.new rfl [.int .u64 ((zl m : Nat) : Int), .string (zh m), .bool (zs m), .int .u64 ((lo d : Nat) : Int), .string (hs d)] 47).new (K := w.heap.size + 1) (szA _ _) [.int .u64 ((zl n : Nat) : Int), .string (zh n), .bool (zs n), .int .u64 ((lo e : Nat) : Int), .string (hs e)] 47).new (K := w.heap.size + 1 + 1) (by simp only [World.size_alloc]) [.int .u64 0, .string ⟨#[]⟩, .bool false, .int .u64 0, .string ⟨#[]⟩] 47)
 go_enter Tryz.func28, Tryz.ntmps28
 go_upto_region 1 with fail
 clear hweq
 refine region_gh (by kernel_rfl) (by kernel_rfl) ?_
 refine lex_seg (gl := []) 8 (by kernel_rfl) ?_
 intro α iα F hF1 hF2
 have hq := GL.seg hF1 hL0
 simp only [zC, Nat.reduceAdd] at hq
 simp only [zT]
 repeat (go_big_quiet_step (first | fail | (go_at_call 70; with_reducible exact seg_call hF2 HE.out _) | (go_at_call 69; with_reducible exact seg_call hF2 HX.out _)))
 refine wpQuiet_nil ?_
 clear hq hF1 hF2 iα F α
 refine lex_new [.int .u64 0, .string ⟨#[]⟩, .bool false] 5 45 45 rfl rfl (of_decide_eq_true (by kernel_rfl)) (by kernel_rfl) rfl new_int ?_
 simp only [Act.put, zP]
 refine lex_new [.int .u64 0, .string ⟨#[]⟩] 6 43 43 rfl rfl (of_decide_eq_true (by kernel_rfl)) (by kernel_rfl) rfl new_natc ?_
 simp only [Act.put, zP]
 refine lex_put [.int .u64 ((zl u : Nat) : Int), .string (zh u), .bool (zs u)] [.int .u64 0, .string ⟨#[]⟩, .bool false] 5 45 (.tmp 15) rfl (by kernel_rfl) (by simp [toG, upd]) rfl (fun w k h => put_int _ _ _ _ _ _ w k h) ?_
 simp only [Act.put]
 refine lex_put [.int .u64 ((lo g : Nat) : Int), .string (hs g)] [.int .u64 0, .string ⟨#[]⟩] 6 43 (.tmp 16) rfl (by kernel_rfl) (by simp [toG, upd]) rfl (fun w k h => put_natc _ _ _ _ w k h) ?_
 simp only [Act.put]
 refine lexG_nil ?_
 intro κ x2 hS
 replace hL0 := hL0.ghs hS [(6, [.int .u64 ((lo g : Nat) : Int), .string (hs g)]), (5, [.int .u64 ((zl u : Nat) : Int), .string (zh u), .bool (zs u)])] (by simp) (by intro p hp; simp only [List.mem_cons, List.not_mem_nil, or_false] at hp; rcases hp with rfl | rfl <;> exact ⟨_, by simp only [toG, upd]; rfl⟩)
 simp only [List.map_cons, List.map_nil, List.cons_append, List.nil_append] at hL0
 simp only [over_toG, over_nil, Act.put, zP]
 clear hS
 generalize κ 6 = k2_6 at *
 generalize κ 5 = k2_5 at *
 go_upto_region 2 with fail
 refine region_gh (by kernel_rfl) (by kernel_rfl) ?_
 refine lex_seg (gl := []) 8 (by kernel_rfl) ?_
 intro α iα F hF1 hF2
 have hq := GL.seg hF1 hL0
 simp only [zC, Nat.reduceAdd] at hq
 simp only [zT]
 repeat (go_big_quiet_step (first | fail | (go_at_call 70; with_reducible exact seg_call hF2 HD.out _) | (go_at_call 69; with_reducible exact seg_call hF2 HY.out _)))
 refine wpQuiet_nil ?_
 clear hq hF1 hF2 iα F α
 refine lex_new [.int .u64 0, .string ⟨#[]⟩, .bool false] 7 45 45 rfl rfl (of_decide_eq_true (by kernel_rfl)) (by kernel_rfl) rfl new_int ?_
 simp only [Act.put, zP]
 refine lex_new [.int .u64 0, .string ⟨#[]⟩] 8 43 43 rfl rfl (of_decide_eq_true (by kernel_rfl)) (by kernel_rfl) rfl new_natc ?_
 simp only [Act.put, zP]
 refine lex_put [.int .u64 ((zl v : Nat) : Int), .string (zh v), .bool (zs v)] [.int .u64 0, .string ⟨#[]⟩, .bool false] 7 45 (.tmp 23) rfl (by kernel_rfl) (by simp [toG, upd]) rfl (fun w k h => put_int _ _ _ _ _ _ w k h) ?_
 simp only [Act.put]
 refine lex_put [.int .u64 ((lo h : Nat) : Int), .string (hs h)] [.int .u64 0, .string ⟨#[]⟩] 8 43 (.tmp 24) rfl (by kernel_rfl) (by simp [toG, upd]) rfl (fun w k h => put_natc _ _ _ _ w k h) ?_
 simp only [Act.put]
 refine lexG_nil ?_
 intro κ x3 hS
 replace hL0 := hL0.ghs hS [(8, [.int .u64 ((lo h : Nat) : Int), .string (hs h)]), (7, [.int .u64 ((zl v : Nat) : Int), .string (zh v), .bool (zs v)])] (by simp) (by intro p hp; simp only [List.mem_cons, List.not_mem_nil, or_false] at hp; rcases hp with rfl | rfl <;> exact ⟨_, by simp only [toG, upd]; rfl⟩)
 simp only [List.map_cons, List.map_nil, List.cons_append, List.nil_append] at hL0
 simp only [over_toG, over_nil, Act.put, zP]
 clear hS
 generalize κ 8 = k3_8 at *
 generalize κ 7 = k3_7 at *
 go_upto_region 3 with fail
 obtain ⟨α, iα, F, hF1, hF2⟩ := cls x3
 have hq0 := cls_box hF1 hL0 _ _ mZ
 simp only [zC, Nat.reduceAdd] at hq0
 have hq1 := cls_box hF1 hL0 _ _ (mK mZ)
 simp only [zC, Nat.reduceAdd] at hq1
 have hq2 := cls_box hF1 hL0 _ _ (mK (mK mZ))
 simp only [zC, Nat.reduceAdd] at hq2
 have hq3 := cls_box hF1 hL0 _ _ (mK (mK (mK mZ)))
 simp only [zC, Nat.reduceAdd] at hq3
 refine region_qs 7 (C := fun w' => ∃ x, w' = F x) (by kernel_rfl) (by kernel_rfl) (cls_drew hF2) ?_
 simp only [zT]
 repeat (go_big_quiet_step (first | fail | (go_at_call 72; with_reducible exact cls_call hF1 hF2 HM.out _) | (go_at_call 73; with_reducible exact cls_call hF1 hF2 HP.out _) | (go_at_call 71; with_reducible exact cls_call hF1 hF2 HL.out _)))
 refine wpQuiet_nil ?_
 rintro wq ⟨xq, rfl⟩
 replace hL0 := hL0.call (hF1 xq)
 clear  hq0 hq1 hq2 hq3 hF2
 generalize F xq = x4 at hL0 ⊢
 clear hF1 xq iα F α
 have hA := hL0.fc
 simp only [zF, Nat.reduceAdd] at hA
 obtain ⟨x5, hput1, hP⟩ := GL.named (hL0.put 4 (w.heap.size + 1 + 1) _ rfl [.int .u64 ((zl y : Nat) : Int), .string (zh y), .bool (zs y), .int .u64 ((lo f : Nat) : Int), .string (hs f)] rfl)
 simp only [setAll] at hput1
 simp only [List.set_cons_zero, List.set_cons_succ] at hP
 have hB1 := hP.fc
 simp only [zF, Nat.reduceAdd] at hB1
 replace hL0 := hP
 go_wp2_with fail
 exact bodyPost_ret (v := frV y f) (by simp [results, Tryz.results28, go_sem, hB1]) rfl ⟨rfl, hL0.bl⟩
theorem fcombine_add (m n x y s u z : Int) (d e p0 q0 g p q r t v f : Nat) (HD : RT 70 #[frV m d] (natV p0)) (HE : RT 70 #[frV n e] (natV q0)) (HG : RT 112 #[natV p0, natV q0] (natV g)) (HP : RT 114 #[natV p0, natV g] (natV p)) (HQ : RT 114 #[natV q0, natV g] (natV q)) (HS : RT 122 #[intV m, natV q] (intV x)) (HT : RT 122 #[intV n, natV p] (intV y)) (HB : RT 75 #[intV x, intV y] (intV s)) (HC : RT 69 #[intV s, natV g] (.tuple #[intV u, natV r])) (HU : RT 73 #[natV p, natV q] (natV t)) (HV : RT 73 #[natV t, natV r] (natV v)) (HL : RT 71 #[intV u, natV v] (frV z f)) (w : World) :
  Calls Tryz.prog 74 #[frV m d, frV n e, .func (.func 75) #[] #[]] w fun xe w' => xe = .returned (frV z f) ∧ Below w.heap.size w w' := by
 have hL0 : GL w w [] := GL.start w
 replace HD := Lib.hid HD
 replace HE := Lib.hid HE
 replace HG := Lib.hid HG
 replace HP := Lib.hid HP
 replace HQ := Lib.hid HQ
 replace HS := Lib.hid HS
 replace HT := Lib.hid HT
 replace HB := Lib.hid HB
 replace HC := Lib.hid HC
 replace HU := Lib.hid HU
 replace HV := Lib.hid HV
 replace HL := Lib.hid HL
 obtain ⟨x1, hweq, hL0⟩ := GL.named (((hL0.new rfl [.int .u64 ((zl m : Nat) : Int), .string (zh m), .bool (zs m), .int .u64 ((lo d : Nat) : Int), .string (hs d)] 47).new (K := w.heap.size + 1) (szA _ _) [.int .u64 ((zl n : Nat) : Int), .string (zh n), .bool (zs n), .int .u64 ((lo e : Nat) : Int), .string (hs e)] 47).new (K := w.heap.size + 1 + 1) (by simp only [World.size_alloc]) [.int .u64 0, .string ⟨#[]⟩, .bool false, .int .u64 0, .string ⟨#[]⟩] 47)
 go_enter Tryz.func74, Tryz.ntmps74
 go_upto_region 1 with fail
 clear hweq
 refine region_gh (by kernel_rfl) (by kernel_rfl) ?_
 refine lex_seg (gl := []) 5 (by kernel_rfl) ?_
 intro α iα F hF1 hF2
 have hq := GL.seg hF1 hL0
 simp only [zC, Nat.reduceAdd] at hq
 simp only [zT]
 repeat (go_big_quiet_step (first | fail | (go_at_call 70; with_reducible exact seg_call hF2 HD.out _) | (go_at_call 70; with_reducible exact seg_call hF2 HE.out _) | (go_at_call 112; with_reducible exact seg_call hF2 HG.out _)))
 refine wpQuiet_nil ?_
 clear hq hF1 hF2 iα F α
 refine lex_new [.int .u64 0, .string ⟨#[]⟩] 7 43 43 rfl rfl (of_decide_eq_true (by kernel_rfl)) (by kernel_rfl) rfl new_natc ?_
 simp only [Act.put, zP]
 refine lex_put [.int .u64 ((lo g : Nat) : Int), .string (hs g)] [.int .u64 0, .string ⟨#[]⟩] 7 43 (.tmp 16) rfl (by kernel_rfl) (by simp [toG, upd]) rfl (fun w k h => put_natc _ _ _ _ w k h) ?_
 simp only [Act.put]
 refine lexG_nil ?_
 intro κ x2 hS
 replace hL0 := hL0.ghs hS [(7, [.int .u64 ((lo g : Nat) : Int), .string (hs g)])] (by simp) (by intro p hp; simp only [List.mem_cons, List.not_mem_nil, or_false] at hp; rcases hp with rfl <;> exact ⟨_, by simp only [toG, upd]; rfl⟩)
 simp only [List.map_cons, List.map_nil, List.cons_append, List.nil_append] at hL0
 simp only [over_toG, over_nil, Act.put, zP]
 clear hS
 generalize κ 7 = k2_7 at *
 go_upto_region 2 with fail
 refine region_gh (by kernel_rfl) (by kernel_rfl) ?_
 refine lex_seg (gl := []) 8 (by kernel_rfl) ?_
 intro α iα F hF1 hF2
 have hq := GL.seg hF1 hL0
 simp only [zC, Nat.reduceAdd] at hq
 simp only [zT]
 repeat (go_big_quiet_step (first | fail | (go_at_call 70; with_reducible exact seg_call hF2 HD.out _) | (go_at_call 114; with_reducible exact seg_call hF2 HP.out _) | (go_at_call 70; with_reducible exact seg_call hF2 HE.out _) | (go_at_call 114; with_reducible exact seg_call hF2 HQ.out _)))
 refine wpQuiet_nil ?_
 clear hq hF1 hF2 iα F α
 refine lex_new [.int .u64 0, .string ⟨#[]⟩] 8 43 43 rfl rfl (of_decide_eq_true (by kernel_rfl)) (by kernel_rfl) rfl new_natc ?_
 simp only [Act.put, zP]
 refine lex_new [.int .u64 0, .string ⟨#[]⟩] 9 43 43 rfl rfl (of_decide_eq_true (by kernel_rfl)) (by kernel_rfl) rfl new_natc ?_
 simp only [Act.put, zP]
 refine lex_put [.int .u64 ((lo p : Nat) : Int), .string (hs p)] [.int .u64 0, .string ⟨#[]⟩] 8 43 (.tmp 20) rfl (by kernel_rfl) (by simp [toG, upd]) rfl (fun w k h => put_natc _ _ _ _ w k h) ?_
 simp only [Act.put]
 refine lex_put [.int .u64 ((lo q : Nat) : Int), .string (hs q)] [.int .u64 0, .string ⟨#[]⟩] 9 43 (.tmp 24) rfl (by kernel_rfl) (by simp [toG, upd]) rfl (fun w k h => put_natc _ _ _ _ w k h) ?_
 simp only [Act.put]
 refine lexG_nil ?_
 intro κ x3 hS
 replace hL0 := hL0.ghs hS [(9, [.int .u64 ((lo q : Nat) : Int), .string (hs q)]), (8, [.int .u64 ((lo p : Nat) : Int), .string (hs p)])] (by simp) (by intro p hp; simp only [List.mem_cons, List.not_mem_nil, or_false] at hp; rcases hp with rfl | rfl <;> exact ⟨_, by simp only [toG, upd]; rfl⟩)
 simp only [List.map_cons, List.map_nil, List.cons_append, List.nil_append] at hL0
 simp only [over_toG, over_nil, Act.put, zP]
 clear hS
 generalize κ 9 = k3_9 at *
 generalize κ 8 = k3_8 at *
 go_upto_region 3 with fail
 refine region_gh (by kernel_rfl) (by kernel_rfl) ?_
 refine lex_seg (gl := []) 15 (by kernel_rfl) ?_
 intro α iα F hF1 hF2
 have hq := GL.seg hF1 hL0
 simp only [zC, Nat.reduceAdd] at hq
 simp only [zT]
 repeat (go_big_quiet_step (first | fail | (go_at_call 122; with_reducible exact seg_call hF2 HS.out _) | (go_at_call 122; with_reducible exact seg_call hF2 HT.out _) | (go_at_call 75; with_reducible exact seg_call hF2 HB.out _) | (go_at_call 69; with_reducible exact seg_call hF2 HC.out _)))
 refine wpQuiet_nil ?_
 clear hq hF1 hF2 iα F α
 refine lex_new [.int .u64 0, .string ⟨#[]⟩, .bool false] 10 45 45 rfl rfl (of_decide_eq_true (by kernel_rfl)) (by kernel_rfl) rfl new_int ?_
 simp only [Act.put, zP]
 refine lex_new [.int .u64 0, .string ⟨#[]⟩] 11 43 43 rfl rfl (of_decide_eq_true (by kernel_rfl)) (by kernel_rfl) rfl new_natc ?_
 simp only [Act.put, zP]
 refine lex_put [.int .u64 ((zl u : Nat) : Int), .string (zh u), .bool (zs u)] [.int .u64 0, .string ⟨#[]⟩, .bool false] 10 45 (.tmp 38) rfl (by kernel_rfl) (by simp [toG, upd]) rfl (fun w k h => put_int _ _ _ _ _ _ w k h) ?_
 simp only [Act.put]
 refine lex_put [.int .u64 ((lo r : Nat) : Int), .string (hs r)] [.int .u64 0, .string ⟨#[]⟩] 11 43 (.tmp 39) rfl (by kernel_rfl) (by simp [toG, upd]) rfl (fun w k h => put_natc _ _ _ _ w k h) ?_
 simp only [Act.put]
 refine lexG_nil ?_
 intro κ x4 hS
 replace hL0 := hL0.ghs hS [(11, [.int .u64 ((lo r : Nat) : Int), .string (hs r)]), (10, [.int .u64 ((zl u : Nat) : Int), .string (zh u), .bool (zs u)])] (by simp) (by intro p hp; simp only [List.mem_cons, List.not_mem_nil, or_false] at hp; rcases hp with rfl | rfl <;> exact ⟨_, by simp only [toG, upd]; rfl⟩)
 simp only [List.map_cons, List.map_nil, List.cons_append, List.nil_append] at hL0
 simp only [over_toG, over_nil, Act.put, zP]
 clear hS
 generalize κ 11 = k4_11 at *
 generalize κ 10 = k4_10 at *
 go_upto_region 4 with fail
 obtain ⟨α, iα, F, hF1, hF2⟩ := cls x4
 have hq0 := cls_box hF1 hL0 _ _ mZ
 simp only [zC, Nat.reduceAdd] at hq0
 have hq1 := cls_box hF1 hL0 _ _ (mK mZ)
 simp only [zC, Nat.reduceAdd] at hq1
 have hq2 := cls_box hF1 hL0 _ _ (mK (mK mZ))
 simp only [zC, Nat.reduceAdd] at hq2
 have hq3 := cls_box hF1 hL0 _ _ (mK (mK (mK mZ)))
 simp only [zC, Nat.reduceAdd] at hq3
 refine region_qs 7 (C := fun w' => ∃ x, w' = F x) (by kernel_rfl) (by kernel_rfl) (cls_drew hF2) ?_
 simp only [zT]
 repeat (go_big_quiet_step (first | fail | (go_at_call 73; with_reducible exact cls_call hF1 hF2 HU.out _) | (go_at_call 73; with_reducible exact cls_call hF1 hF2 HV.out _) | (go_at_call 71; with_reducible exact cls_call hF1 hF2 HL.out _)))
 refine wpQuiet_nil ?_
 rintro wq ⟨xq, rfl⟩
 replace hL0 := hL0.call (hF1 xq)
 clear  hq0 hq1 hq2 hq3 hF2
 generalize F xq = x5 at hL0 ⊢
 clear hF1 xq iα F α
 have hA := hL0.fc
 simp only [zF, Nat.reduceAdd] at hA
 obtain ⟨x6, hput1, hP⟩ := GL.named (hL0.put 5 (w.heap.size + 1 + 1) _ rfl [.int .u64 ((zl z : Nat) : Int), .string (zh z), .bool (zs z), .int .u64 ((lo f : Nat) : Int), .string (hs f)] rfl)
 simp only [setAll] at hput1
 simp only [List.set_cons_zero, List.set_cons_succ] at hP
 have hB1 := hP.fc
 simp only [zF, Nat.reduceAdd] at hB1
 replace hL0 := hP
 go_wp2_with fail
 exact bodyPost_ret (v := frV z f) (by simp [results, Tryz.results74, go_sem, hB1]) rfl ⟨rfl, hL0.bl⟩
theorem fadd_w (m n z : Int) (d e f : Nat) (HC : RT 74 #[frV m d, frV n e, .func (.func 75) #[] #[]] (frV z f)) (w : World) :
  Calls Tryz.prog 29 #[frV m d, frV n e] w fun xe w' => xe = .returned (frV z f) ∧ Below w.heap.size w w' := by
 have hL0 : GL w w [] := GL.start w
 replace HC := Lib.hid HC
 obtain ⟨x1, hweq, hL0⟩ := GL.named (((hL0.new rfl [.int .u64 ((zl m : Nat) : Int), .string (zh m), .bool (zs m), .int .u64 ((lo d : Nat) : Int), .string (hs d)] 47).new (K := w.heap.size + 1) (szA _ _) [.int .u64 ((zl n : Nat) : Int), .string (zh n), .bool (zs n), .int .u64 ((lo e : Nat) : Int), .string (hs e)] 47).new (K := w.heap.size + 1 + 1) (by simp only [World.size_alloc]) [.int .u64 0, .string ⟨#[]⟩, .bool false, .int .u64 0, .string ⟨#[]⟩] 47)
 go_enter Tryz.func29, Tryz.ntmps29
 have hN0 := cells_of _ 0 [] rfl (hL0.get _ _ (mK mZ))
 simp only [zF, Nat.reduceAdd] at hN0
 have hN1 := cells_of _ 0 [] rfl (hL0.get _ _ (mK (mK mZ)))
 simp only [zF, Nat.reduceAdd] at hN1
 go_wp2_with fail
 clear hN0 hN1
 with_reducible refine Calls.mono (HC.out _) ?_
 rintro e x2 ⟨rfl, hb⟩
 replace hL0 := hL0.call hb
 clear hb hweq
 have hA := hL0.fc
 simp only [zF, Nat.reduceAdd] at hA
 obtain ⟨x3, hput1, hP⟩ := GL.named (hL0.put 0 (w.heap.size + 1 + 1) _ rfl [.int .u64 ((zl z : Nat) : Int), .string (zh z), .bool (zs z), .int .u64 ((lo f : Nat) : Int), .string (hs f)] rfl)
 simp only [setAll] at hput1
 simp only [List.set_cons_zero, List.set_cons_succ] at hP
 have hB1 := hP.fc
 simp only [zF, Nat.reduceAdd] at hB1
 replace hL0 := hP
 go_wp2_with fail
 exact bodyPost_ret (v := frV z f) (by simp [results, Tryz.results29, go_sem, hB1]) rfl ⟨rfl, hL0.bl⟩
end Go.Proofs.YtkpghlnegbimdaaGreatDoor
namespace Go.Proofs.YtkpghlnegbimdaaGreatDoor
open Go.RowKit
attribute [local irreducible] lo hs sm s64 c64 d64 b64 mh ml pd pc qd qc val hiB str cmpI srD lz nb zl zh zs
theorem ffrom_w (n u z : Int) (d v f : Nat) (HO : RT 115 #[.int .u64 0] (natV 0)) (HC : RT 69 #[intV n, natV d] (.tuple #[intV u, natV v])) (HL : RT 71 #[intV u, natV v] (frV z f)) (hd : d ≠ 0) (w : World) :
  Calls Tryz.prog 90 #[intV n, natV d] w fun xe w' => xe = .returned (.tuple #[frV z f, .int .i64 0]) ∧ Below w.heap.size w w' := by
 have hL0 : GL w w [] := GL.start w
 replace HO := Lib.hid HO
 replace HC := Lib.hid HC
 replace HL := Lib.hid HL
 have hz := ne_nat hd
 clear hd
 rcases hz with e0 | ⟨e0, e1⟩
 all_goals (
  obtain ⟨x1, hweq, hL0⟩ := GL.named (((hL0.new rfl [.int .u64 ((zl n : Nat) : Int), .string (zh n), .bool (zs n)] 45).new (K := w.heap.size + 1) (szA _ _) [.int .u64 ((lo d : Nat) : Int), .string (hs d)] 43).new (K := w.heap.size + 1 + 1) (by simp only [World.size_alloc]) [.int .u64 0, .string ⟨#[]⟩, .bool false, .int .u64 0, .string ⟨#[]⟩] 47)
  go_enter Tryz.func90, Tryz.ntmps90
  go_upto_region 1 with fail
  clear hweq
  obtain ⟨α, iα, F, hF1, hF2⟩ := cls x1
  have hq0 := cls_box hF1 hL0 _ _ (mK mZ)
  simp only [zC, Nat.reduceAdd] at hq0
  refine region_qs 3 (C := fun w' => ∃ x, w' = F x) (by kernel_rfl) (by kernel_rfl) (cls_drew hF2) ?_
  simp only [zT]
  repeat (go_big_quiet_step (first | fail | (go_at_call 115; with_reducible exact cls_call hF1 hF2 HO.out _)))
  refine wpQuiet_nil ?_
  rintro wq ⟨xq, rfl⟩
  replace hL0 := hL0.call (hF1 xq)
  clear  hq0 hF2
  generalize F xq = x2 at hL0 ⊢
  clear hF1 xq iα F α
  have hN0 := cells_of _ 0 [] rfl (hL0.get _ _ (mK mZ))
  simp only [zF, Nat.reduceAdd] at hN0
  have hN1 := cells_of _ 0 [] rfl (hL0.get _ _ (mK (mK mZ)))
  simp only [zF, Nat.reduceAdd] at hN1
  go_wp2_with fail
  clear hN0 hN1
  with_reducible refine Calls.mono (HC.out _) ?_
  rintro e x3 ⟨rfl, hb⟩
  replace hL0 := hL0.call hb
  clear hb
  go_wp2_with fail
  with_reducible refine Calls.mono (HL.out _) ?_
  rintro e x4 ⟨rfl, hb⟩
  replace hL0 := hL0.call hb
  clear hb
  have hA := hL0.fc
  simp only [zF, Nat.reduceAdd] at hA
  obtain ⟨x5, hput1, hP⟩ := GL.named (hL0.put 0 (w.heap.size + 1 + 1) _ rfl [.int .u64 ((zl z : Nat) : Int), .string (zh z), .bool (zs z), .int .u64 ((lo f : Nat) : Int), .string (hs f)] rfl)
  simp only [setAll] at hput1
  simp only [List.set_cons_zero, List.set_cons_succ] at hP
  have hB1 := hP.fc
  simp only [zF, Nat.reduceAdd] at hB1
  replace hL0 := hP
  go_wp2_with fail
  exact bodyPost_ret (v := .tuple #[frV z f, .int .i64 0]) (by simp [results, Tryz.results90, go_sem, hB1]) rfl ⟨rfl, hL0.bl⟩)
theorem ftext_whole (n : Int) (s : ByteArray) (HW : RT 92 #[frV n 0] (.bool true)) (HT : RK Tab 93 #[intV n] (.string s)) (w : World) (htab : Tab w) :
  Calls Tryz.prog 46 #[frV n 0] w fun xe w' => xe = .returned (.string s) ∧ Below w.heap.size w w' := by
 have hL0 : GL w w [] := GL.start w
 replace HW := Lib.hid HW
 replace HT := Lib.hid HT
 obtain ⟨x1, hweq, hL0⟩ := GL.named (hL0.new rfl [.int .u64 ((zl n : Nat) : Int), .string (zh n), .bool (zs n), .int .u64 ((lo 0 : Nat) : Int), .string (hs 0)] 47)
 go_enter Tryz.func46, Tryz.ntmps46
 have hN0 := cells_of _ 0 [] rfl (hL0.get _ _ mZ)
 simp only [zF, Nat.reduceAdd] at hN0
 go_wp2_with fail
 clear hN0
 with_reducible refine Calls.mono (HW.out _) ?_
 rintro e x2 ⟨rfl, hb⟩
 replace hL0 := hL0.call hb
 clear hb hweq
 have hN0 := cells_of _ 0 [] rfl (hL0.get _ _ mZ)
 simp only [zF, Nat.reduceAdd] at hN0
 go_wp2_with fail
 clear hN0
 with_reducible refine Calls.mono (HT.out _ (htab.below hL0.bl)) ?_
 rintro e x3 ⟨rfl, hb⟩
 replace hL0 := hL0.call hb
 clear hb
 go_wp2_with fail
 exact bodyPost_ret (v := .string s) (by simp [results, Tryz.results46, go_sem]) rfl ⟨rfl, hL0.bl⟩
theorem ftext_part (n : Int) (e : Nat) (s t : ByteArray) (HW : RT 92 #[frV n e] (.bool false)) (HT : RK Tab 93 #[intV n] (.string s)) (HU : RK Tab 94 #[natV e] (.string t)) (h1 : ((s.size : Nat) : Int) ≤ 20000000) (h2 : ((t.size : Nat) : Int) ≤ 20000000) (w : World) (htab : Tab w) :
  Calls Tryz.prog 46 #[frV n e] w fun xe w' => xe = .returned (.string ((s ++ ByteArray.mk #[47]) ++ t)) ∧ Below w.heap.size w w' := by
 have hL0 : GL w w [] := GL.start w
 replace HW := Lib.hid HW
 replace HT := Lib.hid HT
 replace HU := Lib.hid HU
 obtain ⟨x1, hweq, hL0⟩ := GL.named (hL0.new rfl [.int .u64 ((zl n : Nat) : Int), .string (zh n), .bool (zs n), .int .u64 ((lo e : Nat) : Int), .string (hs e)] 47)
 go_enter Tryz.func46, Tryz.ntmps46
 have hN0 := cells_of _ 0 [] rfl (hL0.get _ _ mZ)
 simp only [zF, Nat.reduceAdd] at hN0
 go_wp2_with fail
 clear hN0
 with_reducible refine Calls.mono (HW.out _) ?_
 rintro e x2 ⟨rfl, hb⟩
 replace hL0 := hL0.call hb
 clear hb hweq
 go_upto_region 3 with fail
 have ht := htab.below hL0.bl
 obtain ⟨α, iα, F, hF1, hF2⟩ := cls x2
 have hq0 := cls_box hF1 hL0 _ _ mZ
 simp only [zC, Nat.reduceAdd] at hq0
 refine region_qs 9 (C := fun w' => ∃ x, w' = F x) (by kernel_rfl) (by kernel_rfl) (cls_drew hF2) ?_
 simp only [zT]
 repeat (go_big_quiet_step (first | fail | (go_at_call 93; with_reducible exact cls_callT hF1 hF2 ht HT.out _) | (go_at_call 94; with_reducible exact cls_callT hF1 hF2 ht HU.out _)))
 refine wpQuiet_nil ?_
 rintro wq ⟨xq, rfl⟩
 replace hL0 := hL0.call (hF1 xq)
 clear  hq0 hF2
 generalize F xq = x3 at hL0 ⊢
 clear hF1 xq iα F α
 clear ht
 go_wp2_with fail
 exact bodyPost_ret (v := .string ((s ++ ByteArray.mk #[47]) ++ t)) (by simp [results, Tryz.results46, go_sem]) rfl ⟨rfl, hL0.bl⟩
end Go.Proofs.YtkpghlnegbimdaaGreatDoor
namespace Go.Proofs.YtkpghlnegbimdaaGreatDoor
open Go.RowKit
attribute [local irreducible] lo hs sm s64 c64 d64 b64 mh ml pd pc qd qc val hiB str cmpI srD lz nb zl zh zs
theorem fe_den (q : Rat) : q.den = if fe q = 0 then 1 else fe q := by
 unfold fe
 have := q.den_nz
 split <;> simp_all
theorem frV_z (n : Int) : frV n 0 = .agg #[.int .u64 ((zl n : Nat) : Int), .string (zh n), .bool (zs n), .int .u64 0, .string ⟨#[]⟩] := by unfold frV; rw [lo_small Bs_pos, hs_small Bs_pos]; rfl
theorem fracV_int (z : Int) : fracV (z : Rat) = frV z 0 := rfl
theorem fracV_of {q : Rat} {n : Int} {d : Nat} (hn : q.num = n) (hd : q.den = d) : fracV q = frV n (if d = 1 then 0 else d) := by subst hn hd; rfl
theorem one_o (w : World) : Calls Tryz.prog 115 #[.int .u64 1] w fun e w' => e = .returned (natV 1) ∧ Below w.heap.size w w' := of_val 1 1 rfl (by unfold Bs; omega) w
theorem zero_o (w : World) : Calls Tryz.prog 115 #[.int .u64 0] w fun e w' => e = .returned (natV 0) ∧ Below w.heap.size w w' := of_val 0 0 rfl (by unfold Bs; omega) w
theorem dec_sgn (z : Int) : decide (sgn z < 0) = decide (z < 0) := by
 have : sgn z < 0 ↔ z < 0 := by unfold sgn; split <;> (try split) <;> omega
 simp only [this]
theorem whole_raw (n : Int) (e : Nat) (w : World) : Calls Tryz.prog 92 #[frV n e] w fun x w' => x = .returned (.bool (decide (e = 0))) ∧ Below w.heap.size w w' := by
 by_cases h : e = 0
 ·subst h; rw [decide_eq_true rfl]; exact whole_yes n w
 ·rw [decide_eq_false h]; exact whole_no n e h w
theorem den_raw (n : Int) (e : Nat) (w : World) : Calls Tryz.prog 70 #[frV n e] w fun x w' => x = .returned (natV (if e = 0 then 1 else e)) ∧ Below w.heap.size w w' := by
 by_cases h : e = 0
 ·subst h; rw [if_pos rfl]; exact den_one_w n (whole_yes n) one_o w
 ·rw [if_neg h]; exact den_part_w n e (whole_no n e h) w
theorem denF (q : Rat) (w : World) : Calls Tryz.prog 70 #[fracV q] w fun x w' => x = .returned (natV q.den) ∧ Below w.heap.size w w' := by
 have h := den_raw q.num (fe q) w
 rw [← fe_den] at h
 exact h
theorem lowest_raw (n : Int) (d : Nat) (w : World) : Calls Tryz.prog 71 #[intV n, natV d] w fun x w' => x = .returned (frV n (if d = 1 then 0 else d)) ∧ Below w.heap.size w w' := by
 by_cases h : d = 1
 ·subst h; rw [if_pos rfl, frV_z]; exact lowest_one n one_o w
 ·rw [if_neg h]; exact lowest_part n d one_o h w
theorem lowestF {q : Rat} {n : Int} {d : Nat} (hn : q.num = n) (hd : q.den = d) (w : World) : Calls Tryz.prog 71 #[intV n, natV d] w fun x w' => x = .returned (fracV q) ∧ Below w.heap.size w w' := by
 rw [fracV_of hn hd]; exact lowest_raw n d w
theorem pon_raw (n g : Nat) (hg : g ≠ 0) (hn : (digs n).length ≤ 100000000) (w : World) : Calls Tryz.prog 114 #[natV n, natV g] w fun x w' => x = .returned (natV (n / g)) ∧ Below w.heap.size w w' := by
 by_cases h : g = 1
 ·subst h; rw [Nat.div_one]; exact pon_one n one_o w
 ·exact pon_div n g (n / g) (n % g) one_o (fun w => div_pos n g (by omega) (by omega) w) h w
theorem tdiv_sgn (z : Int) (g : Nat) : z.tdiv (g : Int) = if decide (z < 0) then -((z.natAbs / g : Nat) : Int) else ((z.natAbs / g : Nat) : Int) := by
 by_cases h : z < 0
 ·obtain ⟨n, rfl⟩ : ∃ n : Nat, z = -(n : Int) := ⟨z.natAbs, by omega⟩
  rw [decide_eq_true h, if_pos rfl, Int.natAbs_neg, Int.natAbs_natCast, Int.neg_tdiv, ← Int.ofNat_tdiv]
 ·obtain ⟨n, rfl⟩ : ∃ n : Nat, z = (n : Int) := ⟨z.natAbs, by omega⟩
  rw [decide_eq_false h, Int.natAbs_natCast, ← Int.ofNat_tdiv]; rfl
theorem part_raw (z : Int) (g : Nat) (hg : g ≠ 0) (hz : dI z ≤ 100000000) (w : World) : Calls Tryz.prog 113 #[intV z, natV g] w fun x w' => x = .returned (intV (z.tdiv g)) ∧ Below w.heap.size w w' := by
 have hF := fun w => fromI (decide (z < 0)) (z.natAbs / g) (z.tdiv g) (tdiv_sgn z g) w
 have hs := dec_sgn z
 by_cases h : z < 0
 ·rw [decide_eq_true h] at hF hs
  exact part_true z (sgn z) _ _ g _ (signI z) (absI z) (pon_raw _ g hg hz) hF hs w
 ·rw [decide_eq_false h] at hF hs
  exact part_false z (sgn z) _ _ g _ (signI z) (absI z) (pon_raw _ g hg hz) hF hs w
theorem cancel_raw (z : Int) (d : Nat) (hd : d ≠ 0) (hz : dI z ≤ 100000000) (hl : (digs d).length ≤ 100000000) (w : World) :
  Calls Tryz.prog 69 #[intV z, natV d] w fun x w' => x = .returned (.tuple #[intV (z.tdiv (Nat.gcd z.natAbs d : Nat)), natV (d / Nat.gcd z.natAbs d)]) ∧ Below w.heap.size w w' := by
 have hg : Nat.gcd z.natAbs d ≠ 0 := fun e => hd (Nat.gcd_eq_zero_iff.1 e).2
 exact cancel_w z _ _ d _ _ (absI z) (fun w => gcd_any z.natAbs d (Nat.le_trans hz (by omega)) (by omega) w) (part_raw z _ hg hz) (pon_raw d _ hg hl) w
theorem times_raw (z : Int) (d : Nat) (hz : dI z ≤ 100000000) (hd : (digs d).length ≤ 100000000) (w : World) : Calls Tryz.prog 122 #[intV z, natV d] w fun x w' => x = .returned (intV (z * (d : Int))) ∧ Below w.heap.size w w' := by
 by_cases h : d = 1
 ·subst h; rw [show z * ((1 : Nat) : Int) = z by omega]; exact times_one z one_o w
 ·exact times_mul z (d : Int) _ d one_o (fun w => fromI false d (d : Int) rfl w) (fun w => mulI z (d : Int) (by omega) (by rw [dI_nat]; omega) w) h w
theorem intF (k : Int) (h1 : -9223372036854775808 ≤ k) (h2 : k < 9223372036854775808) (w : World) : Calls Tryz.prog 35 #[.int .i64 k] w fun x w' => x = .returned (fracV (k : Rat)) ∧ Below w.heap.size w w' := by
 rw [fracV_int, frV_z]; exact int_w k k (fun w => ofI k h1 h2 w) w
theorem fromF (z : Int) (d : Nat) (hd : d ≠ 0) (hz : dI z ≤ 100000000) (hl : (digs d).length ≤ 100000000) (w : World) : Calls Tryz.prog 90 #[intV z, natV d] w fun x w' => x = .returned (.tuple #[fracV (mkRat z d), .int .i64 0]) ∧ Below w.heap.size w w' := by
 obtain ⟨h1, h2⟩ := canc (z := z) hd
 exact ffrom_w z _ _ d _ _ zero_o (cancel_raw z d hd hz hl) (fun w => lowestF h1 h2 w) hd w
end Go.Proofs.YtkpghlnegbimdaaGreatDoor
namespace Go.Proofs.YtkpghlnegbimdaaGreatDoor
open Go.RowKit
attribute [local irreducible] lo hs sm s64 c64 d64 b64 mh ml pd pc qd qc val hiB str cmpI srD lz nb zl zh zs
/-- The absolute value. -/
def absQ (q : Rat) : Rat := if q < 0 then -q else q
theorem num_neg_iff (q : Rat) : q.num < 0 ↔ q < 0 := by rw [← Rat.not_le, ← Rat.num_nonneg]; omega
theorem absQ_num (q : Rat) : (absQ q).num = (q.num.natAbs : Int) ∧ fe (absQ q) = fe q := by
 unfold absQ
 have := num_neg_iff q
 split
 ·rename_i h
  have h1 := this.2 h
  exact ⟨by rw [Rat.neg_num]; omega, rfl⟩
 ·rename_i h
  have h1 := mt this.1 h
  exact ⟨by omega, rfl⟩
theorem absF (q : Rat) (w : World) : Calls Tryz.prog 47 #[fracV q] w fun x w' => x = .returned (fracV (absQ q)) ∧ Below w.heap.size w w' := by
 rw [show fracV (absQ q) = frV (absQ q).num (fe (absQ q)) from rfl, (absQ_num q).1, (absQ_num q).2]
 exact fabs_w q.num (q.num.natAbs : Int) _ (fe q) (fun w => absI q.num w) (fun w => fromI false _ _ rfl w) w
theorem signF (q : Rat) (w : World) : Calls Tryz.prog 55 #[fracV q] w fun x w' => x = .returned (.int .i64 (sgnQ q)) ∧ Below w.heap.size w w' := by
 rw [sgnQ_num]; exact fsign_w q.num (sgn q.num) (fe q) (fun w => signI q.num w) w
theorem tdiv_dI {z : Int} {g k : Nat} (h : dI z ≤ k) : dI (z.tdiv (g : Int)) ≤ k := by
 refine Nat.le_trans (dI_mono ?_) h
 rw [Int.natAbs_tdiv]; exact Nat.div_le_self _ _
theorem ndiv_digs {n g k : Nat} (h : (digs n).length ≤ k) : (digs (n / g)).length ≤ k := Nat.le_trans (digs_mono (Nat.div_le_self _ _)) h
theorem mulF (p q : Rat) (k : Nat) (hp : Sz p k) (hq : Sz q k) (hk : k ≤ 100000000) (w : World) : Calls Tryz.prog 28 #[fracV p, fracV q] w fun x w' => x = .returned (fracV (p * q)) ∧ Below w.heap.size w w' := by
 obtain ⟨h1, h2⟩ := rmul_parts p q
 rw [Nat.mul_comm] at h2
 exact fmul_w p.num q.num _ _ _ _ (fe p) (fe q) p.den q.den _ _ _ _ (denF p) (denF q) (cancel_raw p.num q.den q.den_nz (Nat.le_trans hp.1 hk) (Nat.le_trans hq.2 hk)) (cancel_raw q.num p.den p.den_nz (Nat.le_trans hq.1 hk) (Nat.le_trans hp.2 hk))
  (fun w => mulI _ _ (Nat.le_trans (tdiv_dI hp.1) (by omega)) (Nat.le_trans (tdiv_dI hq.1) (by omega)) w) (fun w => mul_any _ _ (Nat.le_trans (ndiv_digs hp.2) (by omega)) (Nat.le_trans (ndiv_digs hq.2) (by omega)) w) (fun w => lowestF h1 h2 w) w
theorem addF (p q : Rat) (k : Nat) (hp : Sz p k) (hq : Sz q k) (hk : k ≤ 10000000) (w : World) : Calls Tryz.prog 29 #[fracV p, fracV q] w fun x w' => x = .returned (fracV (p + q)) ∧ Below w.heap.size w w' := by
 obtain ⟨h1, h2⟩ := radd_parts p q
 have hg : Nat.gcd p.den q.den ≠ 0 := fun e => p.den_nz (Nat.gcd_eq_zero_iff.1 e).1
 have l1 : (digs (p.den / Nat.gcd p.den q.den)).length ≤ k := ndiv_digs hp.2
 have l2 : (digs (q.den / Nat.gcd p.den q.den)).length ≤ k := ndiv_digs hq.2
 have l3 : (digs (Nat.gcd p.den q.den)).length ≤ k := Nat.le_trans (digs_mono (Nat.gcd_le_left _ p.den_pos)) hp.2
 have lx : dI (p.num * ((q.den / Nat.gcd p.den q.den : Nat) : Int)) ≤ k + k := dI_mul hp.1 (by rw [dI_nat]; exact l2)
 have ly : dI (q.num * ((p.den / Nat.gcd p.den q.den : Nat) : Int)) ≤ k + k := dI_mul hq.1 (by rw [dI_nat]; exact l1)
 have ls := dI_add lx ly
 refine fadd_w p.num q.num _ (fe p) (fe q) _ ?_ w
 exact fcombine_add p.num q.num _ _ _ _ _ (fe p) (fe q) p.den q.den _ _ _ _ _ _ _ (denF p) (denF q) (fun w => gcd_any _ _ (Nat.le_trans hp.2 (by omega)) (Nat.le_trans hq.2 (by omega)) w)
  (pon_raw _ _ hg (Nat.le_trans hp.2 (by omega))) (pon_raw _ _ hg (Nat.le_trans hq.2 (by omega))) (times_raw _ _ (Nat.le_trans hp.1 (by omega)) (by omega)) (times_raw _ _ (Nat.le_trans hq.1 (by omega)) (by omega))
  (fun w => addI _ _ (by omega) (by omega) w) (cancel_raw _ _ hg (by omega) (by omega)) (fun w => mul_any _ _ (by omega) (by omega) w)
  (fun w => mul_any _ _ (Nat.le_trans (digs_mul_le l1 l2) (by omega)) (Nat.le_trans (ndiv_digs l3) (by omega)) w) (fun w => lowestF h1 h2 w)
theorem of_val_q (n d : Int) (h0 : d ≠ 0) : mkRat (if d < 0 then -n else n) d.natAbs = (n : Rat) / (d : Rat) := by
 rw [Rat.mkRat_eq_div]
 by_cases h : d < 0
 ·rw [if_pos h]
  have e : ((d.natAbs : Nat) : Rat) = -(d : Rat) := by
   rw [show ((d.natAbs : Nat) : Rat) = (((d.natAbs : Nat) : Int) : Rat) from (Rat.intCast_natCast _).symm, show ((d.natAbs : Nat) : Int) = -d by omega, Rat.intCast_neg]
  rw [e, Rat.intCast_neg]
  have hd : (d : Rat) ≠ 0 := by simpa using h0
  grind
 ·rw [if_neg h, show ((d.natAbs : Nat) : Rat) = (((d.natAbs : Nat) : Int) : Rat) from (Rat.intCast_natCast _).symm, show ((d.natAbs : Nat) : Int) = d by omega]
theorem i64_dI {z : Int} (h1 : -9223372036854775808 ≤ z) (h2 : z < 9223372036854775808) : dI z ≤ 1 := digs_length_iff.2 (by unfold Bs; omega)
theorem ofF (n d : Int) (a1 : -9223372036854775808 ≤ n) (a2 : n < 9223372036854775808) (b1 : -9223372036854775808 ≤ d) (b2 : d < 9223372036854775808) (h0 : d ≠ 0) (w : World) :
  Calls Tryz.prog 41 #[.int .i64 n, .int .i64 d] w fun x w' => x = .returned (.tuple #[fracV ((n : Rat) / (d : Rat)), .int .i64 0]) ∧ Below w.heap.size w w' := by
 rw [← of_val_q n d h0]
 have hs := dec_sgn d
 have ln := i64_dI a1 a2
 have ld : (digs d.natAbs).length ≤ 1 := i64_dI b1 b2
 by_cases h : d < 0
 ·rw [decide_eq_true h] at hs
  rw [if_pos h]
  exact fof_true n d (sgn d) (-n) _ n d _ _ 0 (fun w => ofI n a1 a2 w) (fun w => ofI d b1 b2 w) (signI d) (fun w => negI n w) (absI d) (fromF (-n) d.natAbs (by omega) (by rw [dI_neg]; omega) (by omega)) hs w
 ·rw [decide_eq_false h] at hs
  rw [if_neg h]
  exact fof_false n d (sgn d) n _ n d _ _ 0 (fun w => ofI n a1 a2 w) (fun w => ofI d b1 b2 w) (signI d) (absI d) (fromF n d.natAbs (by omega) (by omega) (by omega)) hs w
end Go.Proofs.YtkpghlnegbimdaaGreatDoor
namespace Go.Proofs.YtkpghlnegbimdaaGreatDoor
open Go.RowKit
attribute [local irreducible] lo hs sm s64 c64 d64 b64 mh ml pd pc qd qc val hiB str cmpI srD lz nb zl zh zs fe
/-- A slice's fractions. -/
structure FS (w : World) (g : Nat) (qs : List Rat) : Prop where
 cell : ∀ i (h : i < qs.length), w.cell? ⟨g, i * 5, none⟩ = some (.int .u64 ((zl qs[i].num : Nat) : Int)) ∧ w.cell? ⟨g, i * 5 + 1, none⟩ = some (.string (zh qs[i].num)) ∧ w.cell? ⟨g, i * 5 + 2, none⟩ = some (.bool (zs qs[i].num)) ∧
  w.cell? ⟨g, i * 5 + 3, none⟩ = some (.int .u64 ((lo (fe qs[i]) : Nat) : Int)) ∧ w.cell? ⟨g, i * 5 + 4, none⟩ = some (.string (hs (fe qs[i])))
 lt : g < w.heap.size
theorem FS.below {w w' : World} {g : Nat} {qs : List Rat} (h : FS w g qs) (hb : Below w.heap.size w w') : FS w' g qs := by
 have hs := hb.size
 have hl := h.lt
 refine ⟨fun i hi => ?_, by omega⟩
 obtain ⟨h0, h1, h2, h3, h4⟩ := h.cell i hi
 exact ⟨(hb.cell (p := ⟨g, i * 5, none⟩) hl).trans h0, (hb.cell (p := ⟨g, i * 5 + 1, none⟩) hl).trans h1, (hb.cell (p := ⟨g, i * 5 + 2, none⟩) hl).trans h2, (hb.cell (p := ⟨g, i * 5 + 3, none⟩) hl).trans h3, (hb.cell (p := ⟨g, i * 5 + 4, none⟩) hl).trans h4⟩
def SlQ (w : World) (v : Value) (qs : List Rat) : Prop := (∃ ao c, v = .slice ao 0 c ∧ qs = []) ∨ ∃ g c, v = .slice (some ⟨g, 0, none⟩) qs.length c ∧ FS w g qs
theorem SlQ.below {w w' : World} {v : Value} {qs : List Rat} (h : SlQ w v qs) (hb : Below w.heap.size w w') : SlQ w' v qs := by
 rcases h with h | ⟨g, c, h1, h2⟩
 ·exact .inl h
 ·exact .inr ⟨g, c, h1, h2.below hb⟩
theorem SlQ.keeps (v : Value) (qs : List Rat) : Keeps (fun w => SlQ w v qs) := fun _ _ hb h => h.below hb
theorem fe_zero : fe 0 = 0 := fe_one rfl
end Go.Proofs.YtkpghlnegbimdaaGreatDoor
namespace Go.Proofs.YtkpghlnegbimdaaGreatDoor
open Go.RowKit
attribute [local irreducible] lo hs sm s64 c64 d64 b64 mh ml pd pc qd qc val hiB str cmpI srD lz nb zl zh zs fe
theorem GL.join {w x y : World} {L M : List (Nat × List Value)} (h : GL w x L) (g : GL x y M) : GL w y (M ++ L) := by
 have h2 := h.call g.bl
 refine ⟨h2.bl, fun p hp => ?_, ?_⟩
 ·rcases List.mem_append.1 hp with hp | hp
  ·exact ⟨Nat.le_trans h.bl.size (g.all p hp).1, (g.all p hp).2⟩
  ·exact h2.all p hp
 ·rw [List.map_append, List.nodup_append]
  refine ⟨g.nd, h.nd, fun a ha b hb => ?_⟩
  obtain ⟨p, hp, rfl⟩ := List.mem_map.1 ha
  obtain ⟨q, hq, rfl⟩ := List.mem_map.1 hb
  have h3 := (g.all p hp).1
  have h4 := (h.all q hq).2.lt
  omega
theorem zero_cells : ([.int .u64 ((zl ((0 : Rat)).num : Nat) : Int), .string (zh ((0 : Rat)).num), .bool (zs ((0 : Rat)).num), .int .u64 ((lo (fe (0 : Rat)) : Nat) : Int), .string (hs (fe (0 : Rat)))] : List Value) = ([.int .u64 0, .string ⟨#[]⟩, .bool false, .int .u64 0, .string ⟨#[]⟩] : List Value) := by
 rw [fe_zero, (show (0 : Rat).num = 0 from rfl), (z0).1, (z0).2.1, (z0).2.2, lo_small Bs_pos, hs_small Bs_pos]; rfl
/-- The sum, from the left. -/
def qsum (l : List Rat) : Rat := l.foldl (· + ·) 0
theorem qsum_snoc (l : List Rat) (a : Rat) : qsum (l ++ [a]) = qsum l + a := by unfold qsum; rw [List.foldl_append]; rfl
theorem qsum_sz {k : Nat} : ∀ (l : List Rat) (m : Nat) (s : Rat), Sz s m → (∀ q ∈ l, Sz q k) → Sz (l.foldl (· + ·) s) (m + l.length * (k + 1)) := by
 intro l
 induction l with
 | nil => intro m s hs _; simpa using hs
 | cons a l ih =>
  intro m s hs hl
  have h := ih (m + k + 1) (s + a) (hs.add (hl a (by simp))) (fun q hq => hl q (by simp [hq]))
  rw [List.foldl_cons, List.length_cons, Nat.succ_mul]
  exact h.mono (by omega)
theorem total_add (w0 : World) (t : Nat) (q a r : Rat) (HA : RT 29 #[fracV q, fracV a] (fracV r)) (w : World) (hL0 : GL w0 w [(t, [.int .u64 ((zl q.num : Nat) : Int), .string (zh q.num), .bool (zs q.num), .int .u64 ((lo (fe q) : Nat) : Int), .string (hs (fe q))])]) :
  Calls Tryz.prog 87 #[.pointer (some ⟨t, 0, none⟩), fracV a] w fun xe w' => xe = .returned (.tuple #[]) ∧ GL w0 w' [(t, [.int .u64 ((zl r.num : Nat) : Int), .string (zh r.num), .bool (zs r.num), .int .u64 ((lo (fe r) : Nat) : Int), .string (hs (fe r))])] := by
 replace HA := Lib.hid HA
 obtain ⟨x1, hweq, hL0⟩ := GL.named (hL0.new rfl [.int .u64 ((zl a.num : Nat) : Int), .string (zh a.num), .bool (zs a.num), .int .u64 ((lo (fe a) : Nat) : Int), .string (hs (fe a))] 47)
 go_enter Tryz.func87, Tryz.ntmps87
 go_upto_region 1 with fail
 clear hweq
 obtain ⟨α, iα, F, hF1, hF2⟩ := cls x1
 have hq0 := cls_box hF1 hL0 _ _ mZ
 simp only [zC, Nat.reduceAdd] at hq0
 have hq1 := cls_box hF1 hL0 _ _ (mK mZ)
 simp only [zC, Nat.reduceAdd] at hq1
 refine region_qs 9 (C := fun w' => ∃ x, w' = F x) (by kernel_rfl) (by kernel_rfl) (cls_drew hF2) ?_
 simp only [zT]
 repeat (go_big_quiet_step (first | fail | (go_at_call 29; with_reducible exact cls_call hF1 hF2 HA.out _)))
 refine wpQuiet_nil ?_
 rintro wq ⟨xq, rfl⟩
 replace hL0 := hL0.call (hF1 xq)
 clear  hq0 hq1 hF2
 generalize F xq = x2 at hL0 ⊢
 clear hF1 xq iα F α
 have hA := hL0.fc
 simp only [zF, Nat.reduceAdd] at hA
 obtain ⟨x3, hput1, hP⟩ := GL.named (hL0.put 1 (t) _ rfl [.int .u64 ((zl r.num : Nat) : Int), .string (zh r.num), .bool (zs r.num), .int .u64 ((lo (fe r) : Nat) : Int), .string (hs (fe r))] rfl)
 simp only [setAll] at hput1
 simp only [List.set_cons_zero, List.set_cons_succ] at hP
 have hB1 := hP.fc
 simp only [zF, Nat.reduceAdd] at hB1
 replace hL0 := hP
 go_wp2_with fail
 go_end0
 exact ⟨rfl, hL0.weak (List.Sublist.cons _ (List.Sublist.refl _))⟩
theorem each_add (w0 : World) (t : Nat) (ao : Option Addr) (n c : Nat) (qs : List Rat) (q : Rat) (hq0 : q = 0) (hn : (0 < n → ∃ g, ao = some ⟨g, 0, none⟩ ∧ FS w0 g qs) ∧ qs.length = n ∧ n ≤ 1000000)
  (HA : ∀ (q a : Rat) (i : Nat), a ∈ qs → q = qsum (qs.take i) → ∀ w, GL w0 w [(t, [.int .u64 ((zl q.num : Nat) : Int), .string (zh q.num), .bool (zs q.num), .int .u64 ((lo (fe q) : Nat) : Int), .string (hs (fe q))])] → Calls Tryz.prog 87 #[.pointer (some ⟨t, 0, none⟩), fracV a] w fun xe w' => xe = .returned (.tuple #[]) ∧ GL w0 w' [(t, [.int .u64 ((zl (q + a).num : Nat) : Int), .string (zh (q + a).num), .bool (zs (q + a).num), .int .u64 ((lo (fe (q + a)) : Nat) : Int), .string (hs (fe (q + a)))])])
  (w : World) (hL0 : GL w0 w [(t, [.int .u64 ((zl q.num : Nat) : Int), .string (zh q.num), .bool (zs q.num), .int .u64 ((lo (fe q) : Nat) : Int), .string (hs (fe q))])]) :
  Calls Tryz.prog 86 #[.slice ao n c, .func (.func 87) #[.pointer (some ⟨t, 0, none⟩)] #[]] w fun xe w' => xe = .returned (.tuple #[]) ∧ GL w0 w' [(t, [.int .u64 ((zl (qsum qs).num : Nat) : Int), .string (zh (qsum qs).num), .bool (zs (qsum qs).num), .int .u64 ((lo (fe (qsum qs)) : Nat) : Int), .string (hs (fe (qsum qs)))])] := by
 replace HA := Lib.hid HA
 have hle := hn.2.2
 have hcell := Lib.hid hn.1
 have hlen := hn.2.1
 clear hn
 go_enter Tryz.func86, Tryz.ntmps86
 have hA := hL0.fc
 simp only [zF, Nat.reduceAdd] at hA
 go_wp2_with fail
 clear hA
 go_loopw [8] (fun z wr => ∃ (i : Nat) (zi : Int) (q : Rat), i ≤ n ∧ z = .int .i64 zi ∧ zi = (i : Int) ∧ q = qsum (qs.take i) ∧ GL w0 wr [(t, [.int .u64 ((zl q.num : Nat) : Int), .string (zh q.num), .bool (zs q.num), .int .u64 ((lo (fe q) : Nat) : Int), .string (hs (fe q))])]) (fun z _ => n - (intOf z).toNat)
 case atStart => exact ⟨0, _, _, Nat.zero_le _, rfl, rfl, by rw [hq0]; rfl, hL0⟩
 case round =>
  clear hL0 hq0 q
  obtain ⟨i, zi, q, hi, rfl, hzi, hq, hL0⟩ := hrel
  rcases Nat.lt_or_ge i n with hin | hin
  ·obtain ⟨g, rfl, hfs⟩ := hcell.out (by omega)
   subst hzi
   have hf := (hfs.below hL0.bl).cell i (by omega)
   have k1 : (i : Int) < (n : Int) := by omega
   have k0 : (0 : Int) ≤ (i : Int) := Int.natCast_nonneg _
   obtain ⟨a, ha⟩ : ∃ a, a = qs[i]'(by omega) := ⟨_, rfl⟩
   rw [← ha] at hf
   have hmem : a ∈ qs := by rw [ha]; exact List.getElem_mem _
   have htk : qs.take (i + 1) = qs.take i ++ [a] := by rw [List.take_succ_eq_append_getElem (by omega), ha]
   clear ha
   obtain ⟨f0, f1, f2, f3, f4⟩ := hf
   have HA1 := Lib.hid (HA.out q a i hmem hq)
   replace htk := Lib.hid htk
   replace hq := Lib.hid hq
   clear hmem
   obtain ⟨x1, hweq, hL0⟩ := GL.named (hL0.new rfl [.int .u64 ((zl a.num : Nat) : Int), .string (zh a.num), .bool (zs a.num), .int .u64 ((lo (fe a) : Nat) : Int), .string (hs (fe a))] 47)
   have hN0 := cells_of _ 0 [] rfl (hL0.get _ _ mZ)
   simp only [zF, Nat.reduceAdd] at hN0
   go_wp2_with fail
   clear hN0
   with_reducible refine Calls.mono (HA1.out _ (hL0.weak (List.Sublist.cons _ (List.Sublist.refl _)))) ?_
   rintro e x9 ⟨rfl, hG⟩
   clear hL0 hweq f0 f1 f2 f3 f4
   go_wp2_with fail
   go_roundw
   case rel => exact ⟨i + 1, _, _, by omega, by first | rfl | go_num, by omega, by rw [htk.out, qsum_snoc, ← hq.out], hG⟩
   case measure => simp [intOf]; omega
  ·obtain rfl : i = n := by omega
   subst hzi
   have k1 : ¬ (i : Int) < (i : Int) := by omega
   have hqq := hq.trans (congrArg qsum (List.take_of_length_le (Nat.le_of_eq hlen)))
   subst hqq
   clear hq
   go_wp2_with fail
   go_end0
   exact ⟨rfl, hL0⟩
theorem sum_w (ao : Option Addr) (n c : Nat) (qs : List Rat) (hn0 : n ≤ 1000000)
  (HE : ∀ (w0 : World) (t : Nat), (0 < n → ∃ g, ao = some ⟨g, 0, none⟩ ∧ FS w0 g qs) ∧ qs.length = n ∧ n ≤ 1000000 → ∀ w, GL w0 w [(t, [.int .u64 ((zl ((0 : Rat)).num : Nat) : Int), .string (zh ((0 : Rat)).num), .bool (zs ((0 : Rat)).num), .int .u64 ((lo (fe (0 : Rat)) : Nat) : Int), .string (hs (fe (0 : Rat)))])] → Calls Tryz.prog 86 #[.slice ao n c, .func (.func 87) #[.pointer (some ⟨t, 0, none⟩)] #[]] w fun xe w' => xe = .returned (.tuple #[]) ∧ GL w0 w' [(t, [.int .u64 ((zl (qsum qs).num : Nat) : Int), .string (zh (qsum qs).num), .bool (zs (qsum qs).num), .int .u64 ((lo (fe (qsum qs)) : Nat) : Int), .string (hs (fe (qsum qs)))])])
  (w : World) (hn : (0 < n → ∃ g, ao = some ⟨g, 0, none⟩ ∧ FS w g qs) ∧ qs.length = n ∧ n ≤ 1000000) :
  Calls Tryz.prog 38 #[.slice ao n c] w fun xe w' => xe = .returned (fracV (qsum qs)) ∧ Below w.heap.size w w' := by
 have hL0 : GL w w [] := GL.start w
 generalize qsum qs = s at *
 replace HE := Lib.hid HE
 have hn2 := Lib.hid hn.2
 have hcell := Lib.hid hn.1
 clear hn
 obtain ⟨x1, hweq, hL0⟩ := GL.named (hL0.new rfl [.int .u64 0, .string ⟨#[]⟩, .bool false, .int .u64 0, .string ⟨#[]⟩] 47)
 have hG : GL x1 x1 [] := GL.start x1
 replace hG := hG.new rfl [.int .u64 0, .string ⟨#[]⟩, .bool false, .int .u64 0, .string ⟨#[]⟩] 136
 generalize hweq2 : x1.alloc (.cells #[.int .u64 0, .string ⟨#[]⟩, .bool false, .int .u64 0, .string ⟨#[]⟩] 136) = x2 at hG
 go_enter Tryz.func38, Tryz.ntmps38
 go_wp2_with fail
 rw [← zero_cells] at hG
 have hc2 : 0 < n → ∃ g, ao = some ⟨g, 0, none⟩ ∧ FS x1 g qs := fun h => by obtain ⟨g, h1, h2⟩ := hcell.out h; exact ⟨g, h1, h2.below hL0.bl⟩
 with_reducible refine Calls.mono (HE.out x1 x1.heap.size ⟨hc2, hn2.out⟩ x2 hG) ?_
 rintro e x3 ⟨rfl, hE⟩
 replace hL0 := hL0.join hE
 simp only [List.cons_append, List.nil_append] at hL0
 clear hE hG hweq hweq2 hc2 hcell hn2 HE
 generalize x1.heap.size = t at *
 have hA := hL0.fc
 simp only [zF, Nat.reduceAdd] at hA
 obtain ⟨x2, hput1, hP⟩ := GL.named (hL0.put 1 (w.heap.size) _ rfl [.int .u64 ((zl s.num : Nat) : Int), .string (zh s.num), .bool (zs s.num), .int .u64 ((lo (fe s) : Nat) : Int), .string (hs (fe s))] rfl)
 simp only [setAll] at hput1
 simp only [List.set_cons_zero, List.set_cons_succ] at hP
 have hB1 := hP.fc
 simp only [zF, Nat.reduceAdd] at hB1
 replace hL0 := hP
 go_wp2_with fail
 exact bodyPost_ret (v := fracV s) (by simp [results, Tryz.results38, go_sem, hB1]) rfl ⟨rfl, hL0.bl⟩
theorem slq_parts' {w : World} {ao : Option Addr} {n c : Nat} {qs : List Rat} (h : SlQ w (.slice ao n c) qs) (hl : qs.length ≤ 1000000) : (0 < n → ∃ g, ao = some ⟨g, 0, none⟩ ∧ FS w g qs) ∧ qs.length = n ∧ n ≤ 1000000 := by
 rcases h with ⟨ao, c, h1, rfl⟩ | ⟨g, c, h1, h2⟩
 ·simp only [Value.slice.injEq] at h1
  obtain ⟨-, rfl, -⟩ := h1
  exact ⟨fun h => absurd h (by omega), rfl, by omega⟩
 ·simp only [Value.slice.injEq] at h1
  obtain ⟨rfl, rfl, -⟩ := h1
  exact ⟨fun _ => ⟨g, rfl, h2⟩, rfl, hl⟩
end Go.Proofs.YtkpghlnegbimdaaGreatDoor
namespace Go.Proofs.YtkpghlnegbimdaaGreatDoor
open Go.RowKit
attribute [local irreducible] lo hs sm s64 c64 d64 b64 mh ml pd pc qd qc val hiB str cmpI srD lz nb zl zh zs
/-- A term as the program holds it. -/
abbrev TI := Int × Int × Rat
def tmC (t : TI) : List Value := [.int .i64 t.1, .int .i64 t.2.1, .int .u64 ((zl t.2.2.num : Nat) : Int), .string (zh t.2.2.num), .bool (zs t.2.2.num), .int .u64 ((lo (fe t.2.2) : Nat) : Int), .string (hs (fe t.2.2))]
abbrev tmV (i j : Int) (q : Rat) : Value := .agg #[.int .i64 i, .int .i64 j, .int .u64 ((zl q.num : Nat) : Int), .string (zh q.num), .bool (zs q.num), .int .u64 ((lo (fe q) : Nat) : Int), .string (hs (fe q))]
def tmCs (l : List TI) : List Value := l.flatMap tmC
theorem tmCs_nil : tmCs [] = [] := rfl
theorem tmC_length (q : TI) : (tmC q).length = 7 := rfl
theorem tmCs_length : ∀ l : List TI, (tmCs l).length = l.length * 7
 | [] => rfl
 | q :: l => by unfold tmCs; rw [List.flatMap_cons, List.length_append, tmC_length, List.length_cons]; have := tmCs_length l; unfold tmCs at this; omega
theorem tmCs_append (l m : List TI) : tmCs (l ++ m) = tmCs l ++ tmCs m := by unfold tmCs; rw [List.flatMap_append]
theorem tmCs_snoc (l : List TI) (q : TI) : tmCs (l ++ [q]) = tmCs l ++ tmC q := by rw [tmCs_append]; simp [tmCs]
theorem tmCs_get : ∀ (l : List TI) (i j : Nat) (h : i < l.length), j < 7 → (tmCs l)[i * 7 + j]? = (tmC l[i])[j]?
 | q :: l, 0, j, h, hj => by
  unfold tmCs
  rw [List.flatMap_cons, Nat.zero_mul, Nat.zero_add, List.getElem?_append_left (by rw [tmC_length]; exact hj)]; rfl
 | q :: l, i + 1, j, h, hj => by
  have hi : i < l.length := by simpa using h
  have ih := tmCs_get l i j hi hj
  unfold tmCs at ih ⊢
  rw [List.flatMap_cons, List.getElem?_append_right (by rw [tmC_length]; omega), tmC_length, show (i + 1) * 7 + j - 7 = i * 7 + j by omega, ih]
  rfl
theorem tmC_one : ∀ (q : TI), ∀ u ∈ tmC q, u.oneCell' = true := by
 intro q u hu
 unfold tmC at hu
 simp only [List.mem_cons, List.not_mem_nil, or_false] at hu
 rcases hu with rfl | rfl | rfl | rfl | rfl | rfl | rfl <;> rfl
theorem tmCs_one (l : List TI) : ∀ u ∈ tmCs l, u.oneCell' = true := by
 intro u hu
 obtain ⟨q, -, hq⟩ := List.mem_flatMap.1 hu
 exact tmC_one q u hq
structure TS (w : World) (g : Nat) (l : List TI) : Prop where
 cell : ∀ i (h : i < l.length), w.cell? ⟨g, i * 7, none⟩ = some (.int .i64 l[i].1) ∧ w.cell? ⟨g, i * 7 + 1, none⟩ = some (.int .i64 l[i].2.1) ∧ w.cell? ⟨g, i * 7 + 2, none⟩ = some (.int .u64 ((zl l[i].2.2.num : Nat) : Int)) ∧ w.cell? ⟨g, i * 7 + 3, none⟩ = some (.string (zh l[i].2.2.num)) ∧
  w.cell? ⟨g, i * 7 + 4, none⟩ = some (.bool (zs l[i].2.2.num)) ∧ w.cell? ⟨g, i * 7 + 5, none⟩ = some (.int .u64 ((lo (fe l[i].2.2) : Nat) : Int)) ∧ w.cell? ⟨g, i * 7 + 6, none⟩ = some (.string (hs (fe l[i].2.2)))
 lt : g < w.heap.size
theorem TS.below {w w' : World} {g : Nat} {l : List TI} (h : TS w g l) (hb : Below w.heap.size w w') : TS w' g l := by
 have hs := hb.size
 have hl := h.lt
 refine ⟨fun i hi => ?_, by omega⟩
 obtain ⟨h0, h1, h2, h3, h4, h5, h6⟩ := h.cell i hi
 exact ⟨(hb.cell (p := ⟨g, i * 7, none⟩) hl).trans h0, (hb.cell (p := ⟨g, i * 7 + 1, none⟩) hl).trans h1, (hb.cell (p := ⟨g, i * 7 + 2, none⟩) hl).trans h2, (hb.cell (p := ⟨g, i * 7 + 3, none⟩) hl).trans h3, (hb.cell (p := ⟨g, i * 7 + 4, none⟩) hl).trans h4,
  (hb.cell (p := ⟨g, i * 7 + 5, none⟩) hl).trans h5, (hb.cell (p := ⟨g, i * 7 + 6, none⟩) hl).trans h6⟩
theorem TS.cells {w : World} {g : Nat} {l : List TI} (h : TS w g l) (j : Nat) (u : Value) (hu : (tmCs l)[j]? = some u) : w.cell? ⟨g, j, none⟩ = some u := by
 have hj : j < (tmCs l).length := (List.getElem?_eq_some_iff.1 hu).1
 rw [tmCs_length] at hj
 have hi : j / 7 < l.length := by omega
 have e := tmCs_get l (j / 7) (j % 7) hi (Nat.mod_lt _ (by omega))
 rw [show j / 7 * 7 + j % 7 = j by omega, hu] at e
 obtain ⟨h0, h1, h2, h3, h4, h5, h6⟩ := h.cell _ hi
 have hk : j = j / 7 * 7 + j % 7 := by omega
 have hm : j % 7 < 7 := Nat.mod_lt _ (by omega)
 generalize j / 7 = i at *
 generalize j % 7 = k at *
 subst hk
 rcases (show k = 0 ∨ k = 1 ∨ k = 2 ∨ k = 3 ∨ k = 4 ∨ k = 5 ∨ k = 6 by omega) with rfl | rfl | rfl | rfl | rfl | rfl | rfl <;> (injection e.symm.trans (show _ = some _ from rfl) with e; subst e; first | exact h0 | exact h1 | exact h2 | exact h3 | exact h4 | exact h5 | exact h6)
/-- The slice v holds the terms l. -/
def PT (w : World) (v : Value) (l : List TI) : Prop := (∃ ao c, v = .slice ao 0 c ∧ l = []) ∨ ∃ g c, v = .slice (some ⟨g, 0, none⟩) l.length c ∧ TS w g l
theorem PT.below {w w' : World} {v : Value} {l : List TI} (h : PT w v l) (hb : Below w.heap.size w w') : PT w' v l := by
 rcases h with h | ⟨g, c, h1, h2⟩
 ·exact .inl h
 ·exact .inr ⟨g, c, h1, h2.below hb⟩
theorem PT.keeps (v : Value) (l : List TI) : Keeps (fun w => PT w v l) := fun _ _ hb h => h.below hb
theorem pt_nil (w : World) : PT w (.slice none 0 0) [] := .inl ⟨none, 0, rfl, rfl⟩
theorem pt_form {w : World} {v : Value} {l : List TI} (h : PT w v l) : ∃ ao n c, v = .slice ao n c ∧ n = l.length := by
 rcases h with ⟨ao, c, h1, rfl⟩ | ⟨g, c, h1, h2⟩
 ·exact ⟨ao, 0, c, h1, rfl⟩
 ·exact ⟨_, _, c, h1, rfl⟩
theorem pt_parts {w : World} {ao : Option Addr} {n c : Nat} {l : List TI} (h : PT w (.slice ao n c) l) : n = l.length ∧ (0 < n → ∃ g, ao = some ⟨g, 0, none⟩ ∧ TS w g l) := by
 rcases h with ⟨a2, c2, h1, rfl⟩ | ⟨g, c2, h1, h2⟩
 ·simp only [Value.slice.injEq] at h1
  obtain ⟨-, rfl, -⟩ := h1
  exact ⟨rfl, fun h => by omega⟩
 ·simp only [Value.slice.injEq] at h1
  obtain ⟨rfl, rfl, -⟩ := h1
  exact ⟨rfl, fun _ => ⟨g, rfl, h2⟩⟩
theorem pt_mk {w : World} {ao : Option Addr} {n c : Nat} {l : List TI} (hn : n = l.length) (h : 0 < n → ∃ g, ao = some ⟨g, 0, none⟩ ∧ TS w g l) : PT w (.slice ao n c) l := by
 subst hn
 rcases Nat.eq_zero_or_pos l.length with h0 | h0
 ·rw [h0]; exact .inl ⟨ao, c, rfl, List.eq_nil_of_length_eq_zero h0⟩
 ·obtain ⟨g, rfl, h2⟩ := h h0
  exact .inr ⟨g, c, rfl, h2⟩
theorem add0H (g j : Nat) : (⟨g, 0, none⟩ : Addr).add j = ⟨g, j, none⟩ := by
 unfold Addr.add
 by_cases h : j = 0
 ·subst h; simp
 ·simp [h]
abbrev OwnT (w : World) (B : Nat) (v : Value) (n : Nat) (l : List TI) : Prop := w.ownsRow B 84 7 v n (tmCs l)
theorem ownT_cells {w : World} {B n : Nat} {v : Value} {l : List TI} {g : Nat} {c : Nat} (h : OwnT w B v n l) (hv : v = .slice (some ⟨g, 0, none⟩) n c) (j : Nat) (u : Value) (hu : (tmCs l)[j]? = some u) : w.cell? ⟨g, j, none⟩ = some u := by
 have := World.ownsRow.cells h (g := g) (by rw [hv]; rfl) j u hu
 rw [add0H] at this
 exact this
theorem ownT_ts {w : World} {B n g c : Nat} {v : Value} {l : List TI} (h : OwnT w B v n l) (hv : v = .slice (some ⟨g, 0, none⟩) n c) : TS w g l := by
 have hc := ownT_cells h hv
 refine ⟨fun i hi => ?_, (h.lt g (by rw [hv]; rfl)).2⟩
 have e := fun j hj => tmCs_get l i j hi hj
 exact ⟨hc _ _ (by have := e 0 (by omega); rw [Nat.add_zero] at this; exact this), hc _ _ (e 1 (by omega)), hc _ _ (e 2 (by omega)), hc _ _ (e 3 (by omega)), hc _ _ (e 4 (by omega)), hc _ _ (e 5 (by omega)), hc _ _ (e 6 (by omega))⟩
theorem ownT_pt {w : World} {B n : Nat} {v : Value} {l : List TI} (h : OwnT w B v n l) (hn : n = l.length) : PT w v l := by
 rcases h.2 with ⟨h1, h2⟩ | ⟨g, cap, cur, h1, h2, h3, h4, h5, h6, h7⟩
 ·exact .inl ⟨none, 0, h1, List.eq_nil_of_length_eq_zero (by omega)⟩
 ·exact .inr ⟨g, cap, by rw [h1, hn], ownT_ts h h1⟩
theorem ownT_below {w w' : World} {B n : Nat} {v : Value} {l : List TI} (h : OwnT w B v n l) (hb : Below w.heap.size w w') : OwnT w' B v n l := by
 refine ⟨h.1, ?_⟩
 rcases h.2 with h1 | ⟨g, cap, cur, h1, h2, h3, h4⟩
 ·exact .inl h1
 ·refine .inr ⟨g, cap, cur, h1, h2, ?_, h4⟩
  have hg := (h.lt g (by rw [h1]; rfl)).2
  rw [hb.block g hg]; exact h3
/-- .. while blocks below B, new ones, and one that is not the row's turn. -/
theorem ownT_kept {w w' : World} {B n : Nat} {v : Value} {l : List TI} (h : OwnT w B v n l) {row : Option Nat} (hg : w.grownBy w' row) (hr : ∀ g, row = some g → g < B) : OwnT w' B v n l := by
 refine ⟨h.1, ?_⟩
 rcases h.2 with h1 | ⟨g, cap, cur, h1, h2, h3, h4⟩
 ·exact .inl h1
 ·refine .inr ⟨g, cap, cur, h1, h2, ?_, h4⟩
  have hlt := (h.lt g (by rw [h1]; rfl)).2
  rw [hg.block g hlt (fun e => by have := hr g e.symm; omega)]; exact h3
theorem infoT : (Tryz.prog.info? 84).map (fun i => (i.zero, i.size, i.bytes)) = some (some (.agg #[.int .i64 0, .int .i64 0, .int .u64 0, .string ⟨#[]⟩, .bool false, .int .u64 0, .string ⟨#[]⟩]), 7, 72) := by kernel_rfl
theorem hd_newsH {w : World} {k : Nat} {c : List Value} (h : Hd w k c) : ∀ (j : Nat) (u : Value), c[j]? = some u → w.cell? ((⟨k, 0, none⟩ : Addr).add j) = some u := by
 intro j u hu
 obtain ⟨hj, he⟩ := List.getElem?_eq_some_iff.1 hu
 rw [add0H, h.cell j hj, he]
/-- Valid terms. -/
def Vd (t : TI) : Prop := 0 ≤ t.1 ∧ 0 ≤ t.2.1 ∧ t.1 + t.2.1 ≤ 12
def VdL (l : List TI) : Prop := ∀ t ∈ l, Vd t
instance (t : TI) : Decidable (Vd t) := by unfold Vd; exact inferInstance
instance (l : List TI) : Decidable (VdL l) := by unfold VdL; exact inferInstance
def toT (t : TI) : Nat × Nat × Rat := (t.1.toNat, t.2.1.toNat, t.2.2)
def ofT (t : Nat × Nat × Rat) : TI := ((t.1 : Int), (t.2.1 : Int), t.2.2)
def toL (l : List TI) : TL := l.map toT
def ofL (p : TL) : List TI := p.map ofT
theorem toT_ofT (t : Nat × Nat × Rat) : toT (ofT t) = t := by simp [toT, ofT]
theorem toL_ofL (p : TL) : toL (ofL p) = p := by simp [toL, ofL, Function.comp_def, toT_ofT]
theorem ofT_toT {t : TI} (h : Vd t) : ofT (toT t) = t := by
 obtain ⟨h1, h2, h3⟩ := h
 simp [toT, ofT, Int.toNat_of_nonneg h1, Int.toNat_of_nonneg h2]
theorem ofL_toL {l : List TI} (h : VdL l) : ofL (toL l) = l := by
 induction l with
 | nil => rfl
 | cons t l ih => simp only [toL, ofL, List.map_cons]; rw [ofT_toT (h t mZ)]; have := ih (fun u hu => h u (mK hu)); unfold toL ofL at this; rw [this]
theorem vd_ofT {t : Nat × Nat × Rat} : Vd (ofT t) ↔ t.1 + t.2.1 ≤ 12 := by unfold Vd ofT; simp only; omega
theorem vd_ofL {p : TL} : VdL (ofL p) ↔ TB p 12 := by
 unfold VdL ofL TB
 simp only [List.mem_map, forall_exists_index, and_imp, forall_apply_eq_imp_iff₂, vd_ofT]
theorem tb_toL {l : List TI} (h : VdL l) : TB (toL l) 12 := fun t ht => by
 obtain ⟨u, hu, rfl⟩ := List.mem_map.1 ht
 obtain ⟨h1, h2, h3⟩ := h u hu
 show u.1.toNat + u.2.1.toNat ≤ 12
 omega
end Go.Proofs.YtkpghlnegbimdaaGreatDoor
namespace Go.Proofs.YtkpghlnegbimdaaGreatDoor
open Go.RowKit
attribute [local irreducible] lo hs sm s64 c64 d64 b64 mh ml pd pc qd qc val hiB str cmpI srD lz nb zl zh zs
/-- An element of the map as it reads. -/
def dq (q : Rat) : DataW Unit := .agg [.lit (.int .i64 q.num), .lit (.int .i64 (q.den : Int))]
theorem dq_inj {p q : Rat} (h : dq p = dq q) : p = q := by
 unfold dq at h
 simp only [DataW.agg.injEq, List.cons.injEq, DataW.lit.injEq, Lit.int.injEq, true_and, and_true] at h
 exact Rat.ext h.1 (by omega)
open Classical in
noncomputable def frR (v : Value) : Option (DataW Unit × List MemPlace) := if h : ∃ q, v = fracV q then some (dq h.choose, []) else none
theorem frR_mk (q : Rat) : frR (fracV q) = some (dq q, []) := by
 have h : ∃ p, fracV q = fracV p := ⟨q, rfl⟩
 unfold frR
 rw [dif_pos h]
 have e : q = h.choose := fracV_inj h.choose_spec
 rw [← e]
theorem frR_inv {v : Value} {y : DataW Unit × List MemPlace} (h : frR v = some y) : ∃ q, v = fracV q ∧ y = (dq q, []) := by
 by_cases hq : ∃ q, v = fracV q
 ·obtain ⟨q, rfl⟩ := hq
  rw [frR_mk] at h
  exact ⟨q, rfl, (Option.some.inj h).symm⟩
 ·unfold frR at h
  rw [dif_neg hq] at h
  cases h
abbrev kyV (i j : Int) : Value := .agg #[.int .i64 i, .int .i64 j]
theorem laid8 : laidOutB Tryz.prog = true := by kernel_rfl
theorem row8 : (148 : TypeId) < Tryz.prog.types.size := of_decide_eq_true (by kernel_rfl)
theorem law8 : Maps.Keyed Tryz.prog 148 := Maps.Keyed.of_law (deep_law_laid laid8 (m := 2) (by omega) row8 (by kernel_rfl) (by kernel_rfl))
theorem key8_all : ((List.range 13).all fun i => (List.range 13).all fun j => (keyOf Tryz.prog 148 (kyV (i : Nat) (j : Nat))).isSome) = true := by kernel_rfl
noncomputable def klT (i j : Nat) : Lit := (keyOf Tryz.prog 148 (kyV (i : Nat) (j : Nat))).getD (.bool false)
theorem key8 {i j : Nat} (hi : i ≤ 12) (hj : j ≤ 12) : keyOf Tryz.prog 148 (kyV (i : Nat) (j : Nat)) = some (klT i j) := by
 have h := List.all_eq_true.1 (List.all_eq_true.1 key8_all i (List.mem_range.2 (by omega))) j (List.mem_range.2 (by omega))
 unfold klT
 revert h
 cases keyOf Tryz.prog 148 (kyV (i : Nat) (j : Nat)) with
 | none => intro h; cases h
 | some l => intro _; rfl
attribute [local irreducible] klT
theorem klT_inj {i j k l : Nat} (hi : i ≤ 12) (hj : j ≤ 12) (hk : k ≤ 12) (hl : l ≤ 12) (h : klT i j = klT k l) : i = k ∧ j = l := by
 have e := law8.inj (key8 hi hj) (by rw [h]; exact key8 hk hl)
 simp only [Value.agg.injEq, Array.mk.injEq, List.cons.injEq, Value.int.injEq, and_true, true_and] at e
 omega
theorem klT_key {i j : Nat} (hi : i ≤ 12) (hj : j ≤ 12) : WideAt.IsKeyLit (klT i j) := law8.key (key8 hi hj)
/-- The map that holds the sum of p's terms. -/
structure MRep (D : DataW Unit) (p : TL) : Prop where
 at_ : ∀ i j, i + j ≤ 12 → D.atKey (klT i j) (dq 0) = dq (pair p (ind (i, j)))
 has_ : ∀ kl, Maps.has D kl = true → ∃ i j, i + j ≤ 12 ∧ kl = klT i j
 map_ : Maps.IsMap D
theorem MRep.start : MRep (.map []) [] := ⟨fun i j _ => rfl, fun kl h => (by cases h), ⟨[], rfl⟩⟩
theorem MRep.step {D : DataW Unit} {p : TL} (h : MRep D p) {i j : Nat} {c : Rat} (hij : i + j ≤ 12) : MRep (D.put (klT i j) (dq (pair p (ind (i, j)) + c))) (p ++ [(i, j, c)]) := by
 have hk := klT_key (i := i) (j := j) (by omega) (by omega)
 have e : ∀ k l, pair (p ++ [(i, j, c)]) (ind (k, l)) = pair p (ind (k, l)) + c * ind (k, l) i j := fun k l => by rw [pair_append]; simp only [pair]; grind
 refine ⟨fun k l hkl => ?_, fun kl hl => ?_, h.map_.put _ _⟩
 ·rw [e]
  by_cases hs : k = i ∧ l = j
  ·obtain ⟨rfl, rfl⟩ := hs
   rw [Maps.atKey_put_same h.map_ hk, show ind (k, l) k l = 1 by simp [ind], Rat.mul_one]
  ·rw [Maps.atKey_put_other (fun e => hs (klT_inj (by omega) (by omega) (by omega) (by omega) e)), h.at_ k l hkl, show ind (k, l) i j = 0 from if_neg (fun e => hs (by simp only [Prod.mk.injEq] at e; omega)), Rat.mul_zero, Rat.add_zero]
 ·by_cases hs : kl = klT i j
  ·exact ⟨i, j, hij, hs⟩
  ·rw [Maps.has_put_other hs] at hl
   exact h.has_ kl hl
theorem MRep.none {D : DataW Unit} {p : TL} (h : MRep D p) {i j : Nat} (hij : i + j ≤ 12) (hn : Maps.has D (klT i j) = false) : pair p (ind (i, j)) = 0 := by
 have e := h.at_ i j hij
 rw [Maps.atKey_of_not_has hn] at e
 exact (dq_inj e).symm
/-- What has been collected of the map D when the entries in 'left' are still to come. -/
structure Coll (D : DataW Unit) (p : TL) (left : Lit → Bool) (q : TL) : Prop where
 ne : q.Pairwise (fun s t => key s ≠ key t)
 mem : ∀ t ∈ q, left (klT t.1 t.2.1) = false ∧ t.2.2 = pair p (ind (t.1, t.2.1)) ∧ t.2.2 ≠ 0 ∧ t.1 + t.2.1 ≤ 12
 all : ∀ i j, i + j ≤ 12 → Maps.has D (klT i j) = true → left (klT i j) = false → pair p (ind (i, j)) ≠ 0 → (i, j, pair p (ind (i, j))) ∈ q
 sub : ∀ kl, left kl = true → Maps.has D kl = true
theorem Coll.start (D : DataW Unit) (p : TL) : Coll D p (Maps.has D) [] := ⟨List.Pairwise.nil, fun t h => (by cases h), fun i j _ h1 h2 => (by rw [h1] at h2; cases h2), fun kl h => h⟩
theorem strike_iff {left : Lit → Bool} {i j k l : Nat} (h1 : i + j ≤ 12) (h2 : k + l ≤ 12) : (left (klT k l) && !(klT k l).sameKey (klT i j)) = false ↔ left (klT k l) = false ∨ (k = i ∧ l = j) := by
 by_cases hs : k = i ∧ l = j
 ·obtain ⟨rfl, rfl⟩ := hs
  rw [WideAt.sameKey_self (klT_key (by omega) (by omega))]; simp
 ·rw [Maps.sameKey_ne (fun e => hs (klT_inj (by omega) (by omega) (by omega) (by omega) e))]; simp [hs]
theorem Coll.skip {D : DataW Unit} {p : TL} {left : Lit → Bool} {q : TL} (h : Coll D p left q) {i j : Nat} (hij : i + j ≤ 12) (h0 : pair p (ind (i, j)) = 0) : Coll D p (fun x => left x && !x.sameKey (klT i j)) q := by
 refine ⟨h.ne, fun t ht => ?_, fun k l hkl hD hl hn => ?_, fun kl hl => h.sub kl (by simp only [Bool.and_eq_true] at hl; exact hl.1)⟩
 ·obtain ⟨h1, h2⟩ := h.mem t ht
  exact ⟨by show (left _ && _) = false; rw [h1]; rfl, h2⟩
 ·rcases (strike_iff hij hkl).1 hl with h1 | ⟨rfl, rfl⟩
  ·exact h.all k l hkl hD h1 hn
  ·exact absurd h0 hn
theorem Coll.take {D : DataW Unit} {p : TL} {left : Lit → Bool} {q : TL} (h : Coll D p left q) {i j : Nat} (hij : i + j ≤ 12) (hl : left (klT i j) = true) {c : Rat} (hc : c = pair p (ind (i, j))) (h0 : c ≠ 0) : Coll D p (fun x => left x && !x.sameKey (klT i j)) (q ++ [(i, j, c)]) := by
 subst hc
 refine ⟨?_, fun t ht => ?_, fun k l hkl hD hl2 hn => ?_, fun kl hl => h.sub kl (by simp only [Bool.and_eq_true] at hl; exact hl.1)⟩
 ·rw [List.pairwise_append]
  refine ⟨h.ne, List.pairwise_singleton _ _, fun s hs t ht => ?_⟩
  rw [List.mem_singleton.1 ht]
  intro e
  obtain ⟨e1, e2⟩ : s.1 = i ∧ s.2.1 = j := key_ext (t := (i, j, 0)) e
  have := (h.mem s hs).1
  rw [e1, e2, hl] at this
  cases this
 ·rcases List.mem_append.1 ht with ht | ht
  ·obtain ⟨h1, h2⟩ := h.mem t ht
   exact ⟨by show (left _ && _) = false; rw [h1]; rfl, h2⟩
  ·rw [List.mem_singleton.1 ht]
   exact ⟨(strike_iff hij hij).2 (.inr ⟨rfl, rfl⟩), rfl, h0, hij⟩
 ·rcases (strike_iff hij hkl).1 hl2 with h1 | ⟨rfl, rfl⟩
  ·exact List.mem_append_left _ (h.all k l hkl hD h1 hn)
  ·exact List.mem_append_right _ (List.mem_singleton.2 rfl)
theorem Coll.len {D : DataW Unit} {p : TL} {left : Lit → Bool} {q : TL} (h : Coll D p left q) : q.length ≤ 169 := by
 have h1 : (q.map fun t => t.1 * 13 + t.2.1).Nodup := by
  refine List.pairwise_map.2 (h.ne.imp_of_mem ?_)
  intro s t hs ht hne e
  have e1 := (h.mem s hs).2.2.2
  have e2 := (h.mem t ht).2.2.2
  exact hne (Prod.ext (by show s.1 = t.1; omega) (by show s.2.1 = t.2.1; omega))
 have h2 : (q.map fun t => t.1 * 13 + t.2.1) ⊆ List.range 169 := by
  intro x hx
  obtain ⟨t, ht, rfl⟩ := List.mem_map.1 hx
  have e1 := (h.mem t ht).2.2.2
  exact List.mem_range.2 (by omega)
 have := h1.length_le_of_subset h2
 rwa [List.length_map, List.length_range] at this
/-- All collected, in the order of the keys: the normal form. -/
theorem Coll.done {D : DataW Unit} {p : TL} {left : Lit → Bool} {q s : TL} (hR : MRep D p) (hp : TB p 12) (h : Coll D p left q) (hl : ∀ kl, left kl = false) (hs : s.Perm q) (ho : s.Pairwise (fun a b => ¬ KLt (key b) (key a))) : s = nfL p := by
 have hne : s.Pairwise (fun a b => key a ≠ key b) := (hs.pairwise_iff (fun {a b} (h : key a ≠ key b) => h.symm)).2 h.ne
 have hnf : NF s := by
  refine ⟨(ho.and hne).imp ?_, fun t ht => (h.mem t (hs.mem_iff.1 ht)).2.2.1⟩
  rintro a b ⟨h1, h2⟩
  rcases KLt.tri (key a) (key b) with h3 | h3 | h3
  ·exact h3
  ·exact absurd h3 h2
  ·exact absurd h3 h1
 have htb : TB s 12 := fun t ht => (h.mem t (hs.mem_iff.1 ht)).2.2.2
 refine (nfL_of hnf (eqv_of_coef htb hp fun i j => ?_)).symm
 by_cases hm : ∃ t ∈ s, key t = (i, j)
 ·obtain ⟨t, ht, hk⟩ := hm
  obtain ⟨e1, e2⟩ : t.1 = i ∧ t.2.1 = j := key_ext (t := (i, j, 0)) hk
  have h1 := (h.mem t (hs.mem_iff.1 ht)).2.1
  rw [e1, e2] at h1
  rw [← h1]
  have g : ∀ (l : TL), l.Pairwise (fun a b => key a ≠ key b) → t ∈ l → pair l (ind (i, j)) = t.2.2 := by
   intro l
   induction l with
   | nil => intro _ h; cases h
   | cons u l ih =>
    intro hpw hmem
    have hc := List.pairwise_cons.1 hpw
    rcases List.mem_cons.1 hmem with rfl | hmem
    ·have : pair l (ind (i, j)) = 0 := coef_none fun v hv e => hc.1 v hv (hk.trans e.symm)
     simp only [pair]
     rw [this, e1, e2, show ind (i, j) i j = 1 by simp [ind]]; grind
    ·simp only [pair]
     rw [ih hc.2 hmem, show ind (i, j) u.1 u.2.1 = 0 from if_neg (fun e => hc.1 t hmem (e.trans hk.symm))]; grind
  exact g s hne ht
 ·rw [coef_none fun v hv e => hm ⟨v, hv, e⟩]
  by_cases hij : i + j ≤ 12
  ·cases hD : Maps.has D (klT i j) with
   | false => rw [hR.none hij hD]
   | true =>
    by_cases h0 : pair p (ind (i, j)) = 0
    ·rw [h0]
    ·exact absurd ⟨_, hs.mem_iff.2 (h.all i j hij hD (hl _) h0), rfl⟩ hm
  ·rw [coef_none fun v hv e => hij (by have := hp v hv; obtain ⟨e1, e2⟩ : v.1 = i ∧ v.2.1 = j := key_ext (t := (i, j, 0)) e; omega)]
end Go.Proofs.YtkpghlnegbimdaaGreatDoor
namespace Go.Proofs.YtkpghlnegbimdaaGreatDoor
open Go.RowKit
attribute [local irreducible] lo hs sm s64 c64 d64 b64 mh ml pd pc qd qc val hiB str cmpI srD lz nb zl zh zs
theorem ne_fr {p q : Rat} (h : p ≠ q) : (((zl p.num : Nat) : Int) == ((zl q.num : Nat) : Int)) = false ∨
  ((((zl p.num : Nat) : Int) == ((zl q.num : Nat) : Int)) = true ∧ ((zh p.num).toList == (zh q.num).toList) = false) ∨
  ((((zl p.num : Nat) : Int) == ((zl q.num : Nat) : Int)) = true ∧ ((zh p.num).toList == (zh q.num).toList) = true ∧ (zs p.num == zs q.num) = false) ∨
  ((((zl p.num : Nat) : Int) == ((zl q.num : Nat) : Int)) = true ∧ ((zh p.num).toList == (zh q.num).toList) = true ∧ (zs p.num == zs q.num) = true ∧ (((lo (fe p) : Nat) : Int) == ((lo (fe q) : Nat) : Int)) = false) ∨
  ((((zl p.num : Nat) : Int) == ((zl q.num : Nat) : Int)) = true ∧ ((zh p.num).toList == (zh q.num).toList) = true ∧ (zs p.num == zs q.num) = true ∧ (((lo (fe p) : Nat) : Int) == ((lo (fe q) : Nat) : Int)) = true ∧ ((hs (fe p)).toList == (hs (fe q)).toList) = false) := by
 by_cases hn : p.num = q.num
 ·have he : fe p ≠ fe q := fun e => h (fracV_inj (by unfold fracV; rw [hn, e]))
  rw [hn]
  rcases ne_nat he with h1 | ⟨h1, h2⟩
  ·exact .inr (.inr (.inr (.inl ⟨by simp, by simp, by simp, h1⟩)))
  ·exact .inr (.inr (.inr (.inr ⟨by simp, by simp, by simp, h1, h2⟩)))
 ·rcases ne_int hn with h1 | h1 | h1
  ·exact .inl h1
  ·exact .inr (.inl h1)
  ·exact .inr (.inr (.inl h1))
/-- What == sees of two fractions, as they are the same or not. -/
theorem same_fr {p q : Rat} {y : Bool} (hy : y = decide (p = q)) : (((((zl p.num : Nat) : Int) == ((zl q.num : Nat) : Int)) = true ∧ ((zh p.num).toList == (zh q.num).toList) = true ∧ (zs p.num == zs q.num) = true ∧ (((lo (fe p) : Nat) : Int) == ((lo (fe q) : Nat) : Int)) = true ∧ ((hs (fe p)).toList == (hs (fe q)).toList) = true) ∧ y = true) ∨
  (((((zl p.num : Nat) : Int) == ((zl q.num : Nat) : Int)) = false) ∧ y = false) ∨
  (((((zl p.num : Nat) : Int) == ((zl q.num : Nat) : Int)) = true ∧ ((zh p.num).toList == (zh q.num).toList) = false) ∧ y = false) ∨
  (((((zl p.num : Nat) : Int) == ((zl q.num : Nat) : Int)) = true ∧ ((zh p.num).toList == (zh q.num).toList) = true ∧ (zs p.num == zs q.num) = false) ∧ y = false) ∨
  (((((zl p.num : Nat) : Int) == ((zl q.num : Nat) : Int)) = true ∧ ((zh p.num).toList == (zh q.num).toList) = true ∧ (zs p.num == zs q.num) = true ∧ (((lo (fe p) : Nat) : Int) == ((lo (fe q) : Nat) : Int)) = false) ∧ y = false) ∨
  (((((zl p.num : Nat) : Int) == ((zl q.num : Nat) : Int)) = true ∧ ((zh p.num).toList == (zh q.num).toList) = true ∧ (zs p.num == zs q.num) = true ∧ (((lo (fe p) : Nat) : Int) == ((lo (fe q) : Nat) : Int)) = true ∧ ((hs (fe p)).toList == (hs (fe q)).toList) = false) ∧ y = false) := by
 subst hy
 by_cases h : p = q
 ·subst h
  exact .inl ⟨⟨by simp, by simp, by simp, by simp, by simp⟩, decide_eq_true rfl⟩
 ·have hd := decide_eq_false h
  rcases ne_fr h with h1 | h1 | h1 | h1 | h1
  ·exact .inr (.inl ⟨h1, hd⟩)
  ·exact .inr (.inr (.inl ⟨h1, hd⟩))
  ·exact .inr (.inr (.inr (.inl ⟨h1, hd⟩)))
  ·exact .inr (.inr (.inr (.inr (.inl ⟨h1, hd⟩))))
  ·exact .inr (.inr (.inr (.inr (.inr ⟨h1, hd⟩))))
end Go.Proofs.YtkpghlnegbimdaaGreatDoor
namespace Go.Proofs.YtkpghlnegbimdaaGreatDoor
open Go.RowKit
attribute [local irreducible] lo hs sm s64 c64 d64 b64 mh ml pd pc qd qc val hiB str cmpI srD lz nb zl zh zs
/-- A fraction's text. -/
def qtxt (q : Rat) : ByteArray := if q.den = 1 then ztxt q.num else ztxt q.num ++ (ByteArray.mk #[47]) ++ txt q.den
theorem ztxt_small {z : Int} {k : Nat} (hk : 0 < k) (h : dI z ≤ k) : (ztxt z).size ≤ 20 * k + 1 := by
 have h1 := txt_small (n := z.natAbs) hk h
 unfold ztxt
 split
 ·rw [ByteArray.size_append]
  have : (ByteArray.mk #[45]).size = 1 := rfl
  omega
 ·omega
theorem textF (q : Rat) (k : Nat) (hq : Sz q k) (hk : k ≤ 100000) (w : World) (htab : Tab w) : Calls Tryz.prog 46 #[fracV q] w fun x w' => x = .returned (.string (qtxt q)) ∧ Below w.heap.size w w' := by
 have hT := fun w h => textI q.num (Nat.le_trans hq.1 (by omega)) w h
 unfold qtxt
 by_cases h : q.den = 1
 ·rw [if_pos h, show fracV q = frV q.num 0 by unfold fracV; rw [fe_one h]]
  exact ftext_whole q.num _ (fun w => by have := whole_raw q.num 0 w; rwa [decide_eq_true rfl] at this) hT w htab
 ·rw [if_neg h, show fracV q = frV q.num q.den by unfold fracV; rw [fe_ne h]]
  have s1 := ztxt_small (k := 100000) (by omega) (Nat.le_trans hq.1 hk)
  have s2 := txt_small (n := q.den) (k := 100000) (by omega) (Nat.le_trans hq.2 hk)
  exact ftext_part q.num q.den _ _ (fun w => by have := whole_raw q.num q.den w; rwa [decide_eq_false q.den_nz] at this) hT (fun w h => text_any q.den (Nat.le_trans hq.2 (by omega)) w h) (by omega) (by omega) w htab
end Go.Proofs.YtkpghlnegbimdaaGreatDoor
namespace Go.Proofs.YtkpghlnegbimdaaGreatDoor
open Go.RowKit
attribute [local irreducible] lo hs sm s64 c64 d64 b64 mh ml pd pc qd qc val hiB str cmpI srD lz nb zl zh zs
theorem szc (q : Rat) (h1 : q.num.natAbs < 18446744073709551616) (h2 : q.den < 18446744073709551616) : Sz q 1 :=
 ⟨digs_length_iff.2 (by rw [Nat.pow_one]; exact h1), digs_length_iff.2 (by rw [Nat.pow_one]; exact h2)⟩
/-- The variable of package bytealg that strings.Cut looks at. -/
def MaxL (w : World) : Prop := ∃ m, w.cell? ⟨2, 0, none⟩ = some (.int .i64 m)
theorem MaxL.keeps : Keeps MaxL := fun w w' hb ⟨m, h⟩ => ⟨m, by
 have hl := World.block_lt_of_cell? w _ h
 exact (hb.cell (p := ⟨2, 0, none⟩) hl).trans h⟩
end Go.Proofs.YtkpghlnegbimdaaGreatDoor
namespace Go.Proofs.YtkpghlnegbimdaaGreatDoor
/-- Every operation waits for earlier ones alone, and what comes behind it waits for it or is apart from it. -/
def fastFrom (md : Region.Mode) (ops : Array Oper) : Nat → List Oper → Bool
 | _, [] => true
 | k, o :: l => (o.after.all fun e => !Region.binds md e || decide (e.on < k)) &&
   (l.all fun oj => (oj.after.any fun e => Region.binds md e && e.on == k) || o.apart ops oj) && fastFrom md ops (k + 1) l
def fastB (md : Region.Mode) (l : List Oper) : Bool := Region.noSelect l.toArray && fastFrom md l.toArray 0 l
def preL (s n : Nat) : Array Bool := ((List.range s).map fun i => decide (i < n)).toArray
theorem preL_get (s n i : Nat) (d : Bool) : (preL s n).getD i d = if i < s then decide (i < n) else d := by
 unfold preL
 by_cases h : i < s
 ·simp [h]
 ·simp [h]
theorem preL_set (s n : Nat) : (preL s n).setIfInBounds n true = preL s (n + 1) := by
 apply Array.ext
 ·simp [preL]
 ·intro i h1 h2
  simp only [preL, List.setIfInBounds_toArray, List.getElem_toArray]
  by_cases e : n = i
  ·subst e; simp
  ·rw [List.getElem_set_ne e]
   simp only [List.getElem_map, List.getElem_range]
   by_cases h : i < n
   ·rw [decide_eq_true h, decide_eq_true (by omega)]
   ·rw [decide_eq_false h, decide_eq_false (by omega)]
theorem preL_zero (s : Nat) : preL s 0 = Array.replicate s false := by
 apply Array.ext
 ·simp [preL]
 ·intro i h1 h2; simp [preL]
theorem lexFrom_of_fast {md : Region.Mode} {ops : Array Oper} : ∀ (l : List Oper) (k : Nat), (∀ j, l[j]? = ops[k + j]?) → k + l.length = ops.size → fastFrom md ops k l = true → Region.lexFrom md ops l.length k (preL ops.size k) = true
 | [], k, hl, hs, _ => by
  have : Region.ready md ops (preL ops.size k) = [] := by
   apply List.eq_nil_iff_forall_not_mem.2
   intro j hj
   obtain ⟨h1, o, ho, -⟩ := mem_ready.1 hj
   have hj' : j < ops.size := (Array.getElem?_eq_some_iff.1 ho).1
   rw [preL_get, if_pos hj', decide_eq_true (by simp at hs; omega)] at h1
   cases h1
  simp [Region.lexFrom, this]
 | o :: l, k, hl, hs, h => by
  have h0 : ops[k]? = some o := by simpa using (hl 0).symm
  have hk : k < ops.size := (Array.getElem?_eq_some_iff.1 h0).1
  simp only [fastFrom, Bool.and_eq_true] at h
  obtain ⟨⟨hw, hf⟩, hr⟩ := h
  simp only [List.length_cons, Region.lexFrom, Bool.and_eq_true]
  refine ⟨⟨List.contains_iff_mem.2 (mem_ready.2 ⟨by rw [preL_get, if_pos hk, decide_eq_false (by omega)], o, h0, fun e he hb => ?_⟩), ?_⟩, ?_⟩
  ·have h1 := (Array.all_eq_true_iff_forall_mem.1 hw) e he
   simp only [hb, Bool.not_true, Bool.false_or, decide_eq_true_eq] at h1
   rw [preL_get, if_pos (by omega), decide_eq_true h1]
  ·simp only [Region.free, h0, List.all_eq_true, List.mem_range]
   intro j hj
   by_cases e : j = k
   ·simp [e]
   ·by_cases hjk : j < k
    ·rw [preL_get, if_pos hj, decide_eq_true hjk]; simp
    ·have h2 : l[j - k - 1]? = ops[j]? := by
      have := hl (j - k)
      rw [show k + (j - k) = j by omega] at this
      rw [← this, show j - k = (j - k - 1) + 1 by omega, List.getElem?_cons_succ]
      rfl
     rw [Array.getElem?_eq_getElem hj] at h2
     have h3 := (List.all_eq_true.1 hf) ops[j] (List.mem_of_getElem? h2)
     rw [Array.getElem?_eq_getElem hj]
     simp only [Bool.or_eq_true] at h3 ⊢
     exact .inr h3
  ·rw [preL_set]
   exact lexFrom_of_fast l (k + 1) (fun j => by have := hl (j + 1); simpa [Nat.add_assoc, Nat.add_comm 1 j] using this) (by simp at hs; omega) hr
theorem lexB_of_fast {md : Region.Mode} {l : List Oper} (h : fastB md l = true) : Region.lexB md l.toArray = true := by
 simp only [fastB, Bool.and_eq_true] at h
 simp only [Region.lexB, Bool.and_eq_true]
 refine ⟨h.1, ?_⟩
 have := lexFrom_of_fast (md := md) (ops := l.toArray) l 0 (fun j => by simp) (by simp) h.2
 rw [preL_zero] at this
 simpa using this
end Go.Proofs.YtkpghlnegbimdaaGreatDoor
namespace Go.Proofs.YtkpghlnegbimdaaGreatDoor
open Go.RowKit
attribute [local irreducible] lo hs sm s64 c64 d64 b64 mh ml pd pc qd qc val hiB str cmpI srD lz zl zh zs dval
theorem digs_pow_le {n k : Nat} (h : (digs n).length ≤ k) : ∀ i, (digs (n ^ i)).length ≤ k * i + 1
 | 0 => by rw [Nat.pow_zero]; exact digs_length_iff.2 (by rw [Nat.mul_zero, Nat.zero_add, Nat.pow_one]; exact Bs_gt)
 | i + 1 => by
  rw [Nat.pow_succ]
  refine Nat.le_trans (digs_mul_le (digs_pow_le h i) h) ?_
  rw [Nat.mul_succ]; omega
theorem Sz.pow {q : Rat} {k : Nat} (h : Sz q k) (i : Nat) : Sz (q ^ i) (k * i + 1) := by
 refine ⟨?_, ?_⟩
 ·show (digs (q ^ i).num.natAbs).length ≤ _
  rw [Rat.num_pow, Int.natAbs_pow]; exact digs_pow_le h.1 i
 ·rw [Rat.den_pow]; exact digs_pow_le h.2 i
/-- A fraction of small data. -/
def qmade (n : Int) (d : Nat) : Rat := mkRat n (if d < 1 then 1 else d)
theorem qmade_parts (n : Int) (d : Nat) : (qmade n d).num.natAbs ≤ n.natAbs ∧ (qmade n d).den ≤ (if d < 1 then 1 else d) := by
 unfold qmade
 obtain ⟨h1, h2⟩ := canc (z := n) (d := if d < 1 then 1 else d) (by split <;> omega)
 rw [h1, h2, Int.natAbs_tdiv]
 exact ⟨Nat.div_le_self _ _, Nat.div_le_self _ _⟩
theorem qmade_sz (n : Int) (d : Nat) (h1 : -9223372036854775808 ≤ n) (h2 : n < 9223372036854775808) (h3 : d < 4294967296) : Sz (qmade n d) 1 := by
 obtain ⟨e1, e2⟩ := qmade_parts n d
 exact szc _ (by omega) (by split at e2 <;> omega)
end Go.Proofs.YtkpghlnegbimdaaGreatDoor
namespace Go.Proofs.YtkpghlnegbimdaaGreatDoor
open Go.RowKit
attribute [local irreducible] lo hs sm s64 c64 d64 b64 mh ml pd pc qd qc val hiB str cmpI srD lz nb zl zh zs dval
/-- A fraction's cells; those of a list. -/
def frC (q : Rat) : List Value := [.int .u64 ((zl q.num : Nat) : Int), .string (zh q.num), .bool (zs q.num), .int .u64 ((lo (fe q) : Nat) : Int), .string (hs (fe q))]
def frCs (l : List Rat) : List Value := l.flatMap frC
theorem frC_length (q : Rat) : (frC q).length = 5 := rfl
theorem frCs_append (l m : List Rat) : frCs (l ++ m) = frCs l ++ frCs m := by unfold frCs; rw [List.flatMap_append]
theorem frCs_snoc (l : List Rat) (q : Rat) : frCs (l ++ [q]) = frCs l ++ frC q := by rw [frCs_append]; simp [frCs]
theorem frCs_get : ∀ (l : List Rat) (i j : Nat) (h : i < l.length), j < 5 → (frCs l)[i * 5 + j]? = (frC l[i])[j]?
 | q :: l, 0, j, h, hj => by
  unfold frCs
  rw [List.flatMap_cons, Nat.zero_mul, Nat.zero_add, List.getElem?_append_left (by rw [frC_length]; exact hj)]; rfl
 | q :: l, i + 1, j, h, hj => by
  have hi : i < l.length := by simpa using h
  have ih := frCs_get l i j hi hj
  unfold frCs at ih ⊢
  rw [List.flatMap_cons, List.getElem?_append_right (by rw [frC_length]; omega), frC_length, show (i + 1) * 5 + j - 5 = i * 5 + j by omega, ih]
  rfl
theorem frC_one : ∀ (q : Rat), ∀ u ∈ frC q, u.oneCell' = true := by
 intro q u hu
 unfold frC at hu
 simp only [List.mem_cons, List.not_mem_nil, or_false] at hu
 rcases hu with rfl | rfl | rfl | rfl | rfl <;> rfl
theorem add0 (g j : Nat) : (⟨g, 0, none⟩ : Addr).add j = ⟨g, j, none⟩ := by
 unfold Addr.add
 by_cases h : j = 0
 ·subst h; simp
 ·simp [h]
theorem own_cells {w : World} {B n : Nat} {v : Value} {l : List Rat} {g : Nat} {c : Nat} (h : w.ownsRow B 47 5 v n (frCs l)) (hv : v = .slice (some ⟨g, 0, none⟩) n c) (j : Nat) (u : Value) (hu : (frCs l)[j]? = some u) : w.cell? ⟨g, j, none⟩ = some u := by
 have := World.ownsRow.cells h (g := g) (by rw [hv]; rfl) j u hu
 rw [add0] at this
 exact this
theorem own_fs {w : World} {B n g c : Nat} {v : Value} {l : List Rat} (h : w.ownsRow B 47 5 v n (frCs l)) (hv : v = .slice (some ⟨g, 0, none⟩) n c) : FS w g l := by
 have hc := own_cells h hv
 refine ⟨fun i hi => ?_, (h.lt g (by rw [hv]; rfl)).2⟩
 have e := fun j hj => frCs_get l i j hi hj
 exact ⟨hc _ _ (by have := e 0 (by omega); rw [Nat.add_zero] at this; exact this), hc _ _ (e 1 (by omega)), hc _ _ (e 2 (by omega)), hc _ _ (e 3 (by omega)), hc _ _ (e 4 (by omega))⟩
theorem own_slq {w : World} {B n : Nat} {v : Value} {l : List Rat} (h : w.ownsRow B 47 5 v n (frCs l)) (hn : n = l.length) : SlQ w v l := by
 rcases h.2 with ⟨h1, h2⟩ | ⟨g, cap, cur, h1, h2, h3, h4, h5, h6, h7⟩
 ·exact .inl ⟨none, 0, h1, List.eq_nil_of_length_eq_zero (by omega)⟩
 ·exact .inr ⟨g, cap, by rw [h1, hn], own_fs h h1⟩
theorem own_below {w w' : World} {B n : Nat} {v : Value} {l : List Rat} (h : w.ownsRow B 47 5 v n (frCs l)) (hb : Below w.heap.size w w') : w'.ownsRow B 47 5 v n (frCs l) := by
 refine ⟨h.1, ?_⟩
 rcases h.2 with h1 | ⟨g, cap, cur, h1, h2, h3, h4⟩
 ·exact .inl h1
 ·refine .inr ⟨g, cap, cur, h1, h2, ?_, h4⟩
  have hg := (h.lt g (by rw [h1]; rfl)).2
  rw [hb.block g hg]; exact h3
theorem own_form {w : World} {B n m : Nat} {v : Value} {xs : List Value} (h : w.ownsRow B 47 5 v n xs) (hn : m = n) (h0 : 0 < m) : ∃ g c, v = .slice (some ⟨g, 0, none⟩) m c ∧ B ≤ g ∧ g < w.heap.size ∧ m ≤ c := by
 subst hn
 have hlt := h.lt
 rcases h.2 with ⟨h1, h2⟩ | ⟨g, cap, cur, h1, h2, h3, h4, h5⟩
 ·omega
 ·exact ⟨g, cap, h1, h2, (hlt g (by rw [h1]; rfl)).2, h4⟩
end Go.Proofs.YtkpghlnegbimdaaGreatDoor
namespace Go.Proofs.YtkpghlnegbimdaaGreatDoor
open Go.RowKit
attribute [local irreducible] lo hs sm s64 c64 d64 b64 mh ml pd pc qd qc val hiB str cmpI srD lz nb zl zh zs fe klT
theorem run_neqF (p q : Rat) (y : Bool) (hy : y = decide (p = q)) (W : World) : (binOp .neq 47 (fracV p) (fracV q)).run Tryz.prog W = .ok (.bool (!y)) W := by
 rcases same_fr hy with hz | hz | hz | hz | hz | hz <;> simp [go_sem, hz]
theorem run_eqlF (p q : Rat) (y : Bool) (hy : y = decide (p = q)) (W : World) : (binOp .eql 47 (fracV p) (fracV q)).run Tryz.prog W = .ok (.bool y) W := by
 rcases same_fr hy with hz | hz | hz | hz | hz | hz <;> simp [go_sem, hz]
section
variable {R : Value → Option (DataW Unit × List MemPlace)} {w w' : World} {b n : Nat} {D : DataW Unit}
theorem mp_below {P : Program} {k : TypeId} {B : Nat} (h : w.ownsMap P k R b n D) (hb : Below B w w') (hlt : b < B) : w'.ownsMap P k R b n D := by
 obtain ⟨es, clock, hb1, r⟩ := h
 exact ⟨es, clock, (hb.block b hlt).trans hb1, r⟩
theorem rg_below {P : Program} {k : TypeId} {B r cnt : Nat} {left : Lit → Bool} (h : w.ranges P k R b r n D left cnt) (hb : Below B w w') (hlt : b < B) (hrt : r < B) : w'.ranges P k R b r n D left cnt := by
 obtain ⟨es, clock, since, seen, c0, h1, F, hs, hD, hr, rest⟩ := h
 exact ⟨es, clock, since, seen, c0, (hb.block b hlt).trans h1, F, hs, hD, (hb.block r hrt).trans hr, rest⟩
end
theorem zeroF8 (w : World) : (zeroValue 47).run Tryz.prog w = .ok (fracV 0) w := by
 have h : (zeroValue 47).run Tryz.prog w = .ok (.agg #[.int .u64 0, .string ⟨#[]⟩, .bool false, .int .u64 0, .string ⟨#[]⟩]) w := by kernel_rfl
 rw [h]
 have e := zero_cells
 simp only [List.cons.injEq, and_true] at e
 obtain ⟨e1, e2, e3, e4, e5⟩ := e
 unfold fracV frV
 rw [e1, e2, e3, e4, e5]
theorem mp_look {w : World} {D : DataW Unit} {p : TL} {b n i j : Nat} (h : w.ownsMap Tryz.prog 148 frR b n D) (hR : MRep D p) (hij : i + j ≤ 12) :
  (Instr.lookup 146 (.map (some b)) (kyV (i : Nat) (j : Nat)) false).run Tryz.prog w = .ok (fracV (pair p (ind (i, j)))) w := by
 obtain ⟨v, ps, hrun, hv⟩ := h.lookup law8 Tryz.underlying146 (zeroF8 w) (frR_mk 0) (key8 (i := i) (j := j) (by omega) (by omega))
 obtain ⟨q, rfl, hq⟩ := frR_inv hv
 rw [hR.at_ i j hij] at hq
 have e := dq_inj (Prod.ext_iff.1 hq).1
 rw [hrun, e]
theorem wp_next_terms {P : Program} (w : World) {ops : Array Oper} {rest : List Oper} {o : Oper} {a : Act} {Q : Exit → Act → World → Prop}
  (hg : o.guard = none) (it : Operand) (hop : o.op = Op.next it false) (k : TypeId) (K : Maps.Keyed P k) (b r n : Nat) (D : DataW Unit) (left : Lit → Bool) (cnt : Nat)
  (hit : a.eval it = .pointer (some ⟨r, 0, none⟩)) (h : w.ranges P k frR b r n D left cnt)
  (hsh : ∀ key kl, keyOf P k key = some kl → left kl = true → ∃ i j : Nat, i + j ≤ 12 ∧ key = kyV (i : Nat) (j : Nat) ∧ kl = klT i j)
  (hDone : (∀ kl, left kl = false) → wpList P ops Q rest (a.put o.dst (.tuple #[.bool false])) w)
  (hMore : ∀ (i j : Nat) (c : Rat) (w' : World) (cnt' : Nat), i + j ≤ 12 → left (klT i j) = true → (∀ zd, D.atKey (klT i j) zd = dq c) → w'.ranges P k frR b r n D (fun z => left z && !z.sameKey (klT i j)) cnt' → cnt' < cnt →
   w.grownBy w' (some r) → w'.heap.size = w.heap.size → (Instr.entry (.pointer (some ⟨r, 0, none⟩))).run P w' = .ok (.tuple #[kyV (i : Nat) (j : Nat), fracV c]) w' → wpList P ops Q rest (a.put o.dst (.tuple #[.bool true, kyV (i : Nat) (j : Nat), fracV c])) w') :
  wpList P ops Q (o :: rest) a w := by
 refine wpList_plain hg fun K' hK' => ?_
 unfold Oper.wp
 rcases h.next K o.type with ⟨h0, hl, hrun⟩ | ⟨key, v, kl, y, w', cnt', hkey, hlk, hv, hat, hrun, hrg, hlt, hgr, hsz, hen⟩
 ·simp [execOp, hop, hit, hrun, Result.andThen]
  exact hK' _ _ (hDone hl)
 ·obtain ⟨i, j, hij, rfl, rfl⟩ := hsh key kl hkey hlk
  obtain ⟨c, rfl, rfl⟩ := frR_inv hv
  simp [execOp, hop, hit, hrun, Result.andThen]
  exact hK' _ _ (hMore i j c w' cnt' hij hlk hat hrg hlt hgr hsz hen)
theorem key_shape {D : DataW Unit} {p : TL} {left : Lit → Bool} {q : TL} (hR : MRep D p) (hC : Coll D p left q) : ∀ key kl, keyOf Tryz.prog 148 key = some kl → left kl = true → ∃ i j : Nat, i + j ≤ 12 ∧ key = kyV (i : Nat) (j : Nat) ∧ kl = klT i j := by
 intro key kl hk hl
 obtain ⟨i, j, hij, rfl⟩ := hR.has_ kl (hC.sub kl hl)
 exact ⟨i, j, hij, law8.inj hk (key8 (by omega) (by omega)), rfl⟩
theorem ownT_form {w : World} {B n : Nat} {v : Value} {l : List TI} (h : OwnT w B v n l) : ∃ ao c, v = .slice ao n c ∧ n ≤ c ∧ (ao = none → n = 0) ∧ ∀ g, v.ownBlock = some g → B ≤ g ∧ g < w.heap.size := by
 have hlt := h.lt
 rcases h.2 with ⟨h1, h2⟩ | ⟨g, cap, cur, h1, h2, h3, h4, h5⟩
 ·subst h2
  exact ⟨none, 0, h1, Nat.le_refl _, fun _ => rfl, hlt⟩
 ·exact ⟨some ⟨g, 0, none⟩, cap, h1, h4, fun e => (by cases e), hlt⟩
theorem vd_form {t : TI} (h : Vd t) : ∃ (a b : Nat) (q : Rat), a + b ≤ 12 ∧ t = ((a : Int), (b : Int), q) := by
 obtain ⟨h1, h2, h3⟩ := h
 exact ⟨t.1.toNat, t.2.1.toNat, t.2.2, by omega, Prod.ext (Int.toNat_of_nonneg h1).symm (Prod.ext (Int.toNat_of_nonneg h2).symm rfl)⟩
theorem toL_take_succ {l : List TI} {i : Nat} (h : i < l.length) {a b : Nat} {q : Rat} (e : l[i] = ((a : Int), (b : Int), q)) : toL (l.take (i + 1)) = toL (l.take i) ++ [(a, b, q)] := by
 rw [List.take_succ_eq_append_getElem h, e]
 simp [toL, toT]
end Go.Proofs.YtkpghlnegbimdaaGreatDoor
namespace Go.Proofs.YtkpghlnegbimdaaGreatDoor
open Go.RowKit
attribute [local irreducible] lo hs sm s64 c64 d64 b64 mh ml pd pc qd qc val hiB str cmpI srD lz nb zl zh zs fe klT
theorem psum_w (l : List TI) (ao : Option Addr) (n c : Nat) (z0 : Rat) (hz0 : z0 = 0) (hlen : l.length = n) (hbig : n ≤ 10000) (hv : VdL l)
  (HA : ∀ k (h : k < l.length) (w : World), Calls Tryz.prog 29 #[fracV (pair (toL (l.take k)) (ind (l[k].1.toNat, l[k].2.1.toNat))), fracV l[k].2.2] w fun xe w' => xe = .returned (fracV (pair (toL (l.take k)) (ind (l[k].1.toNat, l[k].2.1.toNat)) + l[k].2.2)) ∧ Below w.heap.size w w')
  (HI : ∀ w : World, Calls Tryz.prog 35 #[.int .i64 0] w fun xe w' => xe = .returned (fracV z0) ∧ Below w.heap.size w w')
  (HS : ∀ (w : World) (B : Nat) (ao : Option Addr) (m c : Nat) (q : TL), m = q.length → TB q 12 → q.length ≤ 169 → OwnT w B (.slice ao m c) m (ofL q) → Calls Tryz.prog 96 #[.slice ao m c, .func (.func 64) #[] #[]] w fun xe w' => xe = .returned (.tuple #[]) ∧ (∃ s : TL, s.Perm q ∧ s.Pairwise (fun a b => ¬ KLt (key b) (key a)) ∧ PT w' (.slice ao m c) (ofL s)) ∧ Below B w w')
  (HC : ∀ (w : World) (ao : Option Addr) (m c : Nat), m ≤ c → (ao = none → m = 0) → Calls Tryz.prog 97 #[.slice ao m c] w fun xe w' => ∃ c', xe = .returned (.slice ao m c') ∧ w' = w)
  (w : World) (hq : 0 < n → ∃ g, ao = some ⟨g, 0, none⟩ ∧ TS w g l) :
  Calls Tryz.prog 49 #[.slice ao n c] w fun xe w' => ∃ v, xe = .returned v ∧ PT w' v (ofL (nfL (toL l))) ∧ Below w.heap.size w w' := by
 replace HA := Lib.hid HA
 replace HI := Lib.hid HI
 replace HS := Lib.hid HS
 replace HC := Lib.hid HC
 replace hq := Lib.hid hq
 replace hlen := Lib.hid hlen
 replace hv := Lib.hid hv
 replace hz0 := Lib.hid hz0
 obtain ⟨i0, hi, hz1, hz2, hz3⟩ := info_parts infoT
 replace hi := Lib.hid hi
 replace hz1 := Lib.hid hz1
 replace hz2 := Lib.hid hz2
 replace hz3 := Lib.hid hz3
 obtain ⟨P, hP⟩ : ∃ P, P = toL l := ⟨_, rfl⟩
 rw [← hP]
 replace hP := Lib.hid hP
 have hM0 := World.ownsMap_made w Tryz.prog 148 frR
 have hB0 : Below w.heap.size w (w.alloc (.map #[] 0)) := (Below.refl _ _).alloc (Nat.le_refl _) _
 have hMlt : w.heap.size < (w.alloc (.map #[] 0)).heap.size := by rw [World.size_alloc]; omega
 have hmm := @run_makeMap Tryz.prog
 generalize hweq : w.alloc (.map #[] 0) = x1 at hM0 hB0 hMlt
 replace hM0 := Lib.hid hM0
 go_enter Tryz.func49, Tryz.ntmps49
 go_wp2_with fail
 clear hmm hweq
 go_loopw [13] (fun z wr => ∃ (i : Nat) (zi : Int) (D : DataW Unit), i ≤ n ∧ z = .int .i64 zi ∧ zi = (i : Int) ∧ MRep D (toL (l.take i)) ∧ wr.ownsMap Tryz.prog 148 frR w.heap.size i D ∧ w.heap.size < wr.heap.size ∧ Below w.heap.size w wr) (fun z _ => n - (intOf z).toNat)
 case atStart => exact ⟨0, _, _, Nat.zero_le _, rfl, rfl, MRep.start, hM0.out, hMlt, hB0⟩
 case round =>
  clear hM0 hB0 hMlt
  obtain ⟨i, zi, D, hi1, rfl, hzi, hR, hown, hMlt, hB⟩ := hrel
  replace hR := Lib.hid hR
  replace hown := Lib.hid hown
  replace hMlt := Lib.hid hMlt
  rcases Nat.lt_or_ge i n with hin | hin
  ·subst hzi
   have hil : i < l.length := by rw [hlen.out]; exact hin
   obtain ⟨g, rfl, hts⟩ := hq.out (by omega)
   have hf := (hts.below hB).cell i hil
   have k1 : (i : Int) < (n : Int) := by omega
   have k0 : (0 : Int) ≤ (i : Int) := Int.natCast_nonneg _
   obtain ⟨a, b, q, hab, hl⟩ := vd_form (hv.out _ (List.getElem_mem hil))
   have hA1 := HA.out i hil
   rw [hl] at hf hA1
   simp only [Int.toNat_natCast] at hA1
   have htk := Lib.hid (toL_take_succ hil hl)
   obtain ⟨q0, hq0⟩ : ∃ q0, q0 = pair (toL (l.take i)) (ind (a, b)) := ⟨_, rfl⟩
   rw [← hq0] at hA1
   replace hq0 := Lib.hid hq0
   replace hA1 := Lib.hid hA1
   replace hl := Lib.hid hl
   replace hab := Lib.hid hab
   clear hts
   obtain ⟨f0, f1, f2, f3, f4, f5, f6⟩ := hf
   have hL0 : GL wr wr [] := GL.start wr
   replace hL0 := hL0.new rfl [.int .i64 (a : Int), .int .i64 (b : Int), .int .u64 ((zl q.num : Nat) : Int), .string (zh q.num), .bool (zs q.num), .int .u64 ((lo (fe q) : Nat) : Int), .string (hs (fe q))] 84
   generalize hweq : wr.alloc (.cells #[.int .i64 (a : Int), .int .i64 (b : Int), .int .u64 ((zl q.num : Nat) : Int), .string (zh q.num), .bool (zs q.num), .int .u64 ((lo (fe q) : Nat) : Int), .string (hs (fe q))] 84) = y1 at hL0
   have hN0 := cells_of _ 0 [] rfl (hL0.get _ _ mZ)
   simp only [zF, Nat.reduceAdd] at hN0
   replace hL0 := hL0.new rfl [.int .i64 (a : Int), .int .i64 (b : Int)] 148
   generalize hweq2 : y1.alloc (.cells #[.int .i64 (a : Int), .int .i64 (b : Int)] 148) = y2 at hL0
   go_upto_region 6 with fail
   clear hN0 hweq hweq2 f0 f1 f2 f3 f4 f5 f6
   have hB2 := hB.trans (hL0.bl.mono hB.size)
   have hown2 : ∀ W, Below y2.heap.size y2 W → W.ownsMap Tryz.prog 148 frR w.heap.size i D := fun W hW => mp_below (mp_below hown.out hL0.bl hMlt.out) hW (Nat.lt_of_lt_of_le hMlt.out hL0.bl.size)
   obtain ⟨α, iα, F, hF1, hF2⟩ := cls y2
   have hlk : ∀ x, (Instr.lookup 146 (.map (some w.heap.size)) (kyV (a : Nat) (b : Nat)) false).run Tryz.prog (F x) = .ok (fracV q0) (F x) := fun x => by rw [hq0.out]; exact mp_look (hown2 _ (hF1 x)) hR.out hab.out
   have hg0 := cls_box hF1 hL0 _ _ mZ
   simp only [zC, Nat.reduceAdd] at hg0
   have hg1 := cls_box hF1 hL0 _ _ (mK mZ)
   simp only [zC, Nat.reduceAdd] at hg1
   refine region_qs 8 (C := fun w' => ∃ x, w' = F x) (by kernel_rfl) (by kernel_rfl) (cls_drew hF2) ?_
   simp only [zT]
   repeat (go_big_quiet_step (first | fail | (go_at_call 29; with_reducible exact cls_call hF1 hF2 hA1.out _)))
   refine wpQuiet_nil ?_
   rintro wq ⟨xq, rfl⟩
   have hB3 := hB2.trans ((hF1 xq).mono (Nat.le_trans (Nat.le_of_lt hMlt.out) hL0.bl.size))
   have hown3 := hown2 _ (hF1 xq)
   have hM3 := Nat.lt_of_lt_of_le (Nat.lt_of_lt_of_le hMlt.out hL0.bl.size) (hF1 xq).size
   clear hg0 hg1 hlk hF2 hown2
   generalize F xq = y3 at hB3 hown3 hM3 ⊢
   clear hF1 xq iα F α hL0 hB2 hB hMlt hown
   go_wp2_with (at_mapUpdate; refine wpList_mapUpdate_own _ rfl _ _ _ 146 rfl 148 47 law8 Tryz.underlying146 frR _ i D rfl hown3 (by unfold maxLen; omega) _ _ (klT a b) rfl rfl (key8 (by have := hab.out; omega) (by have := hab.out; omega)) (dq (q0 + q)) [] (frR_mk _) ?_)
   intro w1 hown1 hgrow1
   have hB4 := hB3.grown hgrow1 (Nat.le_of_lt hM3) (fun j hj => by cases hj; exact Nat.le_refl _)
   have hM4 := Nat.lt_of_lt_of_le hM3 hgrow1.size
   have hR4 : MRep (D.put (klT a b) (dq (q0 + q))) (toL (l.take (i + 1))) := by rw [htk.out, hq0.out]; exact hR.out.step hab.out
   replace hown1 := Lib.hid hown1
   replace hR4 := Lib.hid hR4
   replace hM4 := Lib.hid hM4
   replace hB4 := Lib.hid hB4
   clear hown3 hgrow1 hB3 hM3 hR
   go_wp2_with fail
   go_roundw
   case rel => exact ⟨i + 1, _, _, by omega, by first | rfl | go_num, by omega, hR4.out, hown1.out, hM4.out, hB4.out⟩
   case measure => simp [intOf] <;> omega
  ·obtain rfl : i = n := by omega
   subst hzi
   have k1 : ¬ (i : Int) < (i : Int) := by omega
   have hRn : MRep D P := by
    have := hR.out
    rw [List.take_of_length_le (Nat.le_of_eq hlen.out)] at this
    rw [hP.out]; exact this
   have htb : TB P 12 := by rw [hP.out]; exact tb_toL hv.out
   replace hRn := Lib.hid hRn
   replace htb := Lib.hid htb
   clear hR hP hi1 hin HA hv hlen hq
   have hg0 : True := trivial
   go_wp2_with (at_range; refine wpList_range_own _ rfl _ 146 rfl 148 47 law8 Tryz.underlying146 frR _ i D rfl hown.out ?_; intro w0 hrg0 hgr0 hs0)
   try go_frame
   have hB1 := hB.grown hgr0 (Nat.le_of_lt hMlt.out) (fun j hj => by cases hj)
   obtain ⟨r, hr⟩ : ∃ r, r = wr.heap.size := ⟨_, rfl⟩
   rw [← hr] at hrg0 hs0
   have hMr : w.heap.size < r := by rw [hr]; exact hMlt.out
   rw [show (⟨wr.heap.size, 0, none⟩ : Addr) = ⟨r, 0, none⟩ by rw [hr]]
   clear hgr0 hown hMlt hr hB k1
   replace hMr := Lib.hid hMr
   go_loopw [7] (fun v wr => ∃ (left : Lit → Bool) (cnt : Nat) (q : TL) (m : Nat), m = q.length ∧ Coll D P left q ∧ wr.ranges Tryz.prog 148 frR w.heap.size r i D left cnt ∧ OwnT wr (r + 1) v m (ofL q) ∧ r + 1 ≤ wr.heap.size ∧ Below w.heap.size w wr) (fun _ wr => wr.rangeLeft w.heap.size r)
   case atStart => exact ⟨_, _, [], 0, rfl, Coll.start D P, hrg0, World.ownsRow_nil _ _ _ _, Nat.le_of_eq hs0.symm, hB1⟩
   case round =>
    clear hrg0 hs0 hB1
    obtain ⟨left, cnt, q, m, hm, hC, hrg, hown, hEw, hB⟩ := hrel
    replace hC := Lib.hid hC
    replace hown := Lib.hid hown
    replace hEw := Lib.hid hEw
    replace hm := Lib.hid hm
    go_wp2_with (at_next; refine wp_next_terms _ rfl _ rfl 148 law8 w.heap.size r _ D left cnt rfl hrg (key_shape hRn.out hC.out) ?_ ?_)
    ·intro hl0
     replace hl0 := Lib.hid hl0
     obtain ⟨vo, vc, rfl, hnc, hn0, hob⟩ := ownT_form hown.out
     replace hnc := Lib.hid hnc
     replace hn0 := Lib.hid hn0
     have htq : TB q 12 := fun t ht => (hC.out.mem t ht).2.2.2
     have hS1 := Lib.hid (HS.out wr (r + 1) vo m vc q hm.out htq hC.out.len hown.out)
     clear htq
     go_wp2_with (first | fail | (go_at_call 96; with_reducible refine Calls.mono hS1.out ?_; rintro e w2 ⟨rfl, hsx, hb2⟩; replace hsx := Lib.hid hsx; replace hb2 := Lib.hid hb2) | (go_at_call 97; with_reducible refine Calls.mono (HC.out _ vo m vc hnc.out hn0.out) ?_; rintro e w3 ⟨c3, rfl, rfl⟩))
     obtain ⟨s, hs1, hs2, hs3⟩ := hsx.out
     have hsn := hC.out.done hRn.out htb.out hl0.out hs1 hs2
     have hlen2 : m = (ofL s).length := by rw [hm.out, show (ofL s).length = s.length from List.length_map _, hs1.length_eq]
     have hpt := pt_parts hs3
     go_ret
     refine ⟨_, rfl, ?_, hB.trans (hb2.out.mono (by have := hMr.out; omega))⟩
     rw [← hsn]
     exact pt_mk hpt.1 hpt.2
    ·intro x y cc w1 cnt1 hxy hlk hat hrg1 hlt hg1 hs1 hen
     have hcoef : dq cc = dq (pair P (ind (x, y))) := (hat (dq 0)).symm.trans (hRn.out.at_ x y hxy)
     replace hcoef := Lib.hid (dq_inj hcoef)
     have hown1 := ownT_kept hown.out hg1 (fun g hg => by cases hg; exact Nat.lt_succ_self _)
     have hB1 := hB.grown hg1 (by have := hMr.out; have := hEw.out; omega) (fun j hj => by cases hj; exact Nat.le_of_lt hMr.out)
     have hE1 : r + 1 ≤ w1.heap.size := Nat.le_trans hEw.out hg1.size
     have hmeas := Lib.hid (show w1.rangeLeft w.heap.size r < wr.rangeLeft w.heap.size r by rw [hrg1.left_eq, hrg.left_eq]; exact hlt)
     clear hat hrg hlt hg1 hs1 hown hEw hB
     replace hxy := Lib.hid hxy
     replace hlk := Lib.hid hlk
     replace hrg1 := Lib.hid hrg1
     replace hown1 := Lib.hid hown1
     replace hE1 := Lib.hid hE1
     have hL0 : GL w1 w1 [] := GL.start w1
     replace hL0 := (hL0.new rfl [.int .i64 (x : Int), .int .i64 (y : Int)] 148).new (K := w1.heap.size + 1) (szA _ _) [.int .u64 ((zl cc.num : Nat) : Int), .string (zh cc.num), .bool (zs cc.num), .int .u64 ((lo (fe cc) : Nat) : Int), .string (hs (fe cc))] 47
     generalize hweq : (w1.alloc (.cells #[.int .i64 (x : Int), .int .i64 (y : Int)] 148)).alloc (.cells #[.int .u64 ((zl cc.num : Nat) : Int), .string (zh cc.num), .bool (zs cc.num), .int .u64 ((lo (fe cc) : Nat) : Int), .string (hs (fe cc))] 47) = y2 at hL0
     go_upto_region 12 with fail
     clear hweq hen
     obtain ⟨t, ht⟩ : ∃ t, t = decide (cc = z0) := ⟨_, rfl⟩
     have hne := fun W => run_neqF cc z0 t ht W
     obtain ⟨α, iα, F, hF1, hF2⟩ := cls y2
     have hg0 := cls_box hF1 hL0 _ _ mZ
     simp only [zC, Nat.reduceAdd] at hg0
     replace ht := Lib.hid ht
     refine region_cls (F := F) (by kernel_rfl) (lexB_of_fast (by kernel_rfl)) (cls_drew hF2) ?_
     repeat (go_big_quiet_step (first | fail | (go_at_call 35; with_reducible exact cls_call hF1 hF2 HI.out _)))
     refine wpQuiet_nil ?_
     rintro wq ⟨xq, rfl⟩
     replace hL0 := hL0.call (hF1 xq)
     clear hg0 hF2 hne
     generalize F xq = y3 at hL0 ⊢
     clear hF1 xq iα F α
     have hb3 := hL0.bl
     have hrg3 := rg_below hrg1.out hb3 (by have := hMr.out; have := hE1.out; omega) (by have := hE1.out; omega)
     have hown3 := ownT_below hown1.out hb3
     have hE3 : r + 1 ≤ y3.heap.size := Nat.le_trans hE1.out hb3.size
     have hB3 := hB1.trans (hb3.mono hB1.size)
     cases t with
     | true =>
      have h0 : pair P (ind (x, y)) = 0 := by rw [← hcoef.out]; have := of_decide_eq_true ht.out.symm; rw [this, hz0.out]
      have hC3 := hC.out.skip hxy.out h0
      have hms : y3.rangeLeft w.heap.size r < wr.rangeLeft w.heap.size r := by rw [hrg3.left_eq, ← hrg1.out.left_eq]; exact hmeas.out
      replace hC3 := Lib.hid hC3
      replace hrg3 := Lib.hid hrg3
      replace hown3 := Lib.hid hown3
      replace hE3 := Lib.hid hE3
      replace hms := Lib.hid hms
      clear hL0 hb3
      go_wp2_with fail
      go_roundw
      case rel => exact ⟨_, _, q, m, hm.out, hC3.out, hrg3.out, hown3.out, hE3.out, hB3⟩
      case measure => exact hms.out
     | false =>
      have h0 : cc ≠ 0 := by have := of_decide_eq_false ht.out.symm; rw [hz0.out] at this; exact this
      have hC3 := hC.out.take hxy.out hlk.out hcoef.out h0
      have hml := hC3.len
      rw [List.length_append, ← hm.out] at hml
      have hml2 : m + 1 ≤ 169 := hml
      replace hC3 := Lib.hid hC3
      clear hml
      have hN0 := cells_of _ 0 [] rfl (hL0.get _ _ mZ)
      simp only [zF, Nat.reduceAdd] at hN0
      have hN1 := cells_of _ 0 [] rfl (hL0.get _ _ (mK mZ))
      simp only [zF, Nat.reduceAdd] at hN1
      have hL1 : GL y3 y3 [] := GL.start y3
      replace hL1 := hL1.new rfl [.int .i64 (x : Int), .int .i64 (y : Int), .int .u64 ((zl cc.num : Nat) : Int), .string (zh cc.num), .bool (zs cc.num), .int .u64 ((lo (fe cc) : Nat) : Int), .string (hs (fe cc))] 84
      generalize hweq : y3.alloc (.cells #[.int .i64 (x : Int), .int .i64 (y : Int), .int .u64 ((zl cc.num : Nat) : Int), .string (zh cc.num), .bool (zs cc.num), .int .u64 ((lo (fe cc) : Nat) : Int), .string (hs (fe cc))] 84) = y4 at hL1
      have hrg4 := Lib.hid (rg_below hrg3 hL1.bl (by have := hMr.out; omega) (by omega))
      have hown4 := Lib.hid (ownT_below hown3 hL1.bl)
      have hE4 := Lib.hid (show r + 1 ≤ y4.heap.size from Nat.le_trans hE3 hL1.bl.size)
      have hB4 := Lib.hid (hB3.trans (hL1.bl.mono hB3.size))
      have hms := Lib.hid (show y4.rangeLeft w.heap.size r < wr.rangeLeft w.heap.size r by rw [hrg4.out.left_eq, ← hrg1.out.left_eq]; exact hmeas.out)
      have hnw := Lib.hid (hd_newsH (hL1.get _ _ mZ))
      have hone := Lib.hid (show ∀ u ∈ ([.int .i64 (x : Int), .int .i64 (y : Int), .int .u64 ((zl cc.num : Nat) : Int), .string (zh cc.num), .bool (zs cc.num), .int .u64 ((lo (fe cc) : Nat) : Int), .string (hs (fe cc))] : List Value), u.oneCell' = true from tmC_one ((x : Int), (y : Int), cc))
      clear hrg3 hown3 hE3 hB3 hL0 hb3
      go_wp2_with (at_builtin; refine wpList_append_own _ rfl _ _ 25 rfl (r + 1) 84 i0 (.agg #[.int .i64 0, .int .i64 0, .int .u64 0, .string ⟨#[]⟩, .bool false, .int .u64 0, .string ⟨#[]⟩]) 7 72 Tryz.underlying25 hi.out hz1.out hz2.out hz3.out rfl (by decide) _ _ _ rfl hown4.out ⟨y3.heap.size, 0, none⟩ 1 1 [.int .i64 (x : Int), .int .i64 (y : Int), .int .u64 ((zl cc.num : Nat) : Int), .string (zh cc.num), .bool (zs cc.num), .int .u64 ((lo (fe cc) : Nat) : Int), .string (hs (fe cc))] rfl rfl hnw.out hone.out (by unfold maxLen; omega) (by omega) hE4.out ?_)
      intro v' w5 hown' hgrow _
      have hown5 : OwnT w5 (r + 1) v' (m + 1) (ofL (q ++ [(x, y, cc)])) := by
       unfold OwnT
       rw [show ofL (q ++ [(x, y, cc)]) = ofL q ++ [((x : Int), (y : Int), cc)] by simp [ofL, ofT], tmCs_snoc]; exact hown'
      have hrow : ∀ j, Value.ownBlock _ = some j → r + 1 ≤ j := fun j hj => (hown4.out.lt j hj).1
      have hrg5 := hrg4.out.kept hgrow (fun e => by have := hrow _ e.symm; have := hMr.out; omega) (fun e => by have := hrow _ e.symm; omega)
      have hms5 : w5.rangeLeft w.heap.size r < wr.rangeLeft w.heap.size r := by rw [hrg5.left_eq, ← hrg4.out.left_eq]; exact hms.out
      have hB5 := hB4.out.grown hgrow (by have := hE4.out; have := hMr.out; omega) (fun j hj => by have := hrow j hj; have := hMr.out; omega)
      have hE5 : r + 1 ≤ w5.heap.size := Nat.le_trans hE4.out hgrow.size
      clear hown' hrow hgrow hown4 hE4 hnw hone hweq hN0 hN1 hrg4 hB4 hms
      replace hown5 := Lib.hid hown5
      replace hE5 := Lib.hid hE5
      replace hrg5 := Lib.hid hrg5
      replace hB5 := Lib.hid hB5
      replace hms5 := Lib.hid hms5
      go_wp2_with fail
      go_roundw
      case rel => exact ⟨_, _, q ++ [(x, y, cc)], m + 1, by rw [List.length_append, ← hm.out]; rfl, hC3.out, hrg5.out, hown5.out, hE5.out, hB5.out⟩
      case measure => exact hms5.out
end Go.Proofs.YtkpghlnegbimdaaGreatDoor
namespace Go.Proofs.YtkpghlnegbimdaaGreatDoor
open Go.RowKit
attribute [local irreducible] lo hs sm s64 c64 d64 b64 mh ml pd pc qd qc val hiB str cmpI srD lz nb zl zh zs fe klT
/-- Grown: nothing below has turned, no draw is lost. -/
def BD (w w' : World) : Prop := Below w.heap.size w w' ∧ w.drawn ≤ w'.drawn
theorem BD.trans {a b c : World} (h : BD a b) (g : BD b c) : BD a c := ⟨h.1.trans (g.1.mono h.1.size), Nat.le_trans h.2 g.2⟩
theorem bd_grow {w w' : World} (h : BD w w') : ∃ q os, w' = Go.Sort.grow (w.drewN q) os := by
 obtain ⟨hb, hd⟩ := h
 refine ⟨w'.drawn - w.drawn, w'.heap.extract w.heap.size w'.heap.size, ?_⟩
 have hh : w'.heap = w.heap ++ w'.heap.extract w.heap.size w'.heap.size := by
  have h1 : w.heap = w'.heap.extract 0 w.heap.size := by
   apply Array.ext_getElem?
   intro k
   have hs := hb.size
   rcases Nat.lt_or_ge k w.heap.size with hk | hk
   ·rw [← hb.block k hk, Array.getElem?_extract]
    rw [if_pos (by omega)]; simp
   ·rw [Array.getElem?_eq_none (by omega), Array.getElem?_eq_none (by simp; omega)]
  conv => rhs; lhs; rw [h1]
  rw [Array.extract_append_extract]
  have hs := hb.size
  rw [show min 0 w.heap.size = 0 by omega, show max w.heap.size w'.heap.size = w'.heap.size by omega, Array.extract_size]
 obtain ⟨heap, tape, drawn, os, output⟩ := w'
 obtain ⟨heap2, tape2, drawn2, os2, output2⟩ := w
 have h1 := hb.os
 have h2 := hb.tape
 have h3 := hb.output
 simp only at h1 h2 h3 hd hh
 subst h1 h2 h3
 unfold Go.Sort.grow World.drewN
 simp only [World.mk.injEq, and_true, true_and]
 exact ⟨hh, by omega⟩
theorem clsD (w0 : World) : ∃ (α : Type) (_ : Nonempty α) (F : α → World), (∀ x, BD w0 (F x)) ∧ (∀ W, BD w0 W → ∃ x, W = F x) :=
 ⟨{W : World // BD w0 W}, ⟨⟨w0, Below.refl _ _, Nat.le_refl _⟩⟩, fun x => x.1, fun x => x.2, fun W h => ⟨⟨W, h⟩, rfl⟩⟩
theorem clsD_drew {α : Type} {F : α → World} {w0 : World} (h2 : ∀ W, BD w0 W → ∃ x, W = F x) : ∃ x, w0.drew = F x := h2 _ ⟨(Below.refl _ _).drew, Nat.le_succ _⟩
theorem cls_same {α : Type} {F : α → World} {P : Program} {f : FuncId} {args : Array Value} {v : Value}
  (h : ∀ w, Calls P f args w fun e w' => e = .returned v ∧ w' = w) (x : α) : Calls P f args (F x) fun e w'' => e = .returned v ∧ ∃ y, w'' = F y :=
 (h (F x)).mono fun _ _ ⟨he, hw⟩ => ⟨he, x, hw⟩
theorem or_w (x y r : Int) (hr : r = if x = 0 then y else x) (g : Nat) (w : World) (c0 : w.cell? ⟨g, 0, none⟩ = some (.int .i64 x)) (c1 : w.cell? ⟨g, 1, none⟩ = some (.int .i64 y)) :
  Calls Tryz.prog 109 #[.slice (some ⟨g, 0, none⟩) 2 2] w fun e w' => e = .returned (.int .i64 r) ∧ w' = w := by
 replace hr := Lib.hid hr
 go_enter Tryz.func109, Tryz.ntmps109
 go_wp2_with fail
 go_loopg [8] 2 (fun gk iv wr => ∃ (i : Nat) (zi : Int), i + gk = 2 ∧ iv = .int .i64 zi ∧ zi = (i : Int) ∧ wr = w ∧ (1 ≤ i → x = 0) ∧ (2 ≤ i → y = 0))
 case atStart => exact ⟨0, 0, rfl, by first | rfl | go_num, rfl, rfl, fun h => absurd h (by omega), fun h => absurd h (by omega)⟩
 case round =>
  obtain ⟨i, zi, hik, rfl, hzi, rfl, h1, h2⟩ := hrel
  replace h1 := Lib.hid h1
  replace h2 := Lib.hid h2
  obtain rfl | rfl | rfl : i = 0 ∨ i = 1 ∨ i = 2 := by omega
  ·have hz : zi = 0 := by omega
   clear hzi
   subst hz
   by_cases hx : x = 0
   ·have b1 : (x != 0) = false := by rw [hx]; rfl
    replace hx := Lib.hid hx
    go_wp2_with fail
    go_roundg 1
    case measure => omega
    case rel => exact ⟨1, 1, by omega, by first | rfl | go_num, rfl, rfl, fun _ => hx.out, fun h => absurd h (by omega)⟩
   ·have b1 : (x != 0) = true := by simpa using hx
    have hrx : r = x := by rw [hr.out, if_neg hx]
    replace hx := Lib.hid hx
    replace hrx := Lib.hid hrx
    go_wp2_with fail
    go_ret
    exact ⟨by rw [hrx.out]; rfl, rfl⟩
  ·have hz : zi = 1 := by omega
   clear hzi
   subst hz
   have hx := Lib.hid (h1.out (Nat.le_refl _))
   by_cases hy : y = 0
   ·have b1 : (y != 0) = false := by rw [hy]; rfl
    replace hy := Lib.hid hy
    go_wp2_with fail
    go_roundg 0
    case measure => omega
    case rel => exact ⟨2, 2, by omega, by first | rfl | go_num, rfl, rfl, fun _ => hx.out, fun _ => hy.out⟩
   ·have b1 : (y != 0) = true := by simpa using hy
    have hrx : r = y := by rw [hr.out, if_pos hx.out]
    replace hy := Lib.hid hy
    replace hrx := Lib.hid hrx
    go_wp2_with fail
    go_ret
    exact ⟨by rw [hrx.out]; rfl, rfl⟩
  ·have hz : zi = 2 := by omega
   clear hzi
   subst hz
   have hrx : r = 0 := by rw [hr.out, if_pos (h1.out (by omega)), h2.out (Nat.le_refl _)]
   replace hrx := Lib.hid hrx
   go_wp2_with fail
   go_ret
   exact ⟨by rw [hrx.out]; rfl, rfl⟩
theorem porder_w (a b a2 b2 sa sb c1 c2 r : Int) (q q2 : Rat) (ha : IntKind.i64.wrap (a + b) = sa) (ha2 : wrap64 (a + b) = sa) (hb : IntKind.i64.wrap (a2 + b2) = sb) (hb2 : wrap64 (a2 + b2) = sb)
  (H1 : ∀ w, Calls Tryz.prog 110 #[.int .i64 sa, .int .i64 sb] w fun e w' => e = .returned (.int .i64 c1) ∧ w' = w)
  (H2 : ∀ w, Calls Tryz.prog 110 #[.int .i64 b, .int .i64 b2] w fun e w' => e = .returned (.int .i64 c2) ∧ w' = w)
  (HO : ∀ (g : Nat) (w : World), w.cell? ⟨g, 0, none⟩ = some (.int .i64 c1) → w.cell? ⟨g, 1, none⟩ = some (.int .i64 c2) → Calls Tryz.prog 109 #[.slice (some ⟨g, 0, none⟩) 2 2] w fun e w' => e = .returned (.int .i64 r) ∧ w' = w) (w : World) :
  Calls Tryz.prog 64 #[tmV a b q, tmV a2 b2 q2] w fun e w' => e = .returned (.int .i64 r) ∧ BD w w' := by
 replace H1 := Lib.hid H1
 replace H2 := Lib.hid H2
 replace HO := Lib.hid HO
 have hL0 : GL w w [] := GL.start w
 obtain ⟨x1, hweq, hL0⟩ := GL.named (hL0.new rfl [.int .i64 a, .int .i64 b, .int .u64 ((zl q.num : Nat) : Int), .string (zh q.num), .bool (zs q.num), .int .u64 ((lo (fe q) : Nat) : Int), .string (hs (fe q))] 84)
 have hd1 : w.drawn ≤ x1.drawn := by rw [← hweq]; exact Nat.le_refl _
 replace hL0 := hL0.new rfl [.int .i64 a2, .int .i64 b2, .int .u64 ((zl q2.num : Nat) : Int), .string (zh q2.num), .bool (zs q2.num), .int .u64 ((lo (fe q2) : Nat) : Int), .string (hs (fe q2))] 84
 generalize hweq2 : x1.alloc (.cells #[.int .i64 a2, .int .i64 b2, .int .u64 ((zl q2.num : Nat) : Int), .string (zh q2.num), .bool (zs q2.num), .int .u64 ((lo (fe q2) : Nat) : Int), .string (hs (fe q2))] 84) = x2 at hL0
 have hd2 : w.drawn ≤ x2.drawn := by rw [← hweq2]; exact hd1
 go_enter Tryz.func64, Tryz.ntmps64
 go_upto_region 1 with fail
 clear hweq hweq2 hd1
 obtain ⟨α, iα, F, hF1, hF2⟩ := clsD x2
 have hg0 := cls_box (fun x => (hF1 x).1) hL0 _ _ mZ
 simp only [zC, Nat.reduceAdd] at hg0
 have hg1 := cls_box (fun x => (hF1 x).1) hL0 _ _ (mK mZ)
 simp only [zC, Nat.reduceAdd] at hg1
 refine region_qs 16 (C := fun w' => ∃ x, w' = F x) (by kernel_rfl) (by kernel_rfl) (clsD_drew hF2) ?_
 simp only [zT]
 repeat (go_big_quiet_step (first | fail | (go_at_call 110; first | (with_reducible exact cls_same H1.out _) | (with_reducible exact cls_same H2.out _))))
 refine wpQuiet_nil ?_
 rintro wq ⟨xq, rfl⟩
 replace hL0 := hL0.call (hF1 xq).1
 have hd3 := Nat.le_trans hd2 (hF1 xq).2
 clear hg0 hg1 hF2 hd2
 generalize F xq = x3 at hL0 hd3 ⊢
 clear hF1 xq iα F α
 obtain ⟨x4, hweq, hL0⟩ := GL.named (hL0.new rfl [.int .i64 c1, .int .i64 c2] 3)
 have hd4 : w.drawn ≤ x4.drawn := by rw [← hweq]; exact hd3
 have hN0 := cells_of _ 0 [] rfl (hL0.get _ _ mZ)
 simp only [zF, Nat.reduceAdd] at hN0
 have hcall := HO.out x3.heap.size x4 hN0.1 hN0.2
 clear hN0
 go_wp2_with (go_at_call 109; with_reducible refine Calls.mono hcall ?_; rintro e x5 ⟨rfl, rfl⟩)
 go_ret
 exact ⟨rfl, hL0.bl, hd4⟩
theorem run_clip (ao : Option Addr) (m c : Nat) (h : m ≤ c) (h0 : ao = none → m = 0) : ∃ c', ∀ W : World, (Instr.slice 25 (.slice ao m c) none (some (.int .i64 (m : Int))) (some (.int .i64 (m : Int)))).run Tryz.prog W = .ok (.slice ao m c') W := by
 have h1 : (m : Int) ≤ (c : Int) := by omega
 cases ao with
 | none =>
  obtain rfl := h0 rfl
  exact ⟨0, fun W => by simp [Instr.slice, Instr.sliceBounds, run_underlying Tryz.underlying25, run_sliceBound, go_sem] <;> rfl⟩
 | some a =>
  refine ⟨m, fun W => ?_⟩
  simp [Instr.slice, Instr.sliceBounds, run_underlying Tryz.underlying25, run_sliceBound, h1, go_sem] <;> rfl
theorem clip_w (w : World) (ao : Option Addr) (m c : Nat) (h : m ≤ c) (h0 : ao = none → m = 0) : Calls Tryz.prog 97 #[.slice ao m c] w fun xe w' => ∃ c', xe = .returned (.slice ao m c') ∧ w' = w := by
 obtain ⟨c', hs⟩ := run_clip ao m c h h0
 clear h h0
 go_enter Tryz.func97, Tryz.ntmps97
 go_wp2_with fail
 go_ret
 exact ⟨c', rfl, rfl⟩
end Go.Proofs.YtkpghlnegbimdaaGreatDoor
namespace Go.Proofs
open Go.Shelf
def Tryz.sortT_ren : Go.Shelf.Ren := ⟨fun | 14 => 130 | 20 => 160 | 21 => 161 | 22 => 162 | 23 => 163 | 24 => 164 | 25 => 165 | 26 => 166 | 27 => 167 | 46 => 196 | 47 => 197 | 48 => 198 | 49 => 199 | 50 => 200 | 15 => 131 | 57 => 215 | 28 => 168 | 29 => 169 | n => n, fun | 24 => 84 | 22 => 24 | 3 => 3 | 25 => 115 | 4 => 4 | 0 => 0 | 46 => 213 | 45 => 212 | 50 => 217 | 66 => 244 | 39 => 164 | 55 => 41 | 70 => 248 | 76 => 262 | 77 => 263 | 53 => 57 | 5 => 5 | 9 => 9 | n => n, fun | n => n⟩
theorem Tryz.sortT : Go.Proofs.SlLaysF0.n14 Tryz.prog Tryz.sortT_ren := {
 mixed := by kernel_rfl
 f14 := ⟨Tryz.f130.name, by decide, Tryz.func130.trans (congrArg some (by kernel_rfl))⟩
 f15 := Tryz.func131.trans (congrArg some (by kernel_rfl))
 f20 := ⟨Tryz.f160.name, by decide, Tryz.func160.trans (congrArg some (by kernel_rfl))⟩
 f21 := ⟨Tryz.f161.name, by decide, Tryz.func161.trans (congrArg some (by kernel_rfl))⟩
 f22 := ⟨Tryz.f162.name, by decide, Tryz.func162.trans (congrArg some (by kernel_rfl))⟩
 f23 := ⟨Tryz.f163.name, by decide, Tryz.func163.trans (congrArg some (by kernel_rfl))⟩
 f24 := ⟨Tryz.f164.name, by decide, Tryz.func164.trans (congrArg some (by kernel_rfl))⟩
 f25 := ⟨Tryz.f165.name, by decide, Tryz.func165.trans (congrArg some (by kernel_rfl))⟩
 f26 := ⟨Tryz.f166.name, by decide, Tryz.func166.trans (congrArg some (by kernel_rfl))⟩
 f27 := ⟨Tryz.f167.name, by decide, Tryz.func167.trans (congrArg some (by kernel_rfl))⟩
 f28 := Tryz.func168.trans (congrArg some (by kernel_rfl))
 f29 := Tryz.func169.trans (congrArg some (by kernel_rfl))
 f46 := ⟨Tryz.f196.name, by decide, Tryz.func196.trans (congrArg some (by kernel_rfl))⟩
 f47 := Tryz.func197.trans (congrArg some (by kernel_rfl))
 f48 := Tryz.func198.trans (congrArg some (by kernel_rfl))
 f49 := ⟨Tryz.f199.name, by decide, Tryz.func199.trans (congrArg some (by kernel_rfl))⟩
 f50 := ⟨Tryz.f200.name, by decide, Tryz.func200.trans (congrArg some (by kernel_rfl))⟩
 f57 := ⟨Tryz.f215.name, by decide, Tryz.func215.trans (congrArg some (by kernel_rfl))⟩
 t0 := Tryz.underlying0
 a0 := Tryz.isAgg0
 z0 := Tryz.sizeOf0
 v0 := Tryz.zeroValue0
 t3 := Tryz.underlying3
 a3 := Tryz.isAgg3
 z3 := Tryz.sizeOf3
 v3 := Tryz.zeroValue3
 t4 := Tryz.underlying4
 a4 := Tryz.isAgg4
 z4 := Tryz.sizeOf4
 v4 := Tryz.zeroValue4
 t5 := Tryz.underlying5
 a5 := Tryz.isAgg5
 z5 := Tryz.sizeOf5
 v5 := Tryz.zeroValue5
 t9 := Tryz.underlying9
 a9 := Tryz.isAgg9
 z9 := Tryz.sizeOf9
 v9 := Tryz.zeroValue9
 t22 := Tryz.underlying24
 a22 := Tryz.isAgg24
 z22 := Tryz.sizeOf24
 v22 := Tryz.zeroValue24
 t25 := Tryz.underlying115
 a25 := Tryz.isAgg115
 z25 := Tryz.sizeOf115
 v25 := Tryz.zeroValue115
 t39 := Tryz.underlying164
 a39 := Tryz.isAgg164
 z39 := Tryz.sizeOf164
 v39 := Tryz.zeroValue164
 t45 := Tryz.underlying212
 a45 := Tryz.isAgg212
 z45 := Tryz.sizeOf212
 v45 := Tryz.zeroValue212
 t46 := Tryz.underlying213
 a46 := Tryz.isAgg213
 z46 := Tryz.sizeOf213
 v46 := Tryz.zeroValue213
 t50 := Tryz.underlying217
 a50 := Tryz.isAgg217
 z50 := Tryz.sizeOf217
 v50 := Tryz.zeroValue217
 t53 := Tryz.underlying57
 a53 := Tryz.isAgg57
 z53 := Tryz.sizeOf57
 v53 := Tryz.zeroValue57
 t55 := Tryz.underlying41
 a55 := Tryz.isAgg41
 z55 := Tryz.sizeOf41
 v55 := Tryz.zeroValue41
 t66 := Tryz.underlying244
 a66 := Tryz.isAgg244
 z66 := Tryz.sizeOf244
 v66 := Tryz.zeroValue244
 t70 := Tryz.underlying248
 a70 := Tryz.isAgg248
 z70 := Tryz.sizeOf248
 v70 := Tryz.zeroValue248
 t76 := Tryz.underlying262
 a76 := Tryz.isAgg262
 z76 := Tryz.sizeOf262
 v76 := Tryz.zeroValue262
 t77 := Tryz.underlying263
 a77 := Tryz.isAgg263
 z77 := Tryz.sizeOf263
 v77 := Tryz.zeroValue263 }
end Go.Proofs
namespace Go.Proofs.YtkpghlnegbimdaaGreatDoor
open Go.RowKit
attribute [local irreducible] lo hs sm s64 c64 d64 b64 mh ml pd pc qd qc val hiB str cmpI srD lz nb zl zh zs fe klT
abbrev VT := {t : TI // Vd t}
instance : Inhabited VT := ⟨⟨(0, 0, 0), by unfold Vd; simp⟩⟩
def encT (x : VT) : List Value := tmC x.1
/-- The order of terms. -/
def ordZ (s t : TI) : Int := if Go.Lib.compareInt (s.1 + s.2.1) (t.1 + t.2.1) = 0 then Go.Lib.compareInt s.2.1 t.2.1 else Go.Lib.compareInt (s.1 + s.2.1) (t.1 + t.2.1)
theorem ordZ_lt {s t : TI} (hs : Vd s) (ht : Vd t) : ordZ s t < 0 ↔ KLt (key (toT s)) (key (toT t)) := by
 obtain ⟨h1, h2, h3⟩ := hs
 obtain ⟨g1, g2, g3⟩ := ht
 unfold ordZ Go.Lib.compareInt KLt toT
 simp only
 split <;> split <;> (try split) <;> (try split) <;> (try split) <;> omega
def cfT (x y : VT) : Int := ordZ x.1 y.1
theorem ltOf_iff (x y : VT) : ltOf cfT x y = true ↔ KLt (key (toT x.1)) (key (toT y.1)) := by
 unfold ltOf cfT
 rw [decide_eq_true_iff, ordZ_lt x.2 y.2]
theorem ltOf_not (x y : VT) : ltOf cfT x y = false ↔ ¬ KLt (key (toT x.1)) (key (toT y.1)) := by
 rw [← ltOf_iff, Bool.not_eq_true]
theorem swoT : Go.Sort.SWO (ltOf cfT) where
 irrefl x := (ltOf_not x x).2 (KLt.irrefl _)
 trans x y z h1 h2 := (ltOf_iff x z).2 (KLt.trans ((ltOf_iff x y).1 h1) ((ltOf_iff y z).1 h2))
 ntrans x y z h1 h2 := by
  rw [ltOf_not] at *
  unfold KLt at *
  omega
theorem porder_any (s t : TI) (hs : Vd s) (ht : Vd t) (w : World) : Calls Tryz.prog 64 #[tmV s.1 s.2.1 s.2.2, tmV t.1 t.2.1 t.2.2] w fun e w' => e = .returned (.int .i64 (ordZ s t)) ∧ BD w w' := by
 have wr : ∀ {u : TI}, Vd u → IntKind.i64.wrap (u.1 + u.2.1) = u.1 + u.2.1 := by
  rintro u ⟨h1, h2, h3⟩
  simp [IntKind.wrap, IntKind.bits, IntKind.signed]; omega
 have wr2 : ∀ {u : TI}, Vd u → wrap64 (u.1 + u.2.1) = u.1 + u.2.1 := by
  rintro u ⟨h1, h2, h3⟩
  simp [wrap64]; omega
 refine porder_w s.1 s.2.1 t.1 t.2.1 (s.1 + s.2.1) (t.1 + t.2.1) (Go.Lib.compareInt (s.1 + s.2.1) (t.1 + t.2.1)) (Go.Lib.compareInt s.2.1 t.2.1) (ordZ s t) s.2.2 t.2.2 (wr hs) (wr2 hs) (wr ht) (wr2 ht) (fun w => Tryz.cmp_Compare_int _ _ w) (fun w => Tryz.cmp_Compare_int _ _ w) (fun g w c0 c1 => or_w _ _ _ rfl g w c0 c1) w
theorem cmpT (blk off size : Nat) (w : World) : CmpLays Tryz.prog 64 #[] encT 7 cfT blk off size w :=
 fun _ _ _ _ x y => (porder_any x.1 y.1 x.2 y.2 _).mono fun _ _ ⟨he, hb⟩ => ⟨he, bd_grow hb⟩
theorem vt_list : ∀ (q : TL), TB q 12 → ∃ d : List VT, d.map (·.1) = ofL q
 | [], _ => ⟨[], rfl⟩
 | t :: q, h => by
  obtain ⟨d, hd⟩ := vt_list q (fun u hu => h u (mK hu))
  exact ⟨⟨ofT t, vd_ofT.2 (h t mZ)⟩ :: d, by simp only [List.map_cons, hd]; rfl⟩
theorem flat_get (d : Array VT) (j : Nat) (hj : j < d.size * 7) : (tmCs (d.toList.map (·.1)))[j]? = some ((Go.Sort.flatK encT 7 d)[j]!) := by
 rw [Go.Sort.get_flatK _ _ _ _ hj]
 have hi : j / 7 < d.size := by omega
 have e := tmCs_get (d.toList.map (·.1)) (j / 7) (j % 7) (by simpa using hi) (Nat.mod_lt _ (by omega))
 rw [show j / 7 * 7 + j % 7 = j by omega] at e
 rw [e, getElem!_pos d _ hi]
 have hl : j % 7 < (encT d[j / 7]).length := Nat.mod_lt _ (by omega)
 have e2 : (d.toList.map (·.1))[j / 7]'(by simpa using hi) = (d[j / 7]).1 := by simp
 rw [e2]
 show (encT d[j / 7])[j % 7]? = _
 rw [List.getElem?_eq_getElem hl, getElem!_pos (encT d[j / 7]) (j % 7) hl]
theorem holdsT {w : World} {B n g c : Nat} {l : List TI} (h : OwnT w B (.slice (some ⟨g, 0, none⟩) n c) n l) (hn : n = l.length) (d : Array VT) (hd : d.toList.map (·.1) = l) : Go.Sort.HoldsK encT 7 w g 0 d := by
 intro j hj
 rw [Go.Sort.size_flatK] at hj
 refine ⟨?_, ?_⟩
 ·have e := flat_get d j hj
  rw [hd] at e
  have := ownT_cells h rfl j _ e
  rw [Nat.zero_add]; exact this
 ·rcases h.2 with ⟨h1, _⟩ | ⟨g2, cap, cur, h1, h2, h3, _⟩
  ·cases h1
  ·cases h1
   unfold World.frozen?
   simp only [h3]
   simp
theorem holds_ts {w : World} {g : Nat} {d : Array VT} (h : Go.Sort.HoldsK encT 7 w g 0 d) (hg : g < w.heap.size) : TS w g (d.toList.map (·.1)) := by
 have hc : ∀ j u, (tmCs (d.toList.map (·.1)))[j]? = some u → w.cell? ⟨g, j, none⟩ = some u := by
  intro j u hu
  have hj : j < (tmCs (d.toList.map (·.1))).length := (List.getElem?_eq_some_iff.1 hu).1
  rw [tmCs_length, List.length_map, Array.length_toList] at hj
  have e := flat_get d j hj
  rw [hu] at e
  have := (h j (by rw [Go.Sort.size_flatK]; exact hj)).1
  rw [Nat.zero_add] at this
  rw [this]; exact e.symm
 refine ⟨fun i hi => ?_, hg⟩
 have e := fun j hj => tmCs_get (d.toList.map (·.1)) i j hi hj
 exact ⟨hc _ _ (by have := e 0 (by omega); rw [Nat.add_zero] at this; exact this), hc _ _ (e 1 (by omega)), hc _ _ (e 2 (by omega)), hc _ _ (e 3 (by omega)), hc _ _ (e 4 (by omega)), hc _ _ (e 5 (by omega)), hc _ _ (e 6 (by omega))⟩
theorem swk_below {w w' : World} {g : Nat} {d : Array VT} (h : SWK encT 7 w g 0 d w') (hg : g < w.heap.size) : Below g w w' := by
 obtain ⟨n, os, rfl⟩ := h
 refine ⟨rfl, rfl, rfl, ?_, fun k hk => ?_⟩
 ·unfold sortWorldK
  rw [Go.Sort.size_grow, Go.Sort.size_putRowK]
  show w.heap.size ≤ w.heap.size + _
  omega
 ·show (((w.heap.modify g _) ++ os : Array Obj))[k]? = _
  have h1 : k < w.heap.size := by omega
  rw [Array.getElem?_append_left (by simpa using h1), Array.getElem?_modify, if_neg (by omega)]
theorem sortf_w (ao : Option Addr) (m c : Nat) (L : Int) (Q : World → Prop) (w : World) (hw : IntKind.u64.wrap (m : Int) = (m : Int))
  (HL : ∀ w, Calls Tryz.prog 131 #[.int .u64 (m : Int)] w fun e w' => e = .returned (.int .i64 L) ∧ w' = w)
  (HP : Calls Tryz.prog 130 #[.slice ao m c, .int .i64 0, .int .i64 (m : Int), .int .i64 L, .func (.func 64) #[] #[]] w fun e w' => e = .returned (.tuple #[]) ∧ Q w') :
  Calls Tryz.prog 96 #[.slice ao m c, .func (.func 64) #[] #[]] w fun e w' => e = .returned (.tuple #[]) ∧ Q w' := by
 replace HL := Lib.hid HL
 replace HP := Lib.hid HP
 go_enter Tryz.func96, Tryz.ntmps96
 go_wp2_with (first | fail | (go_at_call 131; with_reducible refine Calls.mono (HL.out _) ?_; rintro e w1 ⟨rfl, rfl⟩) | (go_at_call 130; with_reducible refine Calls.mono HP.out ?_; rintro e w2 ⟨rfl, hQ⟩; replace hQ := Lib.hid hQ))
 go_end0
 exact ⟨rfl, hQ.out⟩
theorem psort_any (w : World) (B : Nat) (ao : Option Addr) (m c : Nat) (q : TL) (hm : m = q.length) (htb : TB q 12) (hl : q.length ≤ 169) (h : OwnT w B (.slice ao m c) m (ofL q)) :
  Calls Tryz.prog 96 #[.slice ao m c, .func (.func 64) #[] #[]] w fun xe w' => xe = .returned (.tuple #[]) ∧ (∃ s : TL, s.Perm q ∧ s.Pairwise (fun a b => ¬ KLt (key b) (key a)) ∧ PT w' (.slice ao m c) (ofL s)) ∧ Below B w w' := by
 have hw : IntKind.u64.wrap (m : Int) = (m : Int) := by simp [IntKind.wrap, IntKind.bits, IntKind.signed]; omega
 have HL : ∀ w, Calls Tryz.prog 131 #[.int .u64 (m : Int)] w fun e w' => e = .returned (.int .i64 ((Go.Lib.bitLen m : Nat) : Int)) ∧ w' = w := fun w => by
  have := Tryz.bits_Len (m : Int) w (by omega) (by omega)
  rwa [Int.toNat_natCast] at this
 rcases Nat.eq_zero_or_pos m with h0 | h0
 ·subst h0
  have hq : q = [] := List.eq_nil_of_length_eq_zero hm.symm
  subst hq
  have hp := AnyF.pdqsortCmpFunc_none (P := Tryz.prog) Tryz.sortT ao c (Go.Lib.bitLen 0) (.func (.func 64) #[] #[]) w
  refine sortf_w ao 0 c _ _ w hw HL ?_
  refine Calls.mono hp ?_
  rintro e w' ⟨he, rfl⟩
  exact ⟨he, ⟨[], List.Perm.nil, List.Pairwise.nil, .inl ⟨ao, c, rfl, rfl⟩⟩, Below.refl _ _⟩
 ·obtain ⟨g, hao, hg1, hg2⟩ : ∃ g, ao = some ⟨g, 0, none⟩ ∧ B ≤ g ∧ g < w.heap.size := by
   have hlt := h.lt
   rcases h.2 with ⟨h1, h2⟩ | ⟨g, cap, cur, h1, h2, h3, h4, h5⟩
   ·omega
   ·simp only [Value.slice.injEq] at h1
    obtain ⟨rfl, -, -⟩ := h1
    exact ⟨g, rfl, h2, (hlt g rfl).2⟩
  subst hao
  obtain ⟨dl, hdl⟩ := vt_list q htb
  obtain ⟨d, hd⟩ : ∃ d : Array VT, d.toList = dl := ⟨dl.toArray, by simp⟩
  have hdl2 : d.toList.map (·.1) = ofL q := by rw [hd, hdl]
  have hsz : d.size = m := by
   have := congrArg List.length hdl2
   rw [List.length_map, Array.length_toList] at this
   rw [this, hm]; exact List.length_map _
  have hH := holdsT h (by rw [hm]; exact (List.length_map _).symm) d hdl2
  have eg : ∀ args w, (callFunc 64 args).run Tryz.prog w = .ok (.enter 64 args) w := enters_of Tryz.func64 (by kernel_rfl) rfl
  have hlim : Go.Lib.bitLen m < 4611686018427387904 := Nat.lt_of_le_of_lt (Go.Lib.bitLen_le m 62 (by omega) (by omega)) (by omega)
  have hp := AnyQ.pdqsortCmpFunc_all (P := Tryz.prog) Tryz.sortT 7 Tryz.isAgg84 Tryz.sizeOf84 encT cfT 64 #[] swoT g 0 c d w eg (cmpT g 0 d.size w) ⟨fun _ => rfl, fun x v hv => tmC_one _ v hv, hH, hg2⟩ (d.size + 1) 0 d.size (Go.Lib.bitLen m) d w (by omega) rfl (SWK.start hH) (Nat.zero_le _) (Nat.le_refl _) (by omega) hlim (Or.inl rfl)
  rw [hsz] at hp
  refine sortf_w _ m c _ _ w hw HL ?_
  refine Calls.mono hp ?_
  rintro e w' ⟨he, hs⟩
  have hps := Go.Sort.pdq_sorts (ltOf cfT) swoT d 0 d.size (Go.Lib.bitLen m) true true (Nat.zero_le _) (Nat.le_refl _) (Or.inl rfl)
  rw [hsz] at hps
  generalize Go.Sort.pdq (ltOf cfT) d 0 m (Go.Lib.bitLen m) true true = d' at hs hps
  obtain ⟨⟨hps1, -, hps3⟩, hso⟩ := hps
  have hperm : d'.toList.Perm d.toList := by
   have e1 : d'.extract 0 m = d' := by rw [← hsz, ← hps1]; exact Array.extract_size
   have e2 : d.extract 0 m = d := by rw [← hsz]; exact Array.extract_size
   rwa [e1, e2] at hps3
  have hH' := hs.holds hg2 hH hps1
  have hts := holds_ts hH' (hs.lt hg2)
  refine ⟨he, ⟨toL (d'.toList.map (·.1)), ?_, ?_, ?_⟩, (swk_below hs hg2).mono hg1⟩
  ·have := (hperm.map (·.1)).map toT
   rw [hdl2] at this
   have e := toL_ofL q
   unfold toL at e ⊢
   rwa [e] at this
  ·unfold toL
   rw [List.map_map, List.pairwise_map, List.pairwise_iff_getElem]
   intro i j hi hj hij
   have hj2 : j < d'.size := by simpa using hj
   have hi2 : i < d'.size := by omega
   have := hso i j (Nat.zero_le _) hij (by omega)
   rw [getElem!_pos d' j hj2, getElem!_pos d' i hi2, ltOf_not] at this
   simpa using this
  ·have hvd : VdL (d'.toList.map (·.1)) := by
    intro t ht
    obtain ⟨x, -, rfl⟩ := List.mem_map.1 ht
    exact x.2
   rw [ofL_toL hvd]
   have hlen : (d'.toList.map (·.1)).length = m := by rw [List.length_map, Array.length_toList, hps1, hsz]
   exact pt_mk hlen.symm fun _ => ⟨g, rfl, hts⟩
end Go.Proofs.YtkpghlnegbimdaaGreatDoor
namespace Go.Proofs.YtkpghlnegbimdaaGreatDoor
open Go.RowKit
attribute [local irreducible] lo hs sm s64 c64 d64 b64 mh ml pd pc qd qc val hiB str cmpI srD lz nb zl zh zs fe klT ordZ
/-- The error of a term. -/
def flt (t : TI) : Int := if t.1 < 0 ∨ t.2.1 < 0 then 1 else if 12 < t.1 ∨ 12 - t.1 < t.2.1 then 9 else 0
theorem flt_zero {t : TI} : flt t = 0 ↔ Vd t := by
 unfold flt Vd
 split
 ·constructor <;> intro h <;> omega
 ·split
  ·constructor <;> intro h <;> omega
  ·constructor <;> intro h <;> omega
def errL : List TI → Int
 | [] => 0
 | t :: l => if flt t = 0 then errL l else flt t
theorem errL_zero {l : List TI} (h : VdL l) : errL l = 0 := by
 induction l with
 | nil => rfl
 | cons t l ih => unfold errL; rw [if_pos (flt_zero.2 (h t mZ))]; exact ih fun u hu => h u (mK hu)
theorem errL_at : ∀ {l : List TI} {i : Nat} (hi : i < l.length), VdL (l.take i) → ¬ Vd l[i] → errL l = flt l[i]
 | t :: l, 0, hi, _, hb => by
  have hb' : ¬ Vd t := hb
  unfold errL
  rw [if_neg (fun e => hb' (flt_zero.1 e))]; rfl
 | t :: l, i + 1, hi, hv, hb => by
  unfold errL
  rw [if_pos (flt_zero.2 (hv t (by simp)))]
  exact errL_at (l := l) (i := i) (by simpa using hi) (fun u hu => hv u (by simp [hu])) hb
/-- What a slice of terms stands for, in normal form. -/
def nrm (l : List TI) : TL := if VdL l then nfL (toL l) else []
theorem nrm_tb (l : List TI) : TB (nrm l) 12 := by
 unfold nrm
 split
 ·rename_i h; exact tb_nfL (tb_toL h)
 ·intro t ht; cases ht
theorem nrm_ofL {p : TL} (hp : NF p) (hb : TB p 12) : nrm (ofL p) = p := by
 unfold nrm
 rw [if_pos (vd_ofL.2 hb), toL_ofL, nfL_self hp]
theorem nrm_len (l : List TI) : (nrm l).length ≤ l.length := by
 unfold nrm
 split
 ·exact Nat.le_trans (nfL_len _) (Nat.le_of_eq (List.length_map _))
 ·exact Nat.zero_le _
theorem nf_snoc {p : TL} {t : Nat × Nat × Rat} (hp : NF p) (h0 : t.2.2 ≠ 0) (h : ∀ u ∈ p, KLt (key u) (key t)) : NF (p ++ [t]) := by
 refine ⟨List.pairwise_append.2 ⟨hp.up, List.pairwise_singleton _ _, fun u hu v hv => ?_⟩, fun u hu => ?_⟩
 ·rw [List.mem_singleton.1 hv]; exact h u hu
 ·rcases List.mem_append.1 hu with hu | hu
  ·exact hp.nz u hu
  ·rw [List.mem_singleton.1 hu]; exact h0
theorem nf_snoc2 {p : TL} {s t : Nat × Nat × Rat} (hp : NF (p ++ [s])) (h0 : t.2.2 ≠ 0) (h : KLt (key s) (key t)) : NF (p ++ [s] ++ [t]) := by
 refine nf_snoc hp h0 fun u hu => ?_
 rcases List.mem_append.1 hu with hu | hu
 ·exact KLt.trans ((List.pairwise_append.1 hp.up).2.2 u hu s (List.mem_singleton.2 rfl)) h
 ·rw [List.mem_singleton.1 hu]; exact h
theorem tk_snoc {l : List TI} {i : Nat} (h : i < l.length) : toL (l.take (i + 1)) = toL (l.take i) ++ [toT l[i]] := by
 rw [List.take_succ_eq_append_getElem h]
 unfold toL
 rw [List.map_append]
 rfl
theorem vd_snoc {l : List TI} {i : Nat} (h : i < l.length) (hv : VdL (l.take i)) (ht : Vd l[i]) : VdL (l.take (i + 1)) := by
 rw [List.take_succ_eq_append_getElem h]
 intro t hm
 rcases List.mem_append.1 hm with hm | hm
 ·exact hv t hm
 ·rw [List.mem_singleton.1 hm]; exact ht
theorem pfault_w (i j s e : Int) (q : Rat) (hs1 : ¬ i < 0 → ¬ 12 < i → IntKind.i64.wrap (12 - i) = s) (hs2 : ¬ i < 0 → ¬ 12 < i → wrap64 (12 - i) = s) (h : (i < 0 ∧ e = 1) ∨ (¬ i < 0 ∧ j < 0 ∧ e = 1) ∨ (¬ i < 0 ∧ ¬ j < 0 ∧ 12 < i ∧ e = 9) ∨ (¬ i < 0 ∧ ¬ j < 0 ∧ ¬ 12 < i ∧ s < j ∧ e = 9) ∨ (¬ i < 0 ∧ ¬ j < 0 ∧ ¬ 12 < i ∧ ¬ s < j ∧ e = 0)) (w : World) :
  Calls Tryz.prog 48 #[tmV i j q] w fun xe w' => xe = .returned (.int .i64 e) ∧ Below w.heap.size w w' := by
 have hL0 : GL w w [] := GL.start w
 obtain ⟨x1, hweq, hL0⟩ := GL.named (hL0.new rfl [.int .i64 i, .int .i64 j, .int .u64 ((zl q.num : Nat) : Int), .string (zh q.num), .bool (zs q.num), .int .u64 ((lo (fe q) : Nat) : Int), .string (hs (fe q))] 84)
 rcases h with ⟨b1, rfl⟩ | ⟨b1, b2, rfl⟩ | ⟨b1, b2, b3, rfl⟩ | ⟨b1, b2, b3, b4, rfl⟩ | ⟨b1, b2, b3, b4, rfl⟩
 ·clear hs1 hs2
  go_enter Tryz.func48, Tryz.ntmps48
  have hN0 := cells_of _ 0 [] rfl (hL0.get _ _ mZ)
  simp only [zF, Nat.reduceAdd] at hN0
  go_wp2_with fail
  go_ret
  exact ⟨rfl, hL0.bl⟩
 ·clear hs1 hs2
  go_enter Tryz.func48, Tryz.ntmps48
  have hN0 := cells_of _ 0 [] rfl (hL0.get _ _ mZ)
  simp only [zF, Nat.reduceAdd] at hN0
  go_wp2_with fail
  go_ret
  exact ⟨rfl, hL0.bl⟩
 ·clear hs1 hs2
  go_enter Tryz.func48, Tryz.ntmps48
  have hN0 := cells_of _ 0 [] rfl (hL0.get _ _ mZ)
  simp only [zF, Nat.reduceAdd] at hN0
  go_wp2_with fail
  go_ret
  exact ⟨rfl, hL0.bl⟩
 all_goals (
  replace hs1 := hs1 b1 b3
  replace hs2 := hs2 b1 b3
  go_enter Tryz.func48, Tryz.ntmps48
  have hN0 := cells_of _ 0 [] rfl (hL0.get _ _ mZ)
  simp only [zF, Nat.reduceAdd] at hN0
  go_wp2_with fail
  go_ret
  exact ⟨rfl, hL0.bl⟩)
theorem pfault_any (t : TI) (w : World) : Calls Tryz.prog 48 #[tmV t.1 t.2.1 t.2.2] w fun xe w' => xe = .returned (.int .i64 (flt t)) ∧ Below w.heap.size w w' := by
 refine pfault_w t.1 t.2.1 (12 - t.1) (flt t) t.2.2 (fun h1 h2 => by simp [IntKind.wrap, IntKind.bits, IntKind.signed]; omega) (fun h1 h2 => by simp [wrap64]; omega) ?_ w
 unfold flt
 split
 ·omega
 ·split <;> omega
theorem pok_w (l : List TI) (ao : Option Addr) (n c : Nat) (b : Bool) (z0 : Rat) (hz0 : z0 = 0) (hb : b = true ↔ (VdL l ∧ NF (toL l))) (hlen : l.length = n) (hbig : n ≤ 10000)
  (HF : ∀ i (h : i < l.length) (w : World), Calls Tryz.prog 48 #[tmV l[i].1 l[i].2.1 l[i].2.2] w fun xe w' => xe = .returned (.int .i64 (flt l[i])) ∧ Below w.heap.size w w')
  (HI : ∀ w : World, Calls Tryz.prog 35 #[.int .i64 0] w fun xe w' => xe = .returned (fracV z0) ∧ Below w.heap.size w w')
  (HO : ∀ i (h : i + 1 < l.length), Vd l[i] → Vd l[i + 1] → ∀ w : World, Calls Tryz.prog 64 #[tmV l[i].1 l[i].2.1 l[i].2.2, tmV l[i + 1].1 l[i + 1].2.1 l[i + 1].2.2] w fun xe w' => xe = .returned (.int .i64 (ordZ l[i] l[i + 1])) ∧ Below w.heap.size w w')
  (w : World) (hq : 0 < n → ∃ g, ao = some ⟨g, 0, none⟩ ∧ TS w g l) :
  Calls Tryz.prog 18 #[.slice ao n c] w fun xe w' => xe = .returned (.bool b) ∧ Below w.heap.size w w' := by
 replace hz0 := Lib.hid hz0
 replace hb := Lib.hid hb
 replace hlen := Lib.hid hlen
 replace HF := Lib.hid HF
 replace HI := Lib.hid HI
 replace HO := Lib.hid HO
 replace hq := Lib.hid hq
 go_enter Tryz.func18, Tryz.ntmps18
 go_wp2_with fail
 go_loopg [7] n (fun gk iv wr => ∃ (i : Nat) (zi : Int), i + gk = n ∧ iv = .int .i64 zi ∧ zi = (i : Int) ∧ VdL (l.take i) ∧ NF (toL (l.take i)) ∧ Below w.heap.size w wr)
 case atStart => exact ⟨0, 0, Nat.zero_add n, by first | rfl | go_num, rfl, fun t ht => (by cases ht), NF.nil, Below.refl _ _⟩
 case round =>
  obtain ⟨i, zi, hik, rfl, hzi, hVL, hNF, hB⟩ := hrel
  replace hVL := Lib.hid hVL
  replace hNF := Lib.hid hNF
  rcases Nat.lt_or_ge i n with hin | hin
  ·subst hzi
   have hil : i < l.length := by rw [hlen.out]; exact hin
   obtain ⟨g, rfl, hts⟩ := hq.out (by omega)
   have hf := (hts.below hB).cell i hil
   have k1 : (i : Int) < (n : Int) := by omega
   have k0 : (0 : Int) ≤ (i : Int) := Int.natCast_nonneg _
   obtain ⟨a, bb, q, hl⟩ : ∃ a bb q, l[i] = (a, bb, q) := ⟨_, _, _, rfl⟩
   have hF3 := HF.out i hil
   rw [hl] at hf hF3
   replace hF3 := Lib.hid hF3
   replace hl := Lib.hid hl
   obtain ⟨f0, f1, f2, f3, f4, f5, f6⟩ := hf
   have hL0 : GL wr wr [] := GL.start wr
   replace hL0 := hL0.new rfl [.int .i64 a, .int .i64 bb, .int .u64 ((zl q.num : Nat) : Int), .string (zh q.num), .bool (zs q.num), .int .u64 ((lo (fe q) : Nat) : Int), .string (hs (fe q))] 84
   generalize hweq : wr.alloc (.cells #[.int .i64 a, .int .i64 bb, .int .u64 ((zl q.num : Nat) : Int), .string (zh q.num), .bool (zs q.num), .int .u64 ((lo (fe q) : Nat) : Int), .string (hs (fe q))] 84) = y1 at hL0
   go_upto_region 4 with fail
   clear hweq f0 f1 f2 f3 f4 f5 f6
   have hB1 := hB.trans (hL0.bl.mono hB.size)
   replace hF3 := hF3.out
   replace hl := hl.out
   by_cases hvd : Vd (a, bb, q)
   ·skip
    rw [flt_zero.2 hvd] at hF3
    replace hF3 := Lib.hid hF3
    obtain ⟨t, ht⟩ : ∃ t, t = decide (q = z0) := ⟨_, rfl⟩
    have hne := fun W => run_eqlF q z0 t ht W
    replace ht := Lib.hid ht
    cases t with
    | true =>
     have hq0 : q = 0 := by have := of_decide_eq_true ht.out.symm; rw [this, hz0.out]
     have hbf := Lib.hid (show b = false from by
       cases hbb : b with
       | false => rfl
       | true =>
        have := (hb.out.1 hbb).2.nz (toT l[i]) (List.mem_map.2 ⟨_, List.getElem_mem hil, rfl⟩)
        rw [hl] at this
        exact absurd hq0 this)
     replace hq0 := Lib.hid hq0
     replace hvd := Lib.hid hvd
     replace hl := Lib.hid hl
     obtain ⟨α, iα, F, hF1, hF2⟩ := cls y1
     have hg0 := cls_box hF1 hL0 _ _ mZ
     simp only [zC, Nat.reduceAdd] at hg0
     refine region_cls (F := F) (by kernel_rfl) (lexB_of_fast (by kernel_rfl)) (cls_drew hF2) ?_
     repeat (go_big_quiet_step (first | fail | (go_at_call 48; with_reducible exact cls_call hF1 hF2 hF3.out _) | (go_at_call 35; with_reducible exact cls_call hF1 hF2 HI.out _)))
     refine wpQuiet_nil ?_
     rintro wq ⟨xq, rfl⟩
     have hB2 := hB1.trans ((hF1 xq).mono hB1.size)
     clear hg0 hF2
     clear hne
     generalize F xq = y2 at hB2 ⊢
     clear hF1 xq iα F α
     go_wp2_with fail
     go_ret
     exact ⟨by rw [hbf.out]; rfl, hB2⟩
    | false =>
     have hq0 : q ≠ 0 := by have := of_decide_eq_false ht.out.symm; rw [hz0.out] at this; exact this
     have hv2 := Lib.hid (vd_snoc hil hVL.out (by rw [hl]; exact hvd))
     replace hq0 := Lib.hid hq0
     rcases Nat.eq_zero_or_pos i with h0 | h0
     ·have k2 : ¬ (0 : Int) < (i : Int) := by omega
      have k3 : ¬ 0 < i := by omega
      have hn2 := Lib.hid (show NF (toL (l.take (i + 1))) from by
        rw [tk_snoc hil, hl]
        refine nf_snoc hNF.out hq0.out fun u hu => ?_
        rw [h0] at hu
        exact absurd hu (by simp [toL]))
      replace hvd := Lib.hid hvd
      replace hl := Lib.hid hl
      replace h0 := Lib.hid h0
      obtain ⟨α, iα, F, hF1, hF2⟩ := cls y1
      have hg0 := cls_box hF1 hL0 _ _ mZ
      simp only [zC, Nat.reduceAdd] at hg0
      refine region_cls (F := F) (by kernel_rfl) (lexB_of_fast (by kernel_rfl)) (cls_drew hF2) ?_
      repeat (go_big_quiet_step (first | fail | (go_at_call 48; with_reducible exact cls_call hF1 hF2 hF3.out _) | (go_at_call 35; with_reducible exact cls_call hF1 hF2 HI.out _)))
      refine wpQuiet_nil ?_
      rintro wq ⟨xq, rfl⟩
      have hB2 := hB1.trans ((hF1 xq).mono hB1.size)
      clear hg0 hF2
      clear hne
      generalize F xq = y2 at hB2 ⊢
      clear hF1 xq iα F α
      go_wp2_with fail
      go_roundg (gk - 1)
      case measure => omega
      case rel => exact ⟨i + 1, _, by omega, by first | rfl | go_num, by omega, hv2.out, hn2.out, hB2⟩
     ·obtain ⟨k, hk⟩ : ∃ k, i = k + 1 := ⟨i - 1, by omega⟩
      have k2 : (0 : Int) < (i : Int) := by omega
      have k3 : 0 < i := by omega
      have hkl : k < l.length := by omega
      have w1 : IntKind.i64.wrap ((i : Int) - 1) = (k : Int) := by simp [IntKind.wrap, IntKind.bits, IntKind.signed]; omega
      have w2 : wrap64 ((i : Int) - 1) = (k : Int) := by simp [wrap64]; omega
      have kk1 : (k : Int) < (n : Int) := by omega
      have kk0 : (0 : Int) ≤ (k : Int) := Int.natCast_nonneg _
      obtain ⟨a2, b2, q2, hl2⟩ : ∃ a2 b2 q2, l[k] = (a2, b2, q2) := ⟨_, _, _, rfl⟩
      have hvk : Vd (a2, b2, q2) := by
       rw [← hl2]
       refine hVL.out _ ?_
       rw [List.mem_take_iff_getElem]
       exact ⟨k, by omega, rfl⟩
      have hsn : toL (l.take i) = toL (l.take k) ++ [toT (a2, b2, q2)] := by rw [hk, tk_snoc hkl, hl2]
      have hO1 := HO.out k (by rw [← hk]; exact hil) (by rw [hl2]; exact hvk) (by simp only [← hk]; rw [hl]; exact hvd)
      simp only [← hk] at hO1
      rw [hl, hl2] at hO1
      obtain ⟨r, hr⟩ : ∃ r, r = ordZ (a2, b2, q2) (a, bb, q) := ⟨_, rfl⟩
      have hri : r < 0 ↔ KLt (key (toT (a2, b2, q2))) (key (toT (a, bb, q))) := by rw [hr]; exact ordZ_lt hvk hvd
      rw [← hr] at hO1
      replace hO1 := Lib.hid hO1
      replace hr := Lib.hid hr
      replace hri := Lib.hid hri
      replace hvk := Lib.hid hvk
      replace hvd := Lib.hid hvd
      replace hsn := Lib.hid hsn
      have htk := Lib.hid (tk_snoc hil)
      rw [hl] at htk
      replace hk := Lib.hid hk
      replace h0 := Lib.hid h0
      rcases Int.lt_or_le r 0 with hr0 | hr0
      ·have b3 : ¬ (0 : Int) ≤ r := by omega
       have hn2 := Lib.hid (show NF (toL (l.take (i + 1))) from by
         rw [htk.out, hsn.out]
         refine nf_snoc2 ?_ hq0.out (hri.out.1 hr0)
         rw [← hsn.out]; exact hNF.out)
       replace hl := Lib.hid hl
       replace hr0 := Lib.hid hr0
       obtain ⟨α, iα, F, hF1, hF2⟩ := cls y1
       have hg0 := cls_box hF1 hL0 _ _ mZ
       simp only [zC, Nat.reduceAdd] at hg0
       have hq9 : ∀ x, TS (F x) g l := fun x => ((hts.below hB).below hL0.bl).below (hF1 x)
       have hp := fun x => (hq9 x).cell k hkl
       simp only [hl2] at hp
       replace hl2 := Lib.hid hl2
       have p0 := fun x => (hp x).1
       have p1 := fun x => (hp x).2.1
       have p2 := fun x => (hp x).2.2.1
       have p3 := fun x => (hp x).2.2.2.1
       have p4 := fun x => (hp x).2.2.2.2.1
       have p5 := fun x => (hp x).2.2.2.2.2.1
       have p6 := fun x => (hp x).2.2.2.2.2.2
       clear hp hq9
       refine region_cls (F := F) (by kernel_rfl) (lexB_of_fast (by kernel_rfl)) (cls_drew hF2) ?_
       repeat (go_big_quiet_step (first | fail | (go_at_call 48; with_reducible exact cls_call hF1 hF2 hF3.out _) | (go_at_call 35; with_reducible exact cls_call hF1 hF2 HI.out _) | (go_at_call 64; with_reducible exact cls_call hF1 hF2 hO1.out _)))
       refine wpQuiet_nil ?_
       rintro wq ⟨xq, rfl⟩
       have hB2 := hB1.trans ((hF1 xq).mono hB1.size)
       clear hg0 hF2
       clear hne p0 p1 p2 p3 p4 p5 p6
       generalize F xq = y2 at hB2 ⊢
       clear hF1 xq iα F α
       go_wp2_with fail
       go_roundg (gk - 1)
       case measure => omega
       case rel => exact ⟨i + 1, _, by omega, by first | rfl | go_num, by omega, hv2.out, hn2.out, hB2⟩
      ·have b3 : (0 : Int) ≤ r := hr0
       have hbf := Lib.hid (show b = false from by
         cases hbb : b with
         | false => rfl
         | true =>
          exfalso
          have hup := (hb.out.1 hbb).2.up
          have e : toL l = toL (l.take (i + 1)) ++ toL (l.drop (i + 1)) := by unfold toL; rw [← List.map_append, List.take_append_drop]
          rw [e, htk.out, hsn.out, List.append_assoc, List.append_assoc] at hup
          have h1 := (List.pairwise_append.1 hup).2.1
          have h2 := (List.pairwise_append.1 h1).2.2 (toT (a2, b2, q2)) (List.mem_singleton.2 rfl) (toT (a, bb, q)) (by simp)
          have := hri.out.2 h2
          omega)
       replace hl := Lib.hid hl
       replace hr0 := Lib.hid hr0
       obtain ⟨α, iα, F, hF1, hF2⟩ := cls y1
       have hg0 := cls_box hF1 hL0 _ _ mZ
       simp only [zC, Nat.reduceAdd] at hg0
       have hq9 : ∀ x, TS (F x) g l := fun x => ((hts.below hB).below hL0.bl).below (hF1 x)
       have hp := fun x => (hq9 x).cell k hkl
       simp only [hl2] at hp
       replace hl2 := Lib.hid hl2
       have p0 := fun x => (hp x).1
       have p1 := fun x => (hp x).2.1
       have p2 := fun x => (hp x).2.2.1
       have p3 := fun x => (hp x).2.2.2.1
       have p4 := fun x => (hp x).2.2.2.2.1
       have p5 := fun x => (hp x).2.2.2.2.2.1
       have p6 := fun x => (hp x).2.2.2.2.2.2
       clear hp hq9
       refine region_cls (F := F) (by kernel_rfl) (lexB_of_fast (by kernel_rfl)) (cls_drew hF2) ?_
       repeat (go_big_quiet_step (first | fail | (go_at_call 48; with_reducible exact cls_call hF1 hF2 hF3.out _) | (go_at_call 35; with_reducible exact cls_call hF1 hF2 HI.out _) | (go_at_call 64; with_reducible exact cls_call hF1 hF2 hO1.out _)))
       refine wpQuiet_nil ?_
       rintro wq ⟨xq, rfl⟩
       have hB2 := hB1.trans ((hF1 xq).mono hB1.size)
       clear hg0 hF2
       clear hne p0 p1 p2 p3 p4 p5 p6
       generalize F xq = y2 at hB2 ⊢
       clear hF1 xq iα F α
       go_wp2_with fail
       go_ret
       exact ⟨by rw [hbf.out]; rfl, hB2⟩
   ·have hbf := Lib.hid (show b = false from by
     cases hbb : b with
     | false => rfl
     | true => exact absurd ((hb.out.1 hbb).1 _ (List.getElem_mem hil)) (by rw [hl]; exact hvd))
    obtain ⟨e0, he0⟩ : ∃ e0, e0 = flt (a, bb, q) := ⟨_, rfl⟩
    have hne : e0 ≠ 0 := fun e => hvd (flt_zero.1 (he0.symm.trans e))
    rw [← he0] at hF3
    have b1 : (e0 != 0) = true := by simpa using hne
    replace hne := Lib.hid hne
    replace he0 := Lib.hid he0
    replace hF3 := Lib.hid hF3
    replace hvd := Lib.hid hvd
    replace hl := Lib.hid hl
    obtain ⟨α, iα, F, hF1, hF2⟩ := cls y1
    have hg0 := cls_box hF1 hL0 _ _ mZ
    simp only [zC, Nat.reduceAdd] at hg0
    refine region_cls (F := F) (by kernel_rfl) (lexB_of_fast (by kernel_rfl)) (cls_drew hF2) ?_
    repeat (go_big_quiet_step (first | fail | (go_at_call 48; with_reducible exact cls_call hF1 hF2 hF3.out _)))
    refine wpQuiet_nil ?_
    rintro wq ⟨xq, rfl⟩
    have hB2 := hB1.trans ((hF1 xq).mono hB1.size)
    clear hg0 hF2
    generalize F xq = y2 at hB2 ⊢
    clear hF1 xq iα F α
    go_wp2_with fail
    go_ret
    exact ⟨by rw [hbf.out]; rfl, hB2⟩
  ·obtain rfl : i = n := by omega
   subst hzi
   have k1 : ¬ (i : Int) < (i : Int) := by omega
   rw [show l.take i = l from List.take_of_length_le (Nat.le_of_eq hlen.out)] at hVL hNF
   have hbt := Lib.hid (hb.out.2 ⟨hVL.out, hNF.out⟩)
   go_wp2_with fail
   go_ret
   exact ⟨by rw [hbt.out]; rfl, hB⟩
theorem pof_w (l : List TI) (ao : Option Addr) (n c : Nat) (hlen : l.length = n) (hbig : n ≤ 10000)
  (HF : ∀ i (h : i < l.length) (w : World), Calls Tryz.prog 48 #[tmV l[i].1 l[i].2.1 l[i].2.2] w fun xe w' => xe = .returned (.int .i64 (flt l[i])) ∧ Below w.heap.size w w')
  (HS : VdL l → ∀ w : World, (0 < n → ∃ g, ao = some ⟨g, 0, none⟩ ∧ TS w g l) → Calls Tryz.prog 49 #[.slice ao n c] w fun xe w' => ∃ v, xe = .returned v ∧ PT w' v (ofL (nfL (toL l))) ∧ Below w.heap.size w w')
  (w : World) (hq : 0 < n → ∃ g, ao = some ⟨g, 0, none⟩ ∧ TS w g l) :
  Calls Tryz.prog 10 #[.slice ao n c] w fun xe w' => ∃ v, xe = .returned (.tuple #[v, .int .i64 (errL l)]) ∧ PT w' v (ofL (nrm l)) ∧ Below w.heap.size w w' := by
 obtain ⟨E, hE⟩ : ∃ E, E = errL l := ⟨_, rfl⟩
 obtain ⟨P, hP⟩ : ∃ P, P = nrm l := ⟨_, rfl⟩
 rw [← hE, ← hP]
 replace hE := Lib.hid hE
 replace hP := Lib.hid hP
 replace hlen := Lib.hid hlen
 replace HF := Lib.hid HF
 replace HS := Lib.hid HS
 replace hq := Lib.hid hq
 go_enter Tryz.func10, Tryz.ntmps10
 go_wp2_with fail
 go_loopg [9] n (fun gk iv wr => ∃ (i : Nat) (zi : Int), i + gk = n ∧ iv = .int .i64 zi ∧ zi = (i : Int) ∧ VdL (l.take i) ∧ Below w.heap.size w wr)
 case atStart => exact ⟨0, 0, Nat.zero_add n, by first | rfl | go_num, rfl, fun t ht => (by cases ht), Below.refl _ _⟩
 case round =>
  obtain ⟨i, zi, hik, rfl, hzi, hVL, hB⟩ := hrel
  replace hVL := Lib.hid hVL
  rcases Nat.lt_or_ge i n with hin | hin
  ·subst hzi
   have hil : i < l.length := by rw [hlen.out]; exact hin
   obtain ⟨g, rfl, hts⟩ := hq.out (by omega)
   have hf := (hts.below hB).cell i hil
   have k1 : (i : Int) < (n : Int) := by omega
   have k0 : (0 : Int) ≤ (i : Int) := Int.natCast_nonneg _
   have hv2 := Lib.hid (fun h => vd_snoc hil hVL.out h)
   have he2 := Lib.hid (fun h => errL_at hil hVL.out h)
   obtain ⟨a, bb, q, hl⟩ : ∃ a bb q, l[i] = (a, bb, q) := ⟨_, _, _, rfl⟩
   have hF3 := HF.out i hil
   rw [hl] at hf hF3 hv2 he2
   obtain ⟨e0, he0⟩ : ∃ e0, e0 = flt (a, bb, q) := ⟨_, rfl⟩
   rw [← he0] at hF3
   replace hF3 := Lib.hid hF3
   replace hl := Lib.hid hl
   obtain ⟨f0, f1, f2, f3, f4, f5, f6⟩ := hf
   have hL0 : GL wr wr [] := GL.start wr
   replace hL0 := hL0.new rfl [.int .i64 a, .int .i64 bb, .int .u64 ((zl q.num : Nat) : Int), .string (zh q.num), .bool (zs q.num), .int .u64 ((lo (fe q) : Nat) : Int), .string (hs (fe q))] 84
   generalize hweq : wr.alloc (.cells #[.int .i64 a, .int .i64 bb, .int .u64 ((zl q.num : Nat) : Int), .string (zh q.num), .bool (zs q.num), .int .u64 ((lo (fe q) : Nat) : Int), .string (hs (fe q))] 84) = y1 at hL0
   have hN0 := cells_of _ 0 [] rfl (hL0.get _ _ mZ)
   simp only [zF, Nat.reduceAdd] at hN0
   replace he0 := Lib.hid he0
   by_cases h0 : e0 = 0
   ·subst h0
    have hv3 := Lib.hid (hv2.out (flt_zero.1 he0.out.symm))
    go_wp2_with (go_at_call 48; with_reducible refine Calls.mono (hF3.out _) ?_; rintro e y2 ⟨rfl, hb⟩; replace hb := Lib.hid hb)
    have hB2 := hB.trans ((hL0.bl.trans (hb.out.mono hL0.bl.size)).mono hB.size)
    clear hweq f0 f1 f2 f3 f4 f5 f6 hN0
    go_wp2_with fail
    go_roundg (gk - 1)
    case measure => omega
    case rel => exact ⟨i + 1, _, by omega, by first | rfl | go_num, by omega, hv3.out, hB2⟩
   ·have b1 : (e0 != 0) = true := by simpa using h0
    have hbad : ¬ Vd (a, bb, q) := fun h => h0 (he0.out.trans (flt_zero.2 h))
    have hEE : E = e0 := by rw [hE.out, he2.out hbad, he0.out]
    have hPP : P = [] := by rw [hP.out]; unfold nrm; rw [if_neg (fun h => hbad (by rw [← hl.out]; exact h _ (List.getElem_mem hil)))]
    replace hEE := Lib.hid hEE
    replace hPP := Lib.hid hPP
    replace hbad := Lib.hid hbad
    replace h0 := Lib.hid h0
    go_wp2_with (go_at_call 48; with_reducible refine Calls.mono (hF3.out _) ?_; rintro e y2 ⟨rfl, hb⟩; replace hb := Lib.hid hb)
    have hB2 := hB.trans ((hL0.bl.trans (hb.out.mono hL0.bl.size)).mono hB.size)
    clear hweq f0 f1 f2 f3 f4 f5 f6 hN0
    go_wp2_with fail
    exact bodyPost_ret (v := .tuple #[.slice none 0 0, .int .i64 e0]) (by simp [results, Tryz.results10, go_sem]) rfl ⟨.slice none 0 0, by rw [hEE.out], by rw [hPP.out]; exact pt_nil _, hB2⟩
  ·obtain rfl : i = n := by omega
   subst hzi
   have k1 : ¬ (i : Int) < (i : Int) := by omega
   rw [show l.take i = l from List.take_of_length_le (Nat.le_of_eq hlen.out)] at hVL
   have hEE := Lib.hid (show E = 0 from hE.out.trans (errL_zero hVL.out))
   have hPP := Lib.hid (show P = nfL (toL l) from by rw [hP.out]; unfold nrm; rw [if_pos hVL.out])
   have hq2 : 0 < i → ∃ g, ao = some ⟨g, 0, none⟩ ∧ TS wr g l := fun h => by obtain ⟨g, h1, h2⟩ := hq.out h; exact ⟨g, h1, h2.below hB⟩
   have hS1 := Lib.hid (HS.out hVL.out wr hq2)
   clear hq2
   go_wp2_with (go_at_call 49; with_reducible refine Calls.mono hS1.out ?_; rintro e y2 ⟨v, rfl, hpt, hb⟩; replace hpt := Lib.hid hpt; replace hb := Lib.hid hb)
   exact bodyPost_ret (v := .tuple #[v, .int .i64 0]) (by simp [results, Tryz.results10, go_sem]) rfl ⟨v, by rw [hEE.out], by rw [hPP.out]; exact hpt.out, hB.trans (hb.out.mono hB.size)⟩
theorem pnorm_w (l : List TI) (ao : Option Addr) (n c : Nat) (b : Bool) (E : Int) (hb : b = true ↔ (VdL l ∧ NF (toL l)))
  (HO : ∀ w : World, PT w (.slice ao n c) l → Calls Tryz.prog 18 #[.slice ao n c] w fun xe w' => xe = .returned (.bool b) ∧ Below w.heap.size w w')
  (HF : ∀ w : World, PT w (.slice ao n c) l → Calls Tryz.prog 10 #[.slice ao n c] w fun xe w' => ∃ v, xe = .returned (.tuple #[v, .int .i64 E]) ∧ PT w' v (ofL (nrm l)) ∧ Below w.heap.size w w')
  (w : World) (hq : PT w (.slice ao n c) l) :
  Calls Tryz.prog 52 #[.slice ao n c] w fun xe w' => ∃ v, xe = .returned v ∧ PT w' v (ofL (nrm l)) ∧ Below w.heap.size w w' := by
 obtain ⟨P, hP⟩ : ∃ P, P = nrm l := ⟨_, rfl⟩
 simp only [← hP] at HF ⊢
 replace hP := Lib.hid hP
 replace hb := Lib.hid hb
 replace HO := Lib.hid HO
 replace HF := Lib.hid HF
 replace hq := Lib.hid hq
 cases b with
 | true =>
  have hh := hb.out.1 rfl
  have hPP : ofL P = l := by rw [hP.out]; unfold nrm; rw [if_pos hh.1, nfL_self hh.2, ofL_toL hh.1]
  replace hPP := Lib.hid hPP
  clear hh
  go_enter Tryz.func52, Tryz.ntmps52
  go_wp2_with (go_at_call 18; with_reducible refine Calls.mono (HO.out _ hq.out) ?_; rintro e y1 ⟨rfl, hb1⟩; replace hb1 := Lib.hid hb1)
  go_ret
  exact ⟨_, rfl, by rw [hPP.out]; exact hq.out.below hb1.out, hb1.out⟩
 | false =>
  go_enter Tryz.func52, Tryz.ntmps52
  go_wp2_with (first | fail | (go_at_call 18; with_reducible refine Calls.mono (HO.out _ hq.out) ?_; rintro e y1 ⟨rfl, hb1⟩; have hq1 := Lib.hid (hq.out.below hb1); replace hb1 := Lib.hid hb1) | (go_at_call 10; with_reducible refine Calls.mono (HF.out _ hq1.out) ?_; rintro e y2 ⟨v, rfl, hpt, hb2⟩; replace hb2 := Lib.hid hb2; replace hpt := Lib.hid hpt))
  go_ret
  exact ⟨_, rfl, hpt.out, hb1.out.trans (hb2.out.mono hb1.out.size)⟩
end Go.Proofs.YtkpghlnegbimdaaGreatDoor
namespace Go.Proofs.YtkpghlnegbimdaaGreatDoor
attribute [local irreducible] Bs
theorem mul_den8 (q : Rat) : q * ((q.den : Nat) : Rat) = (q.num : Rat) := by
 have h := Rat.mkRat_eq_div q.num q.den
 rw [Rat.mkRat_self] at h
 have h0 : ((q.den : Nat) : Rat) ≠ 0 := fun e => by have := Rat.natCast_pos.2 q.den_pos; rw [e] at this; exact absurd this (by decide)
 conv => lhs; arg 1; rw [h]
 exact Rat.div_mul_cancel h0
/-- Over the denominator D the numerators' absolute values add up to at most M. -/
def Ht (D : Nat) : Nat → TL → Prop
 | _, [] => True
 | M, t :: p => ∃ (a : Int) (m : Nat), t.2.2 * (D : Rat) = (a : Rat) ∧ a.natAbs + m ≤ M ∧ Ht D m p
theorem Ht.mono {D : Nat} : ∀ {p : TL} {M M' : Nat}, Ht D M p → M ≤ M' → Ht D M' p
 | [], _, _, _, _ => trivial
 | t :: p, M, M', ⟨a, m, h1, h2, h3⟩, hm => ⟨a, m, h1, by omega, h3⟩
theorem Ht.append {D : Nat} : ∀ {p q : TL} {M M' : Nat}, Ht D M p → Ht D M' q → Ht D (M + M') (p ++ q)
 | [], q, M, M', _, h => h.mono (by omega)
 | t :: p, q, M, M', ⟨a, m, h1, h2, h3⟩, h => ⟨a, m + M', h1, by omega, h3.append h⟩
theorem Ht.scaleD {D : Nat} (E : Nat) : ∀ {p : TL} {M : Nat}, Ht D M p → Ht (D * E) (M * E) p
 | [], _, _ => trivial
 | t :: p, M, ⟨a, m, h1, h2, h3⟩ => ⟨a * (E : Int), m * E, by push_cast; rw [← Rat.mul_assoc, h1], by
   rw [Int.natAbs_mul, Int.natAbs_natCast, ← Nat.add_mul]; exact Nat.mul_le_mul_right _ h2, h3.scaleD E⟩
theorem Ht.times {D E : Nat} {s : Nat × Nat × Rat} {a : Int} (hs : s.2.2 * (D : Rat) = (a : Rat)) : ∀ {q : TL} {M : Nat}, Ht E M q → Ht (D * E) (a.natAbs * M) (timesL s q)
 | [], _, _ => trivial
 | t :: q, M, ⟨b, m, h1, h2, h3⟩ => ⟨a * b, a.natAbs * m, by
   show s.2.2 * t.2.2 * ((D * E : Nat) : Rat) = _
   push_cast
   rw [← hs, ← h1]; grind, by
   rw [Int.natAbs_mul, ← Nat.mul_add]; exact Nat.mul_le_mul_left _ h2, Ht.times hs h3⟩
theorem Ht.prod {D E : Nat} : ∀ {p q : TL} {M N : Nat}, Ht D M p → Ht E N q → Ht (D * E) (M * N) (prodL p q)
 | [], q, M, N, _, _ => trivial
 | t :: p, q, M, N, ⟨a, m, h1, h2, h3⟩, h => by
  have e := (Ht.times h1 h).append (Ht.prod h3 h)
  refine Ht.mono e ?_
  rw [← Nat.add_mul]; exact Nat.mul_le_mul_right _ h2
theorem Ht.ins {D : Nat} {t : Nat × Nat × Rat} {a : Int} (ht : t.2.2 * (D : Rat) = (a : Rat)) : ∀ {p : TL} {M : Nat}, Ht D M p → Ht D (a.natAbs + M) (insT t p)
 | [], M, _ => by
  unfold insT
  split
  ·trivial
  ·exact ⟨a, 0, ht, by omega, trivial⟩
 | u :: p, M, ⟨b, m, h1, h2, h3⟩ => by
  unfold insT
  split
  ·split
   ·exact ⟨b, m, h1, by omega, h3⟩
   ·exact ⟨a, M, ht, Nat.le_refl _, b, m, h1, h2, h3⟩
  ·split
   ·split
    ·exact h3.mono (by omega)
    ·refine ⟨a + b, m, ?_, by omega, h3⟩
     show (t.2.2 + u.2.2) * (D : Rat) = _
     rw [Rat.add_mul, ht, h1]; push_cast; rfl
   ·exact ⟨b, a.natAbs + m, h1, by omega, h3.ins ht⟩
theorem Ht.nf {D : Nat} : ∀ {p : TL} {M : Nat}, Ht D M p → Ht D M (nfL p)
 | [], _, _ => trivial
 | t :: p, M, ⟨a, m, h1, h2, h3⟩ => (Ht.ins h1 h3.nf).mono h2
theorem Ht.take {D : Nat} : ∀ {p : TL} {M : Nat} (i : Nat), Ht D M p → Ht D M (p.take i)
 | _, _, 0, _ => by rw [List.take_zero]; trivial
 | [], _, i + 1, _ => trivial
 | t :: p, M, i + 1, ⟨a, m, h1, h2, h3⟩ => ⟨a, m, h1, h2, h3.take i⟩
theorem Ht.coef {D : Nat} (k : Nat × Nat) : ∀ {p : TL} {M : Nat}, Ht D M p → ∃ a : Int, pair p (ind k) * (D : Rat) = (a : Rat) ∧ a.natAbs ≤ M
 | [], _, _ => ⟨0, by simp only [pair]; rw [Rat.zero_mul]; rfl, Nat.zero_le _⟩
 | t :: p, M, ⟨a, m, h1, h2, h3⟩ => by
  obtain ⟨b, h4, h5⟩ := h3.coef k
  by_cases hk : key t = k
  ·refine ⟨a + b, ?_, by omega⟩
   simp only [pair]
   rw [show ind k t.1 t.2.1 = 1 from if_pos hk, Rat.mul_one, Rat.add_mul, h1, h4]; push_cast; rfl
  ·refine ⟨b, ?_, by omega⟩
   simp only [pair]
   rw [show ind k t.1 t.2.1 = 0 from if_neg hk, Rat.mul_zero, Rat.zero_add, h4]
theorem Ht.mem {D : Nat} : ∀ {p : TL} {M : Nat}, Ht D M p → ∀ t ∈ p, ∃ a : Int, t.2.2 * (D : Rat) = (a : Rat) ∧ a.natAbs ≤ M
 | [], _, _, t, ht => by cases ht
 | u :: p, M, ⟨a, m, h1, h2, h3⟩, t, ht => by
  rcases List.mem_cons.1 ht with rfl | ht
  ·exact ⟨a, h1, by omega⟩
  ·obtain ⟨b, h4, h5⟩ := h3.mem t ht
   exact ⟨b, h4, by omega⟩
theorem Ht.map {D : Nat} {f : Nat × Nat × Rat → Nat × Nat × Rat} (n : Nat) : ∀ {p : TL} {M : Nat}, (∀ t ∈ p, ∃ k : Nat, k ≤ n ∧ (f t).2.2 = (k : Rat) * t.2.2) → Ht D M p → Ht D (n * M) (p.map f)
 | [], _, _, _ => trivial
 | t :: p, M, hf, ⟨a, m, h1, h2, h3⟩ => by
  obtain ⟨k, hk, e⟩ := hf t mZ
  refine ⟨(k : Int) * a, n * m, ?_, ?_, h3.map n fun u hu => hf u (mK hu)⟩
  ·rw [e, Rat.mul_assoc, h1]; push_cast; rfl
  ·rw [Int.natAbs_mul, Int.natAbs_natCast]
   have := Nat.mul_le_mul_right a.natAbs hk
   have := Nat.mul_le_mul_left n h2
   rw [Nat.mul_add] at this
   omega
theorem sz_of {q : Rat} {D : Nat} {a : Int} {k : Nat} (hD : 0 < D) (hD2 : D < Bs ^ k) (ha : a.natAbs < Bs ^ k) (h : q * (D : Rat) = (a : Rat)) : Sz q k := by
 have h1 : (q.num : Rat) * (D : Rat) = (a : Rat) * ((q.den : Nat) : Rat) := by rw [← mul_den8, ← h]; grind
 have h2 : q.num * (D : Int) = a * (q.den : Int) := by exact_mod_cast h1
 have h3 : q.num.natAbs * D = a.natAbs * q.den := by
  have := congrArg Int.natAbs h2
  rwa [Int.natAbs_mul, Int.natAbs_mul, Int.natAbs_natCast, Int.natAbs_natCast] at this
 have hdv : q.den ∣ D := by
  have hc : Nat.Coprime q.den q.num.natAbs := q.reduced.symm
  exact hc.dvd_of_dvd_mul_left (by rw [h3]; exact Nat.dvd_mul_left _ _)
 obtain ⟨e, he⟩ := hdv
 have he0 : 0 < e := by
  rcases Nat.eq_zero_or_pos e with h | h
  ·rw [h, Nat.mul_zero] at he; omega
  ·exact h
 have hn : q.num.natAbs ≤ a.natAbs := by
  have h4 : q.num.natAbs * e = a.natAbs := by
   have hp := q.den_pos
   rw [he] at h3
   have : q.den * (q.num.natAbs * e) = q.den * a.natAbs := by rw [Nat.mul_comm q.den a.natAbs, ← h3]; rw [Nat.mul_left_comm]
   exact Nat.eq_of_mul_eq_mul_left hp this
  rw [← h4]; exact Nat.le_mul_of_pos_right _ he0
 have hd : q.den ≤ D := by rw [he]; exact Nat.le_mul_of_pos_right _ he0
 exact ⟨digs_length_iff.2 (Nat.lt_of_le_of_lt hn ha), digs_length_iff.2 (Nat.lt_of_le_of_lt hd hD2)⟩
/-- The size of a sum of terms. -/
def SzL (p : TL) (k : Nat) : Prop := ∃ D M : Nat, 0 < D ∧ D < Bs ^ k ∧ M < Bs ^ k ∧ Ht D M p
theorem bs_pow (k : Nat) : 0 < Bs ^ k := Nat.pow_pos Bs_pos
theorem bs_mono {a b : Nat} (h : a ≤ b) : Bs ^ a ≤ Bs ^ b := Nat.pow_le_pow_right Bs_pos h
theorem bs_mul {x y a b : Nat} (hx : x < Bs ^ a) (hy : y < Bs ^ b) : x * y < Bs ^ (a + b) := by
 rw [Nat.pow_add]
 exact Nat.mul_lt_mul'' hx hy
theorem bs_two {x y a : Nat} (hx : x < Bs ^ a) (hy : y < Bs ^ a) : x + y < Bs ^ (a + 1) := by
 rw [Nat.pow_succ]
 have : 2 ≤ Bs := by unfold Bs; omega
 have := Nat.mul_le_mul_left (Bs ^ a) this
 omega
theorem SzL.mono {p : TL} {k m : Nat} (h : SzL p k) (hm : k ≤ m) : SzL p m := by
 obtain ⟨D, M, h0, h1, h2, h3⟩ := h
 exact ⟨D, M, h0, Nat.lt_of_lt_of_le h1 (bs_mono hm), Nat.lt_of_lt_of_le h2 (bs_mono hm), h3⟩
theorem SzL.nil (k : Nat) (hk : 0 < k) : SzL [] k := ⟨1, 0, by omega, Nat.lt_of_lt_of_le (by unfold Bs; omega) (bs_mono (a := 1) hk), bs_pow k, trivial⟩
theorem SzL.nf {p : TL} {k : Nat} (h : SzL p k) : SzL (nfL p) k := by
 obtain ⟨D, M, h0, h1, h2, h3⟩ := h
 exact ⟨D, M, h0, h1, h2, h3.nf⟩
theorem SzL.append {p q : TL} {k m : Nat} (h : SzL p k) (g : SzL q m) : SzL (p ++ q) (k + m + 1) := by
 obtain ⟨D, M, h0, h1, h2, h3⟩ := h
 obtain ⟨E, N, g0, g1, g2, g3⟩ := g
 refine ⟨D * E, M * E + N * D, Nat.mul_pos h0 g0, Nat.lt_of_lt_of_le (bs_mul h1 g1) (bs_mono (by omega)), bs_two (bs_mul h2 g1) (by rw [Nat.add_comm k m]; exact bs_mul g2 h1), (h3.scaleD E).append ?_⟩
 rw [Nat.mul_comm D E]; exact g3.scaleD D
theorem SzL.prod {p q : TL} {k m : Nat} (h : SzL p k) (g : SzL q m) : SzL (prodL p q) (k + m) := by
 obtain ⟨D, M, h0, h1, h2, h3⟩ := h
 obtain ⟨E, N, g0, g1, g2, g3⟩ := g
 exact ⟨D * E, M * N, Nat.mul_pos h0 g0, bs_mul h1 g1, bs_mul h2 g2, h3.prod g3⟩
theorem SzL.one {i j : Nat} {q : Rat} {k : Nat} (h : Sz q k) : SzL [(i, j, q)] k :=
 ⟨q.den, q.num.natAbs, q.den_pos, digs_length_iff.1 h.2, digs_length_iff.1 h.1, q.num, 0, mul_den8 q, by omega, trivial⟩
theorem SzL.cons {i j : Nat} {q : Rat} {p : TL} {k m : Nat} (h : Sz q k) (g : SzL p m) : SzL ((i, j, q) :: p) (k + m + 1) := (SzL.one (i := i) (j := j) h).append g
theorem SzL.scale {c : Rat} {p : TL} {k m : Nat} (h : Sz c k) (g : SzL p m) : SzL (scaleL c p) (k + m) := by
 have := (SzL.one (i := 0) (j := 0) h).prod g
 have e : prodL [(0, 0, c)] p = scaleL c p := by
  simp [prodL, timesL, scaleL]
 rwa [e] at this
theorem SzL.map {p : TL} {f : Nat × Nat × Rat → Nat × Nat × Rat} {k : Nat} (n : Nat) (hn : n < Bs) (hf : ∀ t ∈ p, ∃ m : Nat, m ≤ n ∧ (f t).2.2 = (m : Rat) * t.2.2) (h : SzL p k) : SzL (p.map f) (k + 1) := by
 obtain ⟨D, M, h0, h1, h2, h3⟩ := h
 refine ⟨D, n * M, h0, Nat.lt_of_lt_of_le h1 (bs_mono (by omega)), ?_, h3.map n hf⟩
 rw [Nat.add_comm k 1]
 exact bs_mul (by rw [Nat.pow_one]; exact hn) h2
theorem SzL.coef {p : TL} {k : Nat} (h : SzL p k) (i : Nat) (c : Nat × Nat) : Sz (pair (p.take i) (ind c)) k := by
 obtain ⟨D, M, h0, h1, h2, h3⟩ := h
 obtain ⟨a, e, ha⟩ := (h3.take i).coef c
 exact sz_of h0 h1 (Nat.lt_of_le_of_lt ha h2) e
theorem SzL.mem {p : TL} {k : Nat} (h : SzL p k) {t : Nat × Nat × Rat} (ht : t ∈ p) : Sz t.2.2 k := by
 obtain ⟨D, M, h0, h1, h2, h3⟩ := h
 obtain ⟨a, e, ha⟩ := h3.mem t ht
 exact sz_of h0 h1 (Nat.lt_of_le_of_lt ha h2) e
end Go.Proofs.YtkpghlnegbimdaaGreatDoor
namespace Go.Proofs.YtkpghlnegbimdaaGreatDoor
open Go.RowKit
attribute [local irreducible] lo hs sm s64 c64 d64 b64 mh ml pd pc qd qc val hiB str cmpI srD lz nb zl zh zs fe klT ordZ
theorem toL_take (l : List TI) (k : Nat) : toL (l.take k) = (toL l).take k := by unfold toL; rw [List.map_take]
theorem sumP (l : List TI) (K : Nat) (hv : VdL l) (hs : SzL (toL l) K) (hK : K ≤ 1000000) (hl : l.length ≤ 10000) (w : World) (v : Value) (h : PT w v l) :
  Calls Tryz.prog 49 #[v] w fun xe w' => ∃ v', xe = .returned v' ∧ PT w' v' (ofL (nfL (toL l))) ∧ Below w.heap.size w w' := by
 obtain ⟨ao, n, c, rfl, hn⟩ := pt_form h
 refine psum_w l ao n c 0 rfl hn.symm (by omega) hv (fun k hk w => addF _ _ K ?_ ?_ (by omega) w) (fun w => intF 0 (by omega) (by omega) w) psort_any clip_w w (pt_parts h).2
 ·rw [toL_take]; exact hs.coef k _
 ·exact hs.mem (t := toT l[k]) (List.mem_map.2 ⟨_, List.getElem_mem hk, rfl⟩)
theorem ofP (l : List TI) (K : Nat) (hs : VdL l → SzL (toL l) K) (hK : K ≤ 1000000) (hl : l.length ≤ 10000) (w : World) (v : Value) (h : PT w v l) :
  Calls Tryz.prog 10 #[v] w fun xe w' => ∃ v', xe = .returned (.tuple #[v', .int .i64 (errL l)]) ∧ PT w' v' (ofL (nrm l)) ∧ Below w.heap.size w w' := by
 obtain ⟨ao, n, c, rfl, hn⟩ := pt_form h
 exact pof_w l ao n c hn.symm (by omega) (fun i hi w => pfault_any _ w) (fun hv w hq => sumP l K hv (hs hv) hK hl w _ (pt_mk hn hq)) w (pt_parts h).2
theorem normP (l : List TI) (K : Nat) (hs : VdL l → SzL (toL l) K) (hK : K ≤ 1000000) (hl : l.length ≤ 10000) (w : World) (v : Value) (h : PT w v l) :
  Calls Tryz.prog 52 #[v] w fun xe w' => ∃ v', xe = .returned v' ∧ PT w' v' (ofL (nrm l)) ∧ Below w.heap.size w w' := by
 obtain ⟨ao, n, c, rfl, hn⟩ := pt_form h
 obtain ⟨b, hb⟩ : ∃ b : Bool, b = true ↔ (VdL l ∧ NF (toL l)) := by
  by_cases hc : VdL l ∧ NF (toL l)
  ·exact ⟨true, by simp [hc]⟩
  ·exact ⟨false, by simp [hc]⟩
 refine pnorm_w l ao n c b (errL l) hb (fun w hq => pok_w l ao n c b 0 rfl hb hn.symm (by omega) (fun i hi w => pfault_any _ w) (fun w => intF 0 (by omega) (by omega) w) (fun i hi h1 h2 w => (porder_any _ _ h1 h2 w).mono fun _ _ ⟨he, hb⟩ => ⟨he, hb.1⟩) w (pt_parts hq).2) (fun w hq => ofP l K hs hK hl w _ hq) w h
/-- .. of a normal form: the same terms. -/
theorem normN (p : TL) (hp : NF p) (hb : TB p 12) (K : Nat) (hs : SzL p K) (hK : K ≤ 1000000) (hl : p.length ≤ 10000) (w : World) (v : Value) (h : PT w v (ofL p)) :
  Calls Tryz.prog 52 #[v] w fun xe w' => ∃ v', xe = .returned v' ∧ PT w' v' (ofL p) ∧ Below w.heap.size w w' := by
 have := normP (ofL p) K (fun _ => by rw [toL_ofL]; exact hs) hK (by rw [show (ofL p).length = p.length from List.length_map _]; exact hl) w v h
 rwa [nrm_ofL hp hb] at this
theorem ofL_length (p : TL) : (ofL p).length = p.length := List.length_map _
theorem ofL_get {p : TL} {k : Nat} (h : k < p.length) (h2 : k < (ofL p).length) {a b : Nat} {q : Rat} (e : p[k] = (a, b, q)) : (ofL p)[k] = ((a : Int), (b : Int), q) := by
 have : (ofL p)[k]? = some ((a : Int), (b : Int), q) := by
  unfold ofL
  rw [List.getElem?_map, List.getElem?_eq_getElem h, e]; rfl
 exact (List.getElem?_eq_some_iff.1 this).2
/-- The degree of a normal form. -/
def degI (p : TL) : Int := match p.getLast? with | none => -1 | some t => ((t.1 : Nat) : Int) + ((t.2.1 : Nat) : Int)
theorem degI_at {p : TL} {m : Nat} (h : m + 1 = p.length) : degI p = ((p[m].1 : Nat) : Int) + ((p[m].2.1 : Nat) : Int) := by
 unfold degI
 have : p.getLast? = some p[m] := by rw [List.getLast?_eq_getElem?, show p.length - 1 = m by omega]; exact List.getElem?_eq_getElem (by omega)
 rw [this]
theorem degI_le {p : TL} {d : Nat} (h : TB p d) : degI p ≤ d := by
 unfold degI
 cases hg : p.getLast? with
 | none => simp only; omega
 | some t => have := h t (List.mem_of_getLast? hg); simp only; omega
theorem degI_ge (p : TL) : -1 ≤ degI p := by
 unfold degI
 cases p.getLast? <;> simp only <;> omega
theorem pdeg_w (l : List TI) (P : TL) (hPb : TB P 12) (hPl : P.length ≤ 10000) (ao : Option Addr) (n c : Nat) (d : Int) (hd : d = degI P)
  (HN : ∀ w : World, PT w (.slice ao n c) l → Calls Tryz.prog 52 #[.slice ao n c] w fun xe w' => ∃ v', xe = .returned v' ∧ PT w' v' (ofL P) ∧ Below w.heap.size w w')
  (w : World) (hq : PT w (.slice ao n c) l) :
  Calls Tryz.prog 15 #[.slice ao n c] w fun xe w' => xe = .returned (.int .i64 d) ∧ Below w.heap.size w w' := by
 replace HN := Lib.hid HN
 replace hq := Lib.hid hq
 replace hd := Lib.hid hd
 replace hPb := Lib.hid hPb
 replace hPl := Lib.hid hPl
 go_enter Tryz.func15, Tryz.ntmps15
 go_wp2_with fail
 with_reducible refine Calls.mono (HN.out w hq.out) ?_
 rintro e y1 ⟨v, rfl, hpt, hb⟩
 obtain ⟨a2, n2, c2, rfl, hn2⟩ := pt_form hpt
 have hpp := (pt_parts hpt).2
 have hnl : n2 = P.length := by rw [hn2]; exact List.length_map _
 clear hn2 hpt
 rcases Nat.eq_zero_or_pos n2 with h0 | h0
 ·subst h0
  have hdd := Lib.hid (show d = -1 from by rw [hd.out, List.eq_nil_of_length_eq_zero hnl.symm]; rfl)
  clear hpp hnl
  go_wp2_with fail
  go_ret
  exact ⟨by rw [hdd.out]; rfl, hb⟩
 ·obtain ⟨g, rfl, hts⟩ := hpp h0
  obtain ⟨m, hm⟩ : ∃ m, n2 = m + 1 := ⟨n2 - 1, by omega⟩
  have hmP : m < P.length := by omega
  have hmo : m < (ofL P).length := by rw [show (ofL P).length = P.length from List.length_map _]; exact hmP
  have hf := hts.cell m hmo
  obtain ⟨i, j, q, hP⟩ : ∃ i j q, P[m] = (i, j, q) := ⟨_, _, _, rfl⟩
  have ho := ofL_get hmP hmo hP
  simp only [ho] at hf
  have hij : i + j ≤ 12 := by have := hPb.out _ (List.getElem_mem hmP); rw [hP] at this; exact this
  have hdd := Lib.hid (show d = (i : Int) + (j : Int) from by rw [hd.out, degI_at (m := m) (by omega), hP])
  have hn3 := hPl.out
  have k3 : ¬ n2 = 0 := by omega
  have b1 : (((n2 : Nat) : Int) == 0) = false := by simp; omega
  have w1 : IntKind.i64.wrap ((n2 : Int) - 1) = (m : Int) := by simp [IntKind.wrap, IntKind.bits, IntKind.signed]; omega
  have w2 : wrap64 ((n2 : Int) - 1) = (m : Int) := by simp [wrap64]; omega
  have kk1 : (m : Int) < (n2 : Int) := by omega
  have kk0 : (0 : Int) ≤ (m : Int) := Int.natCast_nonneg _
  obtain ⟨s, hsm⟩ : ∃ s, s = (i : Int) + (j : Int) := ⟨_, rfl⟩
  have w3 : IntKind.i64.wrap ((i : Int) + (j : Int)) = s := by rw [hsm]; simp [IntKind.wrap, IntKind.bits, IntKind.signed]; omega
  have w4 : wrap64 ((i : Int) + (j : Int)) = s := by rw [hsm]; simp [wrap64]; omega
  rw [← hsm] at hdd
  replace hm := Lib.hid hm
  replace hsm := Lib.hid hsm
  replace hP := Lib.hid hP
  replace hij := Lib.hid hij
  replace h0 := Lib.hid h0
  clear hts hpp ho hn3 hnl
  obtain ⟨f0, f1, f2, f3, f4, f5, f6⟩ := hf
  have hL0 : GL y1 y1 [] := GL.start y1
  replace hL0 := hL0.new rfl [.int .i64 (i : Int), .int .i64 (j : Int), .int .u64 ((zl q.num : Nat) : Int), .string (zh q.num), .bool (zs q.num), .int .u64 ((lo (fe q) : Nat) : Int), .string (hs (fe q))] 84
  generalize hweq : y1.alloc (.cells #[.int .i64 (i : Int), .int .i64 (j : Int), .int .u64 ((zl q.num : Nat) : Int), .string (zh q.num), .bool (zs q.num), .int .u64 ((lo (fe q) : Nat) : Int), .string (hs (fe q))] 84) = y2 at hL0
  have hN0 := cells_of _ 0 [] rfl (hL0.get _ _ mZ)
  simp only [zF, Nat.reduceAdd] at hN0
  go_wp2_with fail
  go_ret
  exact ⟨by rw [hdd.out]; rfl, hb.trans (hL0.bl.mono hb.size)⟩
theorem degP (l : List TI) (K : Nat) (hs : VdL l → SzL (toL l) K) (hK : K ≤ 1000000) (hl : l.length ≤ 10000) (w : World) (v : Value) (h : PT w v l) :
  Calls Tryz.prog 15 #[v] w fun xe w' => xe = .returned (.int .i64 (degI (nrm l))) ∧ Below w.heap.size w w' := by
 obtain ⟨ao, n, c, rfl, hn⟩ := pt_form h
 exact pdeg_w l (nrm l) (nrm_tb l) (Nat.le_trans (nrm_len l) hl) ao n c _ rfl (fun w hq => normP l K hs hK hl w _ hq) w h
def coefZ (P : TL) (i j : Int) : Rat := match P.find? (fun t => decide (((t.1 : Nat) : Int) = i ∧ ((t.2.1 : Nat) : Int) = j)) with | none => 0 | some t => t.2.2
theorem coefZ_at {P : TL} {i j : Int} {k : Nat} (hk : k < P.length) (h1 : ((P[k].1 : Nat) : Int) = i ∧ ((P[k].2.1 : Nat) : Int) = j) (h2 : ∀ m (hm : m < k), ¬ (((P[m].1 : Nat) : Int) = i ∧ ((P[m].2.1 : Nat) : Int) = j)) : coefZ P i j = P[k].2.2 := by
 unfold coefZ
 have : P.find? (fun t => decide (((t.1 : Nat) : Int) = i ∧ ((t.2.1 : Nat) : Int) = j)) = some P[k] := by
  rw [List.find?_eq_some_iff_getElem]
  exact ⟨decide_eq_true h1, k, hk, rfl, fun m hm => by simp only [Bool.not_eq_true', decide_eq_false_iff_not]; exact h2 m hm⟩
 rw [this]
theorem coefZ_none {P : TL} {i j : Int} (h2 : ∀ m (hm : m < P.length), ¬ (((P[m].1 : Nat) : Int) = i ∧ ((P[m].2.1 : Nat) : Int) = j)) : coefZ P i j = 0 := by
 unfold coefZ
 have : P.find? (fun t => decide (((t.1 : Nat) : Int) = i ∧ ((t.2.1 : Nat) : Int) = j)) = none := by
  rw [List.find?_eq_none]
  intro t ht
  obtain ⟨m, hm, rfl⟩ := List.getElem_of_mem ht
  have := h2 m hm
  simpa using this
 rw [this]
theorem pcoef_w (l : List TI) (P : TL) (hPl : P.length ≤ 10000) (ao : Option Addr) (n c : Nat) (i j : Int) (r z0 : Rat) (hr : r = coefZ P i j) (hz0 : z0 = 0)
  (HN : ∀ w : World, PT w (.slice ao n c) l → Calls Tryz.prog 52 #[.slice ao n c] w fun xe w' => ∃ v', xe = .returned v' ∧ PT w' v' (ofL P) ∧ Below w.heap.size w w')
  (HI : ∀ w : World, Calls Tryz.prog 35 #[.int .i64 0] w fun xe w' => xe = .returned (fracV z0) ∧ Below w.heap.size w w')
  (w : World) (hq : PT w (.slice ao n c) l) :
  Calls Tryz.prog 20 #[.slice ao n c, .int .i64 i, .int .i64 j] w fun xe w' => xe = .returned (fracV r) ∧ Below w.heap.size w w' := by
 replace HN := Lib.hid HN
 replace HI := Lib.hid HI
 replace hq := Lib.hid hq
 replace hr := Lib.hid hr
 replace hz0 := Lib.hid hz0
 replace hPl := Lib.hid hPl
 have hL0 : GL w w [] := GL.start w
 obtain ⟨x1, hweq, hL0⟩ := GL.named (hL0.new rfl [.int .u64 0, .string ⟨#[]⟩, .bool false, .int .u64 0, .string ⟨#[]⟩] 47)
 go_enter Tryz.func20, Tryz.ntmps20
 go_wp2_with fail
 with_reducible refine Calls.mono (HN.out x1 (hq.out.below hL0.bl)) ?_
 rintro e y1 ⟨v, rfl, hpt, hb⟩
 replace hL0 := hL0.call hb
 clear hb hweq
 obtain ⟨a2, n2, c2, rfl, hn2⟩ := pt_form hpt
 have hpp := Lib.hid (pt_parts hpt).2
 have hnl : n2 = P.length := by rw [hn2]; exact List.length_map _
 have hnb : n2 ≤ 10000 := by rw [hnl]; exact hPl.out
 replace hnl := Lib.hid hnl
 clear hn2 hpt
 generalize hbx : w.heap.size = bx at hL0
 replace hbx := Lib.hid hbx
 go_wp2_with fail
 go_loopg [12] n2 (fun gk iv wr => ∃ (k : Nat) (zi : Int), k + gk = n2 ∧ iv = .int .i64 zi ∧ zi = (k : Int) ∧ (∀ m (hm : m < P.length), m < k → ¬ (((P[m].1 : Nat) : Int) = i ∧ ((P[m].2.1 : Nat) : Int) = j)) ∧ Below y1.heap.size y1 wr ∧ GL w wr [(bx, [.int .u64 0, .string ⟨#[]⟩, .bool false, .int .u64 0, .string ⟨#[]⟩])])
 case atStart => exact ⟨0, 0, Nat.zero_add n2, by first | rfl | go_num, rfl, fun m _ h => absurd h (Nat.not_lt_zero _), Below.refl _ _, hL0⟩
 case round =>
  clear hL0
  obtain ⟨k, zi, hik, rfl, hzi, hno, hB, hL0⟩ := hrel
  replace hno := Lib.hid hno
  rcases Nat.lt_or_ge k n2 with hin | hin
  ·subst hzi
   have hkP : k < P.length := by rw [← hnl.out]; exact hin
   have hko : k < (ofL P).length := by rw [show (ofL P).length = P.length from List.length_map _]; exact hkP
   obtain ⟨g, rfl, hts⟩ := hpp.out (by omega)
   have hf := (hts.below hB).cell k hko
   have k1 : (k : Int) < (n2 : Int) := by omega
   have k0 : (0 : Int) ≤ (k : Int) := Int.natCast_nonneg _
   obtain ⟨a, b, q, hP⟩ : ∃ a b q, P[k] = (a, b, q) := ⟨_, _, _, rfl⟩
   have ho := ofL_get hkP hko hP
   simp only [ho] at hf
   obtain ⟨ai, hai⟩ : ∃ ai, ai = (a : Int) := ⟨_, rfl⟩
   obtain ⟨bi, hbi⟩ : ∃ bi, bi = (b : Int) := ⟨_, rfl⟩
   rw [← hai, ← hbi] at hf
   replace hai := Lib.hid hai
   replace hbi := Lib.hid hbi
   replace hP := Lib.hid hP
   clear ho hts
   obtain ⟨f0, f1, f2, f3, f4, f5, f6⟩ := hf
   have hsz : wr.heap.size = wr.heap.size := rfl
   replace hL0 := hL0.new rfl [.int .i64 ai, .int .i64 bi, .int .u64 ((zl q.num : Nat) : Int), .string (zh q.num), .bool (zs q.num), .int .u64 ((lo (fe q) : Nat) : Int), .string (hs (fe q))] 84
   generalize hweq : wr.alloc (.cells #[.int .i64 ai, .int .i64 bi, .int .u64 ((zl q.num : Nat) : Int), .string (zh q.num), .bool (zs q.num), .int .u64 ((lo (fe q) : Nat) : Int), .string (hs (fe q))] 84) = y2 at hL0
   have hB2 : Below y1.heap.size y1 y2 := by rw [← hweq]; exact hB.alloc hB.size _
   have hN0 := cells_of _ 0 [] rfl (hL0.get _ _ mZ)
   simp only [zF, Nat.reduceAdd] at hN0
   clear hsz
   by_cases hc : ai = i ∧ bi = j
   ·obtain ⟨hc1, hc2⟩ := hc
    have hrr : r = q := by
     rw [hr.out, coefZ_at hkP (by rw [hP.out]; exact ⟨hai.out.symm.trans hc1, hbi.out.symm.trans hc2⟩) (fun m hm => hno.out m (by omega) hm), hP.out]
    replace hrr := Lib.hid hrr
    subst hc1 hc2
    have hN1 := cells_of _ 0 [] rfl (hL0.get _ _ (mK mZ))
    simp only [zF, Nat.reduceAdd] at hN1
    have hA := hL0.fc
    simp only [zF, Nat.reduceAdd] at hA
    have hPt := hL0.put 1 bx _ rfl [.int .u64 ((zl q.num : Nat) : Int), .string (zh q.num), .bool (zs q.num), .int .u64 ((lo (fe q) : Nat) : Int), .string (hs (fe q))] rfl
    simp only [setAll, List.set_cons_zero, List.set_cons_succ] at hPt
    clear hN0 hN1
    generalize hput1 : (((((y2.setCell ⟨bx, 0, none⟩ (.int .u64 ((zl q.num : Nat) : Int))).setCell ⟨bx, 1, none⟩ (.string (zh q.num))).setCell ⟨bx, 2, none⟩ (.bool (zs q.num))).setCell ⟨bx, 3, none⟩ (.int .u64 ((lo (fe q) : Nat) : Int))).setCell ⟨bx, 4, none⟩ (.string (hs (fe q)))) = y3 at hPt
    have hB1 := hPt.fc
    simp only [zF, Nat.reduceAdd] at hB1
    go_wp2_with fail
    exact bodyPost_ret (v := fracV q) (by simp [results, Tryz.results20, go_sem, hB1]) rfl ⟨by rw [hrr.out], hPt.bl⟩
   ·have hno2 := Lib.hid (show ∀ m (hm : m < P.length), m < k + 1 → ¬ (((P[m].1 : Nat) : Int) = i ∧ ((P[m].2.1 : Nat) : Int) = j) from fun m hm hmk => by
     rcases Nat.lt_or_ge m k with h | h
     ·exact hno.out m hm h
     ·obtain rfl : m = k := by omega
      rw [hP.out]
      intro h
      exact hc ⟨hai.out.trans h.1, hbi.out.trans h.2⟩)
    have hL1 := hL0.weak (List.Sublist.cons _ (List.Sublist.refl _))
    replace hL1 := Lib.hid hL1
    rcases (show (ai == i) = false ∨ ((ai == i) = true ∧ (bi == j) = false) from by
     by_cases h1 : ai = i
     ·exact .inr ⟨by simpa using h1, by simpa using fun h => hc ⟨h1, h⟩⟩
     ·exact .inl (by simpa using h1)) with b1 | ⟨b1, b2⟩
    all_goals (
     replace hc := Lib.hid hc
     go_wp2_with fail
     go_roundg (gk - 1)
     case measure => omega
     case rel => exact ⟨k + 1, _, by omega, by first | rfl | go_num, by omega, hno2.out, hB2, hL1.out⟩)
  ·obtain rfl : k = n2 := by omega
   subst hzi
   have k1 : ¬ (k : Int) < (k : Int) := by omega
   have hrr : r = z0 := by rw [hr.out, hz0.out]; exact coefZ_none fun m hm => hno.out m hm (by rw [hnl.out]; exact hm)
   replace hrr := Lib.hid hrr
   go_wp2_with fail
   with_reducible refine Calls.mono (HI.out _) ?_
   rintro e y2 ⟨rfl, hb⟩
   replace hL0 := hL0.call hb
   clear hb
   have hA := hL0.fc
   simp only [zF, Nat.reduceAdd] at hA
   have hPt := hL0.put 0 bx _ rfl [.int .u64 ((zl z0.num : Nat) : Int), .string (zh z0.num), .bool (zs z0.num), .int .u64 ((lo (fe z0) : Nat) : Int), .string (hs (fe z0))] rfl
   simp only [setAll, List.set_cons_zero, List.set_cons_succ] at hPt
   generalize hput1 : (((((y2.setCell ⟨bx, 0, none⟩ (.int .u64 ((zl z0.num : Nat) : Int))).setCell ⟨bx, 1, none⟩ (.string (zh z0.num))).setCell ⟨bx, 2, none⟩ (.bool (zs z0.num))).setCell ⟨bx, 3, none⟩ (.int .u64 ((lo (fe z0) : Nat) : Int))).setCell ⟨bx, 4, none⟩ (.string (hs (fe z0)))) = y3 at hPt
   have hB1 := hPt.fc
   simp only [zF, Nat.reduceAdd] at hB1
   go_wp2_with fail
   exact bodyPost_ret (v := fracV z0) (by simp [results, Tryz.results20, go_sem, hB1]) rfl ⟨by rw [hrr.out], hPt.bl⟩
theorem coefP (l : List TI) (i j : Int) (K : Nat) (hs : VdL l → SzL (toL l) K) (hK : K ≤ 1000000) (hl : l.length ≤ 10000) (w : World) (v : Value) (h : PT w v l) :
  Calls Tryz.prog 20 #[v, .int .i64 i, .int .i64 j] w fun xe w' => xe = .returned (fracV (coefZ (nrm l) i j)) ∧ Below w.heap.size w w' := by
 obtain ⟨ao, n, c, rfl, hn⟩ := pt_form h
 exact pcoef_w l (nrm l) (Nat.le_trans (nrm_len l) hl) ao n c i j _ 0 rfl rfl (fun w hq => normP l K hs hK hl w _ hq) (fun w => intF 0 (by omega) (by omega) w) w h
end Go.Proofs.YtkpghlnegbimdaaGreatDoor
namespace Go.Proofs.YtkpghlnegbimdaaGreatDoor
open Go.RowKit
attribute [local irreducible] lo hs sm s64 c64 d64 b64 mh ml pd pc qd qc val hiB str cmpI srD lz nb zl zh zs fe klT ordZ
theorem run_neqT (a b c d : Int) (p q : Rat) (y : Bool) (hy : y = decide ((a, b, p) = ((c, d, q) : TI))) (W : World) : (binOp .neq 84 (tmV a b p) (tmV c d q)).run Tryz.prog W = .ok (.bool (!y)) W := by
 obtain ⟨r, hr⟩ : ∃ r, r = decide (p = q) := ⟨_, rfl⟩
 have e : y = (decide (a = c) && (decide (b = d) && r)) := by
  rw [hy, hr]
  by_cases h1 : a = c <;> by_cases h2 : b = d <;> by_cases h3 : p = q <;> simp [h1, h2, h3]
 rw [e]
 by_cases h1 : a = c <;> by_cases h2 : b = d <;> rcases same_fr hr with hz | hz | hz | hz | hz | hz <;> simp [go_sem, hz, h1, h2]
theorem alike_iff {l m : List TI} (h : l.length = m.length) (k : Nat) (hk : k = l.length) (hh : ∀ j (h1 : j < l.length) (h2 : j < m.length), j < k → l[j] = m[j]) : l = m :=
 List.ext_getElem h fun j h1 h2 => hh j h1 h2 (by omega)
theorem pequal_w (l m : List TI) (ao bo : Option Addr) (n c n2 c2 : Nat) (b : Bool) (hb : b = decide (l = m)) (hln : l.length = n) (hmn : m.length = n2) (hbig : n ≤ 10000)
  (w : World) (hl : 0 < n → ∃ g, ao = some ⟨g, 0, none⟩ ∧ TS w g l) (hm : 0 < n2 → ∃ g, bo = some ⟨g, 0, none⟩ ∧ TS w g m) :
  Calls Tryz.prog 63 #[.slice ao n c, .slice bo n2 c2] w fun xe w' => xe = .returned (.bool b) ∧ Below w.heap.size w w' := by
 replace hl := Lib.hid hl
 replace hm := Lib.hid hm
 replace hb := Lib.hid hb
 replace hln := Lib.hid hln
 replace hmn := Lib.hid hmn
 by_cases hnm : n = n2
 ·subst hnm
  go_enter Tryz.func63, Tryz.ntmps63
  go_wp2_with fail
  go_loopg [13] n (fun gk iv wr => ∃ (i : Nat) (zi : Int), i + gk = n ∧ iv = .int .i64 zi ∧ zi = (i : Int) ∧ (∀ j (h1 : j < l.length) (h2 : j < m.length), j < i → l[j] = m[j]) ∧ Below w.heap.size w wr)
  case atStart => exact ⟨0, 0, Nat.zero_add n, by first | rfl | go_num, rfl, fun j _ _ h => absurd h (Nat.not_lt_zero _), Below.refl _ _⟩
  case round =>
   obtain ⟨i, zi, hik, rfl, hzi, hall, hB⟩ := hrel
   replace hall := Lib.hid hall
   rcases Nat.lt_or_ge i n with hin | hin
   ·subst hzi
    have hil : i < l.length := by rw [hln.out]; exact hin
    have him : i < m.length := by rw [hmn.out]; exact hin
    obtain ⟨g, rfl, hts⟩ := hl.out (by omega)
    obtain ⟨g2, rfl, hts2⟩ := hm.out (by omega)
    have k1 : (i : Int) < (n : Int) := by omega
    have k0 : (0 : Int) ≤ (i : Int) := Int.natCast_nonneg _
    obtain ⟨a, bb, q, hli⟩ : ∃ a b q, l[i] = (a, b, q) := ⟨_, _, _, rfl⟩
    obtain ⟨a2, b2, q2, hmi⟩ : ∃ a b q, m[i] = (a, b, q) := ⟨_, _, _, rfl⟩
    obtain ⟨t, ht⟩ : ∃ t, t = decide ((a, bb, q) = ((a2, b2, q2) : TI)) := ⟨_, rfl⟩
    have hne := fun W => run_neqT a bb a2 b2 q q2 t ht W
    replace ht := Lib.hid ht
    go_upto_region 6 with fail
    obtain ⟨α, iα, F, hF1, hF2⟩ := cls wr
    have hp9 := fun x => ((hts.below hB).below (hF1 x)).cell i hil
    have hr9 := fun x => ((hts2.below hB).below (hF1 x)).cell i him
    simp only [hli] at hp9
    simp only [hmi] at hr9
    replace hli := Lib.hid hli
    replace hmi := Lib.hid hmi
    have p0 := fun x => (hp9 x).1
    have p1 := fun x => (hp9 x).2.1
    have p2 := fun x => (hp9 x).2.2.1
    have p3 := fun x => (hp9 x).2.2.2.1
    have p4 := fun x => (hp9 x).2.2.2.2.1
    have p5 := fun x => (hp9 x).2.2.2.2.2.1
    have p6 := fun x => (hp9 x).2.2.2.2.2.2
    have r0 := fun x => (hr9 x).1
    have r1 := fun x => (hr9 x).2.1
    have r2 := fun x => (hr9 x).2.2.1
    have r3 := fun x => (hr9 x).2.2.2.1
    have r4 := fun x => (hr9 x).2.2.2.2.1
    have r5 := fun x => (hr9 x).2.2.2.2.2.1
    have r6 := fun x => (hr9 x).2.2.2.2.2.2
    clear hp9 hr9
    cases t with
    | true =>
     refine region_cls (F := F) (by kernel_rfl) (lexB_of_fast (by kernel_rfl)) (cls_drew hF2) ?_
     repeat (go_big_quiet_step (first | fail))
     refine wpQuiet_nil ?_
     rintro wq ⟨xq, rfl⟩
     have hB2 := hB.trans ((hF1 xq).mono hB.size)
     clear p0 p1 p2 p3 p4 p5 p6 r0 r1 r2 r3 r4 r5 r6 hF2 hne
     generalize F xq = y2 at hB2 ⊢
     clear hF1 xq iα F α
     have hall2 := Lib.hid (show ∀ j (h1 : j < l.length) (h2 : j < m.length), j < i + 1 → l[j] = m[j] from fun j h1 h2 h3 => by
      rcases Nat.lt_or_ge j i with h | h
      ·exact hall.out j h1 h2 h
      ·obtain rfl : j = i := by omega
       rw [hli.out, hmi.out]; exact of_decide_eq_true ht.out.symm)
     go_wp2_with fail
     go_roundg (gk - 1)
     case measure => omega
     case rel => exact ⟨i + 1, _, by omega, by first | rfl | go_num, by omega, hall2.out, hB2⟩
    | false =>
     have hbf : b = false := by
      rw [hb.out]
      refine decide_eq_false fun e => ?_
      have h1 := of_decide_eq_false ht.out.symm
      exact h1 (by rw [← hli.out, ← hmi.out]; simp only [e])
     replace hbf := Lib.hid hbf
     refine region_cls (F := F) (by kernel_rfl) (lexB_of_fast (by kernel_rfl)) (cls_drew hF2) ?_
     repeat (go_big_quiet_step (first | fail))
     refine wpQuiet_nil ?_
     rintro wq ⟨xq, rfl⟩
     have hB2 := hB.trans ((hF1 xq).mono hB.size)
     clear p0 p1 p2 p3 p4 p5 p6 r0 r1 r2 r3 r4 r5 r6 hF2 hne
     generalize F xq = y2 at hB2 ⊢
     clear hF1 xq iα F α
     go_wp2_with fail
     go_ret
     exact ⟨by rw [hbf.out]; rfl, hB2⟩
   ·obtain rfl : i = n := by omega
    subst hzi
    have k1 : ¬ (i : Int) < (i : Int) := by omega
    have hbt : b = true := by
     rw [hb.out]
     exact decide_eq_true (alike_iff (by rw [hln.out, hmn.out]) i hln.out.symm hall.out)
    replace hbt := Lib.hid hbt
    go_wp2_with fail
    go_ret
    exact ⟨by rw [hbt.out]; rfl, hB⟩
 ·have b1 : (((n : Nat) : Int) != ((n2 : Nat) : Int)) = true := by simp; omega
  have b2 : ¬ ((n : Nat) : Int) = ((n2 : Nat) : Int) := by omega
  have hbf : b = false := by
   rw [hb.out]
   exact decide_eq_false fun e => hnm (by rw [← hln.out, ← hmn.out, e])
  replace hbf := Lib.hid hbf
  go_enter Tryz.func63, Tryz.ntmps63
  go_wp2_with fail
  go_ret
  exact ⟨by rw [hbf.out]; rfl, Below.refl _ _⟩
theorem equalP (l m : List TI) (hl : l.length ≤ 10000) (w : World) (v u : Value) (h : PT w v l) (g : PT w u m) :
  Calls Tryz.prog 63 #[v, u] w fun xe w' => xe = .returned (.bool (decide (l = m))) ∧ Below w.heap.size w w' := by
 obtain ⟨ao, n, c, rfl, hn⟩ := pt_form h
 obtain ⟨bo, n2, c2, rfl, hn2⟩ := pt_form g
 exact pequal_w l m ao bo n c n2 c2 _ rfl hn.symm hn2.symm (by omega) w (pt_parts h).2 (pt_parts g).2
end Go.Proofs.YtkpghlnegbimdaaGreatDoor
namespace Go.Proofs.YtkpghlnegbimdaaGreatDoor
open Go.RowKit
attribute [local irreducible] lo hs sm s64 c64 d64 b64 mh ml pd pc qd qc val hiB str cmpI srD lz nb zl zh zs fe klT ordZ
theorem run_append_pt {w : World} {B n : Nat} {v : Value} {L : List TI} (h : OwnT w B v n L) (c : Nat) (ty : TypeId) {i : TypeInfo} (hi : Tryz.prog.info? 84 = some i) :
  (Builtin.append_ #[25, 25] ty #[v, .slice none 0 c]).run Tryz.prog w = .ok v w := by
 rcases h.2 with ⟨rfl, rfl⟩ | ⟨g, cap, cur, rfl, _, _, hnc, _⟩
 ·simp [Builtin.append_, run_underlying Tryz.underlying25, sizeOf, typeInfo, hi, Builtin.lenOf, Builtin.firstCells]
 ·simp [Builtin.append_, run_underlying Tryz.underlying25, sizeOf, typeInfo, hi, Builtin.lenOf, Builtin.firstCells, hnc, storeCells]
/-- append(v, u...) of terms onto a slice of one's own. -/
theorem wp_append_pt {w : World} {ops : Array Oper} {rest : List Oper} {o : Oper} {a : Act} {Q : Exit → Act → World → Prop} (hgd : o.guard = none) (s x : Operand)
  (ho : o.op = .call { callee := .builtin .append, args := #[s, x], argTypes := #[25, 25] }) (B : Nat) (v : Value) (n : Nat) (L : List TI) (hs : a.eval s = v) (hown : OwnT w B v n L) (u : Value) (l : List TI) (hx : a.eval x = u) (hu : PT w u l)
  (hn : n ≤ 100000) (hl : l.length ≤ 100000) (hbase : B ≤ w.heap.size)
  (h : ∀ v' w', OwnT w' B v' (n + l.length) (L ++ l) → w.grownBy w' v.ownBlock → wpList Tryz.prog ops Q rest (a.put o.dst v') w') : wpList Tryz.prog ops Q (o :: rest) a w := by
 obtain ⟨i0, hi, hz1, hz2, hz3⟩ := info_parts infoT
 have key : ∀ (g c m : Nat), u = .slice (some ⟨g, 0, none⟩) m c → m = l.length → (∀ j e, (tmCs l)[j]? = some e → w.cell? ⟨g, j, none⟩ = some e) → wpList Tryz.prog ops Q (o :: rest) a w := by
  intro g c m hu2 hm hc
  refine wpList_append_own w hgd s x 25 ho B 84 i0 (.agg #[.int .i64 0, .int .i64 0, .int .u64 0, .string ⟨#[]⟩, .bool false, .int .u64 0, .string ⟨#[]⟩]) 7 72 Tryz.underlying25 hi hz1 hz2 hz3 rfl (by decide) v n (tmCs L) hs hown ⟨g, 0, none⟩ m c (tmCs l) (hx.trans hu2) (by rw [tmCs_length, hm]) (fun j e he => by rw [add0H]; exact hc j e he) (tmCs_one l) (by unfold maxLen; omega) (by omega) hbase ?_
  intro v' w' h1 h2 _
  refine h v' w' ?_ h2
  unfold OwnT
  rw [tmCs_append, ← hm]; exact h1
 rcases hu with ⟨ao, c, rfl, rfl⟩ | ⟨g, c, rfl, hts⟩
 ·cases ao with
  | none =>
   have hr := run_append_pt hown c o.type hi
   refine Lib.wpList_append_run w hgd s x 25 25 ho _ _ hs hx _ _ hr ?_
   refine h v w ?_ ⟨rfl, rfl, rfl, Nat.le_refl _, fun _ _ _ => rfl⟩
   rw [List.append_nil]; exact hown
  | some ad =>
   refine wpList_append_own w hgd s x 25 ho B 84 i0 (.agg #[.int .i64 0, .int .i64 0, .int .u64 0, .string ⟨#[]⟩, .bool false, .int .u64 0, .string ⟨#[]⟩]) 7 72 Tryz.underlying25 hi hz1 hz2 hz3 rfl (by decide) v n (tmCs L) hs hown ad 0 c [] hx rfl (fun j e he => by cases he) (fun u hu => by cases hu) (by unfold maxLen; omega) (by omega) hbase ?_
   intro v' w' h1 h2 _
   refine h v' w' ?_ h2
   rw [List.append_nil] at h1 ⊢; exact h1
 ·exact key g c l.length rfl rfl fun j e he => hts.cells j e he
theorem pgrow_w (n : Nat) (hn : n ≤ 100000) (w : World) : Calls Tryz.prog 111 #[.slice none 0 0, .int .i64 (n : Int)] w fun xe w' => ∃ v, xe = .returned v ∧ OwnT w' w.heap.size v 0 [] ∧ Below w.heap.size w w' := by
 rcases Nat.eq_zero_or_pos n with h0 | h0
 ·subst h0
  go_enter Tryz.func111, Tryz.ntmps111
  go_wp2_with fail
  go_ret
  exact ⟨_, rfl, World.ownsRow_nil _ _ _ _, Below.refl _ _⟩
 ·obtain ⟨i0, hi, hz1, hz2, hz3⟩ := info_parts infoT
  have hrun := fun ty => Lib.run_append_nil_zeros (P := Tryz.prog) w 25 3 ty 84 i0 (.agg #[.int .i64 0, .int .i64 0, .int .u64 0, .string ⟨#[]⟩, .bool false, .int .u64 0, .string ⟨#[]⟩]) .i64 .i64 Tryz.underlying25 Tryz.underlying3 hi hz1 n h0 (by rw [hz2]; omega) (by omega) (by rw [hz3]; omega)
  have hge := grownCap_ge w n 0 84
  have hle := grownCap_le_maxLen w n 0 84 (by unfold maxLen; omega)
  have hown : OwnT (w.drew.alloc (.cells (Builtin.zeroCells (Value.cells (.agg #[.int .i64 0, .int .i64 0, .int .u64 0, .string ⟨#[]⟩, .bool false, .int .u64 0, .string ⟨#[]⟩])) n ++ Builtin.zeroCells (Value.cells (.agg #[.int .i64 0, .int .i64 0, .int .u64 0, .string ⟨#[]⟩, .bool false, .int .u64 0, .string ⟨#[]⟩])) (grownCap w n 0 84 - n)) 84)) w.heap.size (.slice (some ⟨w.heap.size, 0, none⟩) 0 (grownCap w n 0 84)) 0 [] := by
   refine ⟨rfl, .inr ⟨w.heap.size, grownCap w n 0 84, _, rfl, Nat.le_refl _, heap_alloc_new w.drew _, Nat.zero_le _, hle, ?_, ?_⟩⟩
   ·rw [Array.size_append, size_zeroCells, size_zeroCells, ← Nat.add_mul, Nat.add_sub_cancel' hge]; rfl
   ·simp [tmCs_nil]
  have hbl : Below w.heap.size w (w.drew.alloc (.cells (Builtin.zeroCells (Value.cells (.agg #[.int .i64 0, .int .i64 0, .int .u64 0, .string ⟨#[]⟩, .bool false, .int .u64 0, .string ⟨#[]⟩])) n ++ Builtin.zeroCells (Value.cells (.agg #[.int .i64 0, .int .i64 0, .int .u64 0, .string ⟨#[]⟩, .bool false, .int .u64 0, .string ⟨#[]⟩])) (grownCap w n 0 84 - n)) 84)) := (Below.refl _ _).drew.alloc (Nat.le_refl _) _
  generalize hcap : grownCap w n 0 84 = cp at hrun hge hle hown hbl
  generalize hwq : w.drew.alloc (.cells (Builtin.zeroCells (Value.cells (.agg #[.int .i64 0, .int .i64 0, .int .u64 0, .string ⟨#[]⟩, .bool false, .int .u64 0, .string ⟨#[]⟩])) n ++ Builtin.zeroCells (Value.cells (.agg #[.int .i64 0, .int .i64 0, .int .u64 0, .string ⟨#[]⟩, .bool false, .int .u64 0, .string ⟨#[]⟩])) (cp - n)) 84) = x1 at hrun hown hbl
  replace hrun := Lib.hid hrun
  replace hown := Lib.hid hown
  replace hbl := Lib.hid hbl
  replace hwq := Lib.hid hwq
  replace hcap := Lib.hid hcap
  replace hi := Lib.hid hi
  replace hz1 := Lib.hid hz1
  replace hz2 := Lib.hid hz2
  replace hz3 := Lib.hid hz3
  have k1 : (0 : Int) < (n : Int) := by omega
  have k2 : ¬ (n : Int) < 0 := by omega
  have k3 : 0 < n := h0
  have w1 : IntKind.i64.wrap (n : Int) = (n : Int) := by simp [IntKind.wrap, IntKind.bits, IntKind.signed]; omega
  have w2 : wrap64 (n : Int) = (n : Int) := by simp [wrap64]; omega
  have hsl : ∀ W : World, (Instr.slice 25 (.slice (some ⟨w.heap.size, 0, none⟩) n cp) none (some (.int .i64 0)) none).run Tryz.prog W = .ok (.slice (some ⟨w.heap.size, 0, none⟩) 0 cp) W := fun W => by
   simp [Instr.slice, Instr.sliceBounds, run_underlying Tryz.underlying25, run_sliceBound, go_sem] <;> rfl
  have hsn : ∀ W : World, (Instr.slice 25 (.slice none 0 0) none (some (.int .i64 0)) none).run Tryz.prog W = .ok (.slice none 0 0) W := fun W => by
   simp [Instr.slice, Instr.sliceBounds, run_underlying Tryz.underlying25, run_sliceBound, go_sem] <;> rfl
  clear hge hle
  go_enter Tryz.func111, Tryz.ntmps111
  go_wp2_with (at_builtin; refine Lib.wpList_append_run _ rfl _ _ 25 3 rfl (.slice none 0 0) (.int .i64 (n : Int)) rfl rfl (.slice (some ⟨w.heap.size, 0, none⟩) n cp) x1 (hrun.out _) ?_)
  go_ret
  exact ⟨_, rfl, hown.out, hbl.out⟩
theorem pconcat_w (l m : List TI) (ao bo : Option Addr) (n c n2 c2 g : Nat) (hl : l.length = n) (hm : m.length = n2) (hn : n ≤ 40000) (hn2 : n2 ≤ 40000) (s : Nat) (hs8 : s = n + n2)
  (HG : ∀ w : World, Calls Tryz.prog 111 #[.slice none 0 0, .int .i64 (s : Int)] w fun xe w' => ∃ v, xe = .returned v ∧ OwnT w' w.heap.size v 0 [] ∧ Below w.heap.size w w')
  (w : World) (c0 : w.cell? ⟨g, 0, none⟩ = some (.slice ao n c)) (c1 : w.cell? ⟨g, 1, none⟩ = some (.slice bo n2 c2)) (hg : g < w.heap.size) (h1 : PT w (.slice ao n c) l) (h2 : PT w (.slice bo n2 c2) m) :
  Calls Tryz.prog 67 #[.slice (some ⟨g, 0, none⟩) 2 2] w fun xe w' => ∃ v, xe = .returned v ∧ PT w' v (l ++ m) ∧ Below w.heap.size w w' := by
 replace HG := Lib.hid HG
 replace h1 := Lib.hid h1
 replace h2 := Lib.hid h2
 replace hl := Lib.hid hl
 replace hm := Lib.hid hm
 replace hs8 := Lib.hid hs8
 have w1 : IntKind.i64.wrap (n : Int) = (n : Int) := by simp [IntKind.wrap, IntKind.bits, IntKind.signed]; omega
 have w2 : wrap64 (n : Int) = (n : Int) := by simp [wrap64]; omega
 have w3 : IntKind.i64.wrap ((n : Int) + (n2 : Int)) = (s : Int) := by rw [hs8.out]; simp [IntKind.wrap, IntKind.bits, IntKind.signed]; omega
 have w4 : wrap64 ((n : Int) + (n2 : Int)) = (s : Int) := by rw [hs8.out]; simp [wrap64]; omega
 have k0 : ¬ (n : Int) < 0 := by omega
 have k9 : ¬ (s : Int) < 0 := by omega
 go_enter Tryz.func67, Tryz.ntmps67
 go_wp2_with fail
 go_loopg [3, 11] 2 (fun gk sv iv wr => ∃ (i : Nat) (zi zs : Int), i + gk = 2 ∧ sv = .int .i64 zs ∧ iv = .int .i64 zi ∧ zi = (i : Int) ∧ (i = 0 → zs = 0) ∧ (i = 1 → zs = (n : Int)) ∧ (i = 2 → zs = (s : Int)) ∧ wr = w)
 case atStart => exact ⟨0, 0, 0, rfl, by first | rfl | go_num, by first | rfl | go_num, rfl, fun _ => rfl, fun h => absurd h (by omega), fun h => absurd h (by omega), rfl⟩
 case round =>
  obtain ⟨i, zi, zs, hik, rfl, rfl, hzi, z0, z1, z2, rfl⟩ := hrel
  replace z0 := Lib.hid z0
  replace z1 := Lib.hid z1
  replace z2 := Lib.hid z2
  obtain rfl | rfl | rfl : i = 0 ∨ i = 1 ∨ i = 2 := by omega
  ·have hz : zi = 0 := by omega
   have hzz : zs = 0 := z0.out rfl
   clear hzi z0 z1 z2
   subst hz hzz
   go_wp2_with fail
   go_roundg 1
   case measure => omega
   case rel => exact ⟨1, 1, _, by omega, by first | rfl | go_num, by first | rfl | go_num, rfl, fun h => absurd h (by omega), fun _ => (by first | rfl | go_num), fun h => absurd h (by omega), rfl⟩
  ·have hz : zi = 1 := by omega
   have hzz : zs = (n : Int) := z1.out rfl
   clear hzi z0 z1 z2
   subst hz hzz
   go_wp2_with fail
   go_roundg 0
   case measure => omega
   case rel => exact ⟨2, 2, _, by omega, by first | rfl | go_num, by first | rfl | go_num, rfl, fun h => absurd h (by omega), fun h => absurd h (by omega), fun _ => (by first | rfl | go_num), rfl⟩
  ·have hz : zi = 2 := by omega
   have hzz : zs = (s : Int) := z2.out rfl
   clear hzi z0 z1 z2
   subst hz hzz
   go_wp2_with fail
   with_reducible refine Calls.mono (HG.out _) ?_
   rintro e y1 ⟨v0, rfl, hown0, hb0⟩
   replace hown0 := Lib.hid hown0
   replace hb0 := Lib.hid hb0
   go_wp2_with fail
   go_loopg [6, 27] 2 (fun gk vv iv w9 => ∃ (i : Nat) (zi : Int) (k : Nat) (L : List TI), i + gk = 2 ∧ iv = .int .i64 zi ∧ zi = (i : Int) ∧ (i = 0 → k = 0 ∧ L = []) ∧ (i = 1 → k = n ∧ L = l) ∧ (i = 2 → k = s ∧ L = l ++ m) ∧ OwnT w9 wr.heap.size vv k L ∧ Below wr.heap.size wr w9)
   case atStart => exact ⟨0, 0, 0, [], rfl, by first | rfl | go_num, rfl, fun _ => ⟨rfl, rfl⟩, fun h => absurd h (by omega), fun h => absurd h (by omega), hown0.out, hb0.out⟩
   case round =>
    clear hown0 hb0
    obtain ⟨i, zi, k, L, hik, rfl, hzi, z0, z1, z2, hown, hB⟩ := hrel
    replace z0 := Lib.hid z0
    replace z1 := Lib.hid z1
    replace z2 := Lib.hid z2
    obtain rfl | rfl | rfl : i = 0 ∨ i = 1 ∨ i = 2 := by omega
    ·have hz : zi = 0 := by omega
     obtain ⟨hk, hL⟩ := z0.out rfl
     clear hzi z0 z1 z2
     subst hz
     rw [hk, hL] at hown
     clear hk hL
     have d0 := (hB.cell (p := ⟨g, 0, none⟩) hg).trans c0
     have d1 := (hB.cell (p := ⟨g, 1, none⟩) hg).trans c1
     have hp := Lib.hid (h1.out.below hB)
     replace hown := Lib.hid hown
     obtain ⟨W, hW⟩ : ∃ W, W = wr := ⟨_, rfl⟩
     rename_i w8
     go_wp2_with (at_builtin; refine wp_append_pt rfl _ _ rfl _ _ _ _ rfl hown.out _ l rfl hp.out (by omega) (by rw [hl.out]; omega) hB.size ?_)
     intro v' w5 hown' hgrow
     have hB5 := hB.grown hgrow hB.size (fun j hj => (hown.out.lt j hj).1)
     have hown5 := Lib.hid hown'
     rw [hl.out] at hown5
     clear hown' hgrow hp d0 d1 hW
     go_wp2_with fail
     go_roundg 1
     case measure => omega
     case rel => exact ⟨1, 1, n, l, by omega, by first | rfl | go_num, rfl, fun h => absurd h (by omega), fun _ => ⟨rfl, rfl⟩, fun h => absurd h (by omega), by first | exact hown5.out | (have := hown5.out; rwa [Nat.zero_add, List.nil_append] at this), hB5⟩
    ·have hz : zi = 1 := by omega
     obtain ⟨hk, hL⟩ := z1.out rfl
     clear hzi z0 z1 z2
     subst hz
     rw [hk, hL] at hown
     clear hk hL
     have d0 := (hB.cell (p := ⟨g, 0, none⟩) hg).trans c0
     have d1 := (hB.cell (p := ⟨g, 1, none⟩) hg).trans c1
     have hp := Lib.hid (h2.out.below hB)
     replace hown := Lib.hid hown
     obtain ⟨W, hW⟩ : ∃ W, W = wr := ⟨_, rfl⟩
     rename_i w8
     go_wp2_with (at_builtin; refine wp_append_pt rfl _ _ rfl _ _ _ _ rfl hown.out _ m rfl hp.out (by omega) (by rw [hm.out]; omega) hB.size ?_)
     intro v' w5 hown' hgrow
     have hB5 := hB.grown hgrow hB.size (fun j hj => (hown.out.lt j hj).1)
     have hown5 := Lib.hid hown'
     rw [hm.out] at hown5
     clear hown' hgrow hp d0 d1 hW
     go_wp2_with fail
     go_roundg 0
     case measure => omega
     case rel => exact ⟨2, 2, s, (l ++ m), by omega, by first | rfl | go_num, rfl, fun h => absurd h (by omega), fun h => absurd h (by omega), fun _ => ⟨rfl, rfl⟩, by rw [hs8.out]; exact hown5.out, hB5⟩
    ·have hz : zi = 2 := by omega
     obtain ⟨hk, hL⟩ := z2.out rfl
     clear hzi z0 z1 z2
     subst hz
     have hpt := ownT_pt hown (by rw [hL, List.length_append, hl.out, hm.out, ← hs8.out, hk])
     rw [hL] at hpt
     replace hpt := Lib.hid hpt
     clear hL hk hown
     go_wp2_with fail
     go_ret
     exact ⟨_, rfl, hpt.out, hB⟩
theorem padd_w (l m P Q R : List TI) (ao bo : Option Addr) (n c n2 c2 : Nat) (hP : P.length ≤ 40000) (hQ : Q.length ≤ 40000)
  (HN1 : ∀ w : World, PT w (.slice ao n c) l → Calls Tryz.prog 52 #[.slice ao n c] w fun xe w' => ∃ v', xe = .returned v' ∧ PT w' v' P ∧ Below w.heap.size w w')
  (HN2 : ∀ w : World, PT w (.slice bo n2 c2) m → Calls Tryz.prog 52 #[.slice bo n2 c2] w fun xe w' => ∃ v', xe = .returned v' ∧ PT w' v' Q ∧ Below w.heap.size w w')
  (HG : ∀ (s : Nat) (w : World), s ≤ 100000 → Calls Tryz.prog 111 #[.slice none 0 0, .int .i64 (s : Int)] w fun xe w' => ∃ v, xe = .returned v ∧ OwnT w' w.heap.size v 0 [] ∧ Below w.heap.size w w')
  (HS : ∀ (v : Value) (w : World), PT w v (P ++ Q) → Calls Tryz.prog 49 #[v] w fun xe w' => ∃ v', xe = .returned v' ∧ PT w' v' R ∧ Below w.heap.size w w')
  (w : World) (h1 : PT w (.slice ao n c) l) (h2 : PT w (.slice bo n2 c2) m) :
  Calls Tryz.prog 24 #[.slice ao n c, .slice bo n2 c2] w fun xe w' => ∃ v, xe = .returned v ∧ PT w' v R ∧ Below w.heap.size w w' := by
 replace HN1 := Lib.hid HN1
 replace HN2 := Lib.hid HN2
 replace HG := Lib.hid HG
 replace HS := Lib.hid HS
 replace h1 := Lib.hid h1
 replace h2 := Lib.hid h2
 replace hP := Lib.hid hP
 replace hQ := Lib.hid hQ
 go_enter Tryz.func24, Tryz.ntmps24
 go_wp2_with fail
 with_reducible refine Calls.mono (HN1.out w h1.out) ?_
 rintro e y1 ⟨v1, rfl, hp1, hb1⟩
 go_wp2_with fail
 with_reducible refine Calls.mono (HN2.out y1 (h2.out.below hb1)) ?_
 rintro e y2 ⟨v2, rfl, hp2, hb2⟩
 replace hp1 := hp1.below hb2
 have hbb := hb1.trans (hb2.mono hb1.size)
 clear hb1 hb2
 obtain ⟨ao1, m1, d1, rfl, hm1⟩ := pt_form hp1
 obtain ⟨ao2, m2, d2, rfl, hm2⟩ := pt_form hp2
 have hL0 : GL y2 y2 [] := GL.start y2
 replace hL0 := hL0.new rfl [.slice ao1 m1 d1, .slice ao2 m2 d2] 25
 generalize hweq : y2.alloc (.cells #[.slice ao1 m1 d1, .slice ao2 m2 d2] 25) = y3 at hL0
 have hN0 := cells_of _ 0 [] rfl (hL0.get _ _ mZ)
 simp only [zF, Nat.reduceAdd] at hN0
 have hlt : y2.heap.size < y3.heap.size := (hL0.get _ _ mZ).lt
 have hC := pconcat_w P Q ao1 ao2 m1 d1 m2 d2 y2.heap.size hm1.symm hm2.symm (by rw [hm1]; exact hP.out) (by rw [hm2]; exact hQ.out) (m1 + m2) rfl (fun w => HG.out (m1 + m2) w (by rw [hm1, hm2]; have := hP.out; have := hQ.out; omega)) y3 hN0.1 hN0.2 hlt (hp1.below hL0.bl) (hp2.below hL0.bl)
 replace hC := Lib.hid hC
 have hb3 := hbb.trans (hL0.bl.mono hbb.size)
 clear hN0 hlt hp1 hp2 hm1 hm2 hL0 hbb
 go_wp2_with (first | fail | (go_at_call 67; with_reducible refine Calls.mono hC.out ?_; rintro e y4 ⟨v4, rfl, hp4, hb4⟩; replace hp4 := Lib.hid hp4; replace hb4 := Lib.hid hb4) | (go_at_call 49; with_reducible refine Calls.mono (HS.out _ _ hp4.out) ?_; rintro e y5 ⟨v5, rfl, hp5, hb5⟩; replace hp5 := Lib.hid hp5; replace hb5 := Lib.hid hb5))
 go_ret
 exact ⟨_, rfl, hp5.out, hb3.trans ((hb4.out.trans (hb5.out.mono hb4.out.size)).mono hb3.size)⟩
theorem addP (l m : List TI) (K : Nat) (hs : VdL l → SzL (toL l) K) (hs2 : VdL m → SzL (toL m) K) (hK : K ≤ 100000) (hl : l.length ≤ 10000) (hm : m.length ≤ 10000) (hlm : (nrm l).length + (nrm m).length ≤ 10000) (w : World) (v u : Value) (h : PT w v l) (g : PT w u m) :
  Calls Tryz.prog 24 #[v, u] w fun xe w' => ∃ v', xe = .returned v' ∧ PT w' v' (ofL (nfL (nrm l ++ nrm m))) ∧ Below w.heap.size w w' := by
 obtain ⟨ao, n, c, rfl, hn⟩ := pt_form h
 obtain ⟨bo, n2, c2, rfl, hn2⟩ := pt_form g
 refine padd_w l m (ofL (nrm l)) (ofL (nrm m)) _ ao bo n c n2 c2 (by rw [ofL_length]; omega) (by rw [ofL_length]; omega) (fun w hq => normP l K hs (by omega) hl w _ hq) (fun w hq => normP m K hs2 (by omega) hm w _ hq) (fun s w hs => pgrow_w s hs w) (fun v w hv => ?_) w h g
 have e : ofL (nrm l) ++ ofL (nrm m) = ofL (nrm l ++ nrm m) := by unfold ofL; rw [List.map_append]
 rw [e] at hv
 have hsz : ∀ {l : List TI}, (VdL l → SzL (toL l) K) → SzL (nrm l) (K + 1) := by
  intro l h
  unfold nrm
  split
  ·rename_i hv; exact (h hv).nf.mono (by omega)
  ·exact SzL.nil _ (by omega)
 have := sumP (ofL (nrm l ++ nrm m)) (K + 1 + (K + 1) + 1) (vd_ofL.2 fun t ht => by
  rcases List.mem_append.1 ht with ht | ht
  ·exact nrm_tb l t ht
  ·exact nrm_tb m t ht) (by rw [toL_ofL]; exact (hsz hs).append (hsz hs2)) (by omega) (by rw [ofL_length, List.length_append]; exact hlm) w v hv
 rw [toL_ofL] at this
 exact this
end Go.Proofs.YtkpghlnegbimdaaGreatDoor
