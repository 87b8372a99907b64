/-
  The law answers true at every input, and leaves its arguments as they were: a part of the proof. CONDITIONS: the package-level tables start as the program's text lays them (the card ties them).
-/
import Derived.Test.YthffglapmkkohaaGreatDoorZdc
set_option linter.unusedVariables false
set_option linter.unusedSimpArgs false
set_option maxHeartbeats 16000000
set_option maxRecDepth 100000
namespace Go.Proofs.YthffglapmkkohaaGreatDoor
open Go.RowKit
/-- A grid: rows and columns. -/
abbrev Gd := Nat → Nat → Rat
/-- The rows of H are sums of multiples of the first R rows of G. -/
def Span (R : Nat) (G H : Gd) : Prop := ∀ i, i < R → ∃ y : Nat → Rat, ∀ j, H i j = bsV R fun r => y r * G r j
theorem Span.refl (R : Nat) (G : Gd) : Span R G G := fun i hi => ⟨fun r => if i = r then 1 else 0, fun j => (bs_one R i hi fun r => G r j).symm⟩
theorem Span.trans {R : Nat} {G H K : Gd} (h : Span R G H) (g : Span R H K) : Span R G K := fun i hi => by
 obtain ⟨y, hy⟩ := g i hi
 have hc : ∀ r, ∃ z : Nat → Rat, r < R → ∀ j, H r j = bsV R fun s => z s * G s j := fun r => by
  by_cases hr : r < R
  ·obtain ⟨z, hz⟩ := h r hr; exact ⟨z, fun _ => hz⟩
  ·exact ⟨fun _ => 0, fun h => absurd h hr⟩
 obtain ⟨Z, hZ⟩ := Classical.axiomOfChoice hc
 refine ⟨fun s => bsV R fun r => y r * Z r s, fun j => ?_⟩
 rw [hy j, bs_congr (g := fun r => bsV R fun s => y r * (Z r s * G s j)) fun r hr => by rw [hZ r hr j, bs_mul]]
 rw [bs_swap]
 refine bs_congr fun s _ => ?_
 rw [← bs_mul_r]
 exact bs_congr fun r _ => by grind
/-- One row is what the old row is, multiplied, and another row's multiple more. -/
theorem Span.lin {R : Nat} {G H : Gd} (h : ∀ i, i < R → ∃ a c : Nat, ∃ p q : Rat, a < R ∧ c < R ∧ ∀ j, H i j = p * G a j + q * G c j) : Span R G H := fun i hi => by
 obtain ⟨a, c, p, q, ha, hc, e⟩ := h i hi
 refine ⟨fun r => p * (if a = r then 1 else 0) + q * (if c = r then 1 else 0), fun j => ?_⟩
 rw [e j, bs_congr (g := fun r => p * ((if a = r then 1 else 0) * G r j) + q * ((if c = r then 1 else 0) * G r j)) fun r _ => by grind, bs_add, bs_mul, bs_mul, bs_one R a ha, bs_one R c hc]
/-- The value of a row at a vector. -/
def rowX (n : Nat) (G : Gd) (x : Nat → Rat) (i : Nat) : Rat := bsV n fun j => G i j * x j
theorem Span.row {R n : Nat} {G H : Gd} (h : Span R G H) {x : Nat → Rat} (hx : ∀ i, i < R → rowX n G x i = 0) (i : Nat) (hi : i < R) : rowX n H x i = 0 := by
 obtain ⟨y, hy⟩ := h i hi
 unfold rowX
 rw [bs_congr (g := fun j => bsV R fun r => y r * (G r j * x j)) fun j _ => by rw [hy j, ← bs_mul_r]; exact bs_congr fun r _ => by grind]
 rw [bs_swap, bs_congr (g := fun _ => 0) fun r hr => by
  rw [bs_mul]; have := hx r hr; unfold rowX at this; rw [this]; grind]
 exact bs_zero R
def swpG (G : Gd) (a b : Nat) : Gd := fun i => if i = a then G b else if i = b then G a else G i
def divG (G : Gd) (t k : Nat) : Gd := fun i j => if i = t ∧ k ≤ j then G t j / G t k else G i j
/-- The rows behind t and ahead of m have been cleared at k. -/
def clrG (G : Gd) (t k m : Nat) : Gd := fun i j => if t < i ∧ i < m ∧ k ≤ j then G i j - G i k * G t j else G i j
/-- The first row from t on whose element k is not 0. -/
def fnd (G : Gd) (k : Nat) : Nat → Nat → Option Nat
 | _, 0 => none
 | t, n + 1 => if G t k ≠ 0 then some t else fnd G k (t + 1) n
theorem fnd_some {G : Gd} {k : Nat} : ∀ {n t i : Nat}, fnd G k t n = some i → t ≤ i ∧ i < t + n ∧ G i k ≠ 0 ∧ ∀ j, t ≤ j → j < i → G j k = 0 := by
 intro n
 induction n with
 | zero => intro t i h; cases h
 | succ n ih =>
  intro t i h
  unfold fnd at h
  by_cases h0 : G t k ≠ 0
  ·rw [if_pos h0] at h; cases h; exact ⟨Nat.le_refl _, by omega, h0, fun j _ _ => by omega⟩
  ·rw [if_neg h0] at h
   obtain ⟨h1, h2, h3, h4⟩ := ih h
   refine ⟨by omega, by omega, h3, fun j hj hi => ?_⟩
   by_cases e : j = t
   ·subst e; exact Classical.not_not.1 h0
   ·exact h4 j (by omega) hi
theorem fnd_none {G : Gd} {k : Nat} : ∀ {n t : Nat}, fnd G k t n = none → ∀ j, t ≤ j → j < t + n → G j k = 0 := by
 intro n
 induction n with
 | zero => intro t _ j _ _; omega
 | succ n ih =>
  intro t h j hj hn
  unfold fnd at h
  by_cases h0 : G t k ≠ 0
  ·rw [if_pos h0] at h; cases h
  ·rw [if_neg h0] at h
   by_cases e : j = t
   ·subst e; exact Classical.not_not.1 h0
   ·exact ih h j (by omega) (by omega)
structure ES where
 G : Gd
 pv : List Nat
 f : Rat
/-- What a column does. -/
def stepE (R k : Nat) (s : ES) : ES :=
 match fnd s.G k s.pv.length (R - s.pv.length) with
 | none => s
 | some i => ⟨clrG (divG (swpG s.G i s.pv.length) s.pv.length k) s.pv.length k R, s.pv ++ [k], (if i = s.pv.length then s.f else -s.f) * swpG s.G i s.pv.length s.pv.length k⟩
def descE (R : Nat) (s : ES) : Nat → ES
 | 0 => s
 | k + 1 => stepE R k (descE R s k)
/-- The rows as far as column k. -/
structure IE (R k : Nat) (s : ES) : Prop where
 le : s.pv.length ≤ R
 lt : ∀ r (h : r < s.pv.length), s.pv[r] < k
 up : ∀ r (h : r + 1 < s.pv.length), s.pv[r] < s.pv[r + 1]
 zl : ∀ r (h : r < s.pv.length), ∀ j, j < s.pv[r] → s.G r j = 0
 one : ∀ r (h : r < s.pv.length), s.G r s.pv[r] = 1
 zb : ∀ r (h : r < s.pv.length), ∀ i, r < i → i < R → s.G i s.pv[r] = 0
 z0 : ∀ i, s.pv.length ≤ i → i < R → ∀ j, j < k → s.G i j = 0
theorem IE.step {R k : Nat} {s : ES} (h : IE R k s) : IE R (k + 1) (stepE R k s) ∧ Span R s.G (stepE R k s).G ∧ Span R (stepE R k s).G s.G := by
 obtain ⟨G, pv, f⟩ := s
 have hle := h.le
 dsimp only at hle
 unfold stepE
 dsimp only
 cases hf : fnd G k pv.length (R - pv.length) with
 | none =>
  refine ⟨⟨h.le, fun r hr => Nat.lt_succ_of_lt (h.lt r hr), h.up, h.zl, h.one, h.zb, fun i h1 h2 j hj => ?_⟩, Span.refl _ _, Span.refl _ _⟩
  by_cases e : j = k
  ·subst e; exact fnd_none hf i h1 (by dsimp only at h1; omega)
  ·exact h.z0 i h1 h2 j (by omega)
 | some i =>
  obtain ⟨hti, hin, hne, -⟩ := fnd_some hf
  have hz0 := h.z0
  have hzl := h.zl
  have hone := h.one
  have hzb := h.zb
  have hlt := h.lt
  have hup := h.up
  dsimp only at hz0 hzl hone hzb hlt hup
  have hiR : i < R := by omega
  obtain ⟨t, ht⟩ : ∃ t, t = pv.length := ⟨_, rfl⟩
  have htR : t < R := by omega
  obtain ⟨G1, hG1⟩ : ∃ G1, G1 = swpG G i t := ⟨_, rfl⟩
  have g1 : ∀ r, r < t → G1 r = G r := fun r hr => by rw [hG1]; unfold swpG; rw [if_neg (by omega), if_neg (by omega)]
  have g1t : G1 t = G i := by
   rw [hG1]; unfold swpG
   by_cases e : t = i
   ·rw [if_pos e, e]
   ·rw [if_neg e, if_pos rfl]
  have g1z : ∀ a, t ≤ a → a < R → ∀ j, j < k → G1 a j = 0 := fun a ha haR j hj => by
   rw [hG1]; unfold swpG
   split
   ·exact hz0 t (by omega) htR j hj
   ·split
    ·exact hz0 i (by omega) hiR j hj
    ·exact hz0 a (by omega) haR j hj
  have g1b : ∀ r (hr : r < pv.length), ∀ a, r < a → a < R → G1 a pv[r] = 0 := fun r hr a ha haR => by
   rw [hG1]; unfold swpG
   split
   ·exact hzb r hr t (by omega) htR
   ·split
    ·exact hzb r hr i (by omega) hiR
    ·exact hzb r hr a ha haR
  have hk : G1 t k ≠ 0 := by rw [g1t]; exact hne
  have s1 : Span R G G1 ∧ Span R G1 G := by
   constructor
   ·refine Span.lin fun a ha => ?_
    by_cases e : a = i
    ·exact ⟨t, t, 1, 0, htR, htR, fun j => by rw [hG1]; unfold swpG; rw [if_pos e]; grind⟩
    ·by_cases e2 : a = t
     ·exact ⟨i, i, 1, 0, hiR, hiR, fun j => by rw [hG1]; unfold swpG; rw [if_neg e, if_pos e2]; grind⟩
     ·exact ⟨a, a, 1, 0, ha, ha, fun j => by rw [hG1]; unfold swpG; rw [if_neg e, if_neg e2]; grind⟩
   ·refine Span.lin fun a ha => ?_
    by_cases e : a = i
    ·exact ⟨t, t, 1, 0, htR, htR, fun j => by rw [g1t, e]; grind⟩
    ·by_cases e2 : a = t
     ·exact ⟨i, i, 1, 0, hiR, hiR, fun j => by rw [hG1]; unfold swpG; rw [if_pos rfl, e2]; grind⟩
     ·exact ⟨a, a, 1, 0, ha, ha, fun j => by rw [hG1]; unfold swpG; rw [if_neg e, if_neg e2]; grind⟩
  obtain ⟨G2, hG2⟩ : ∃ G2, G2 = divG G1 t k := ⟨_, rfl⟩
  have g2 : ∀ r, r ≠ t → G2 r = G1 r := fun r hr => by funext j; rw [hG2]; unfold divG; rw [if_neg fun h => hr h.1]
  have g2t : ∀ j, G2 t j = G1 t j / G1 t k := fun j => by
   rw [hG2]; unfold divG
   by_cases e : k ≤ j
   ·rw [if_pos ⟨rfl, e⟩]
   ·rw [if_neg fun h => e h.2, g1z t (Nat.le_refl _) htR j (by omega)]; grind
  have s2 : Span R G1 G2 ∧ Span R G2 G1 := by
   constructor
   ·refine Span.lin fun a ha => ?_
    by_cases e : a = t
    ·exact ⟨t, t, (G1 t k)⁻¹, 0, htR, htR, fun j => by rw [e, g2t]; grind⟩
    ·exact ⟨a, a, 1, 0, ha, ha, fun j => by rw [g2 a e]; grind⟩
   ·refine Span.lin fun a ha => ?_
    by_cases e : a = t
    ·exact ⟨t, t, G1 t k, 0, htR, htR, fun j => by rw [e, g2t]; grind⟩
    ·exact ⟨a, a, 1, 0, ha, ha, fun j => by rw [g2 a e]; grind⟩
  have g2z : ∀ a, t ≤ a → a < R → ∀ j, j < k → G2 a j = 0 := fun a ha haR j hj => by
   by_cases e : a = t
   ·rw [e, g2t, g1z t (Nat.le_refl _) htR j hj]; grind
   ·rw [g2 a e]; exact g1z a ha haR j hj
  have g2k : G2 t k = 1 := by rw [g2t]; grind
  obtain ⟨G3, hG3⟩ : ∃ G3, G3 = clrG G2 t k R := ⟨_, rfl⟩
  have g3 : ∀ r, r ≤ t → G3 r = G2 r := fun r hr => by funext j; rw [hG3]; unfold clrG; rw [if_neg fun h => by omega]
  have g3t : ∀ a, t < a → a < R → ∀ j, G3 a j = G2 a j - G2 a k * G2 t j := fun a ha haR j => by
   rw [hG3]; unfold clrG
   by_cases e : k ≤ j
   ·rw [if_pos ⟨ha, haR, e⟩]
   ·rw [if_neg fun h => e h.2.2, g2z t (Nat.le_refl _) htR j (by omega)]; grind
  have s3 : Span R G2 G3 ∧ Span R G3 G2 := by
   constructor
   ·refine Span.lin fun a ha => ?_
    by_cases e : t < a
    ·exact ⟨a, t, 1, -G2 a k, ha, htR, fun j => by rw [g3t a e ha]; grind⟩
    ·exact ⟨a, a, 1, 0, ha, ha, fun j => by rw [g3 a (by omega)]; grind⟩
   ·refine Span.lin fun a ha => ?_
    by_cases e : t < a
    ·exact ⟨a, t, 1, G2 a k, ha, htR, fun j => by rw [g3t a e ha, g3 t (Nat.le_refl _)]; grind⟩
    ·exact ⟨a, a, 1, 0, ha, ha, fun j => by rw [g3 a (by omega)]; grind⟩
  dsimp only
  rw [← ht, ← hG1, ← hG2, ← hG3]
  refine ⟨⟨?_, ?_, ?_, ?_, ?_, ?_, ?_⟩, s1.1.trans (s2.1.trans s3.1), s3.2.trans (s2.2.trans s1.2)⟩
  all_goals dsimp only
  ·rw [List.length_append, List.length_singleton]; omega
  ·intro r hr
   rw [List.length_append, List.length_singleton] at hr
   by_cases e : r < pv.length
   ·rw [List.getElem_append_left e]; have := hlt r e; omega
   ·rw [List.getElem_append_right (by omega)]; simp
  ·intro r hr
   rw [List.length_append, List.length_singleton] at hr
   rw [List.getElem_append_left (by omega)]
   by_cases e : r + 1 < pv.length
   ·rw [List.getElem_append_left e]; exact hup r e
   ·rw [List.getElem_append_right (by omega)]; simp; exact hlt r (by omega)
  ·intro r hr j hj
   rw [List.length_append, List.length_singleton] at hr
   by_cases e : r < pv.length
   ·rw [List.getElem_append_left e] at hj
    rw [g3 r (by omega), g2 r (by omega), g1 r (by omega)]; exact hzl r e j hj
   ·rw [List.getElem_append_right (by omega)] at hj
    simp at hj
    obtain rfl : r = t := by omega
    rw [g3 r (Nat.le_refl _)]; exact g2z r (Nat.le_refl _) htR j hj
  ·intro r hr
   rw [List.length_append, List.length_singleton] at hr
   by_cases e : r < pv.length
   ·rw [List.getElem_append_left e, g3 r (by omega), g2 r (by omega), g1 r (by omega)]; exact hone r e
   ·rw [List.getElem_append_right (by omega)]
    obtain rfl : r = t := by omega
    rw [g3 r (Nat.le_refl _)]; simpa using g2k
  ·intro r hr a ha haR
   rw [List.length_append, List.length_singleton] at hr
   by_cases e : r < pv.length
   ·rw [List.getElem_append_left e]
    have b2 : ∀ a, r < a → a < R → G2 a pv[r] = 0 := fun a ha haR => by
     by_cases e2 : a = t
     ·rw [e2, g2t, g1b r e t (by omega) htR]; grind
     ·rw [g2 a e2]; exact g1b r e a ha haR
    by_cases e3 : t < a
    ·rw [g3t a e3 haR, b2 a ha haR, b2 t (by omega) htR]; grind
    ·rw [g3 a (by omega)]; exact b2 a ha haR
   ·rw [List.getElem_append_right (by omega)]
    obtain rfl : r = t := by omega
    have : G3 a k = 0 := by rw [g3t a ha haR, g2k]; grind
    simpa using this
  ·intro a ha haR j hj
   rw [List.length_append, List.length_singleton] at ha
   rw [g3t a (by omega) haR]
   by_cases e : j = k
   ·rw [e, g2k]; grind
   ·rw [g2z a (by omega) haR j (by omega), g2z t (Nat.le_refl _) htR j (by omega)]; grind
/-- Rows ahead of i are cleared at k with row i. -/
def clrU (G : Gd) (i k : Nat) : Gd := fun r j => if r < i ∧ k ≤ j then G r j - G r k * G i j else G r j
/-- n rows, from the last pivot on, have been used. -/
def ascE (pv : List Nat) (G : Gd) : Nat → Gd
 | 0 => G
 | n + 1 => clrU (ascE pv G n) (pv.length - 1 - n) (pv.getD (pv.length - 1 - n) 0)
/-- The reduced form, whose first c columns are the matrix's. -/
structure RE (R c : Nat) (pv : List Nat) (G : Gd) (n : Nat) : Prop where
 le : pv.length ≤ R
 lt : ∀ r (h : r < pv.length), pv[r] < c
 up : ∀ r (h : r + 1 < pv.length), pv[r] < pv[r + 1]
 zl : ∀ r (h : r < pv.length), ∀ j, j < pv[r] → G r j = 0
 one : ∀ r (h : r < pv.length), G r pv[r] = 1
 zb : ∀ r (h : r < pv.length), ∀ i, r < i → i < R → G i pv[r] = 0
 z0 : ∀ i, pv.length ≤ i → i < R → ∀ j, j < c → G i j = 0
 za : ∀ r (h : r < pv.length), pv.length ≤ r + n → ∀ i, i < r → G i pv[r] = 0
theorem up_lt {pv : List Nat} (up : ∀ r (h : r + 1 < pv.length), pv[r] < pv[r + 1]) : ∀ (a d : Nat) (h : a + d + 1 < pv.length), pv[a] < pv[a + d + 1] := by
 intro a d
 induction d with
 | zero => intro h; exact up a h
 | succ d ih => intro h; exact Nat.lt_trans (ih (by omega)) (up (a + d + 1) h)
theorem up_lt' {pv : List Nat} (up : ∀ r (h : r + 1 < pv.length), pv[r] < pv[r + 1]) {a b : Nat} (hab : a < b) (hb : b < pv.length) : pv[a] < pv[b] := by
 obtain ⟨d, rfl⟩ : ∃ d, b = a + d + 1 := ⟨b - a - 1, by omega⟩
 exact up_lt up a d hb
theorem RE.step {R c n : Nat} {pv : List Nat} {G : Gd} (h : RE R c pv G n) (hn : n < pv.length) :
  RE R c pv (clrU G (pv.length - 1 - n) (pv.getD (pv.length - 1 - n) 0)) (n + 1) ∧ Span R G (clrU G (pv.length - 1 - n) (pv.getD (pv.length - 1 - n) 0)) ∧ Span R (clrU G (pv.length - 1 - n) (pv.getD (pv.length - 1 - n) 0)) G := by
 obtain ⟨i, hi⟩ : ∃ i, i = pv.length - 1 - n := ⟨_, rfl⟩
 have hil : i < pv.length := by omega
 have hk : pv.getD i 0 = pv[i] := by rw [List.getD_eq_getElem?_getD, List.getElem?_eq_getElem hil]; rfl
 rw [← hi, hk]
 obtain ⟨H, hH⟩ : ∃ H, H = clrU G i pv[i] := ⟨_, rfl⟩
 rw [← hH]
 have hiR := h.le
 have e1 : ∀ r, i ≤ r → H r = G r := fun r hr => by funext j; rw [hH]; unfold clrU; rw [if_neg fun e => by omega]
 have e2 : ∀ r, r < i → ∀ j, H r j = G r j - G r pv[i] * G i j := fun r hr j => by
  rw [hH]; unfold clrU
  by_cases e : pv[i] ≤ j
  ·rw [if_pos ⟨hr, e⟩]
  ·rw [if_neg fun h => e h.2, h.zl i hil j (by omega)]; grind
 refine ⟨⟨h.le, h.lt, h.up, ?_, ?_, ?_, ?_, ?_⟩, ?_, ?_⟩
 ·intro r hr j hj
  by_cases e : r < i
  ·have := up_lt' h.up e hil
   rw [e2 r e, h.zl r hr j hj, h.zl i hil j (by omega)]; grind
  ·rw [e1 r (by omega)]; exact h.zl r hr j hj
 ·intro r hr
  by_cases e : r < i
  ·rw [e2 r e, h.one r hr, h.zl i hil _ (up_lt' h.up e hil)]; grind
  ·rw [e1 r (by omega)]; exact h.one r hr
 ·intro r hr a ha haR
  by_cases e : a < i
  ·rw [e2 a e, h.zb r hr a ha haR, h.zb r hr i (by omega) (by omega)]; grind
  ·rw [e1 a (by omega)]; exact h.zb r hr a ha haR
 ·intro a ha haR j hj
  rw [e1 a (by omega)]; exact h.z0 a ha haR j hj
 ·intro r hr hrn a ha
  by_cases e : a < i
  ·rw [e2 a e]
   by_cases e3 : r = i
   ·subst e3; rw [h.one r hr]; grind
   ·rw [h.za r hr (by omega) a ha, h.za r hr (by omega) i (by omega)]; grind
  ·rw [e1 a (by omega)]; exact h.za r hr (by omega) a ha
 ·refine Span.lin fun a ha => ?_
  by_cases e : a < i
  ·exact ⟨a, i, 1, -G a pv[i], ha, by omega, fun j => by rw [e2 a e]; grind⟩
  ·exact ⟨a, a, 1, 0, ha, ha, fun j => by rw [e1 a (by omega)]; grind⟩
 ·refine Span.lin fun a ha => ?_
  by_cases e : a < i
  ·exact ⟨a, i, 1, G a pv[i], ha, by omega, fun j => by rw [e2 a e, e1 i (Nat.le_refl _)]; grind⟩
  ·exact ⟨a, a, 1, 0, ha, ha, fun j => by rw [e1 a (by omega)]; grind⟩
structure Red (R c : Nat) (pv : List Nat) (G : Gd) : Prop where
 le : pv.length ≤ R
 lt : ∀ r (h : r < pv.length), pv[r] < c
 up : ∀ r (h : r + 1 < pv.length), pv[r] < pv[r + 1]
 zl : ∀ r (h : r < pv.length), ∀ j, j < pv[r] → G r j = 0
 one : ∀ r (h : r < pv.length), G r pv[r] = 1
 zz : ∀ r (h : r < pv.length), ∀ i, i < R → i ≠ r → G i pv[r] = 0
 z0 : ∀ i, pv.length ≤ i → i < R → ∀ j, j < c → G i j = 0
section
variable {R c : Nat} {pv : List Nat} {G : Gd} (h : Red R c pv G)
include h
theorem Red.inj {a b : Nat} (ha : a < pv.length) (hb : b < pv.length) (e : pv[a] = pv[b]) : a = b := by
 rcases Nat.lt_trichotomy a b with g | g | g
 ·have := up_lt' h.up g hb; omega
 ·exact g
 ·have := up_lt' h.up g ha; omega
/-- A row at a vector that is 0 where no pivot is. -/
theorem Red.row_piv {x : Nat → Rat} (hx : ∀ j, j < c → j ∉ pv → x j = 0) (i : Nat) (hi : i < pv.length) : rowX c G x i = x pv[i] := by
 unfold rowX
 rw [bs_congr (g := fun j => (if pv[i] = j then 1 else 0) * x pv[i]) fun j hj => ?_, bs_one c pv[i] (h.lt i hi) fun _ => x pv[i]]
 by_cases e : pv[i] = j
 ·rw [if_pos e, ← e, h.one i hi]
 ·rw [if_neg e]
  by_cases g : j ∈ pv
  ·obtain ⟨r, hr, rfl⟩ := List.getElem_of_mem g
   rw [h.zz r hr i (by have := h.le; omega) (fun e2 => e (by subst e2; rfl))]; grind
  ·rw [hx j hj g]; grind
theorem Red.row_zero {x : Nat → Rat} (i : Nat) (hi : pv.length ≤ i) (hR : i < R) : rowX c G x i = 0 := by
 unfold rowX
 rw [bs_congr (g := fun _ => 0) fun j hj => by rw [h.z0 i hi hR j hj]; grind]
 exact bs_zero c
end
/-- The vector of the kernel for the column k, which has no pivot. -/
def kvE (pv : List Nat) (G : Gd) (k j : Nat) : Rat := if j = k then 1 else if j ∈ pv then -G (pv.idxOf j) k else 0
theorem idx_piv {R c : Nat} {pv : List Nat} {G : Gd} (h : Red R c pv G) (i : Nat) (hi : i < pv.length) : pv.idxOf pv[i] = i := by
 have h1 : pv.idxOf pv[i] < pv.length := List.idxOf_lt_length_of_mem (List.getElem_mem hi)
 exact h.inj h1 hi (List.getElem_idxOf h1)
theorem Red.ker {R c : Nat} {pv : List Nat} {G : Gd} (h : Red R c pv G) {k : Nat} (hk : k < c) (hf : k ∉ pv) (i : Nat) (hi : i < R) : rowX c G (kvE pv G k) i = 0 := by
 rcases Nat.lt_or_ge i pv.length with g | g
 ·unfold rowX
  rw [bs_congr (g := fun j => (if k = j then 1 else 0) * G i k + (if pv[i] = j then 1 else 0) * -G i k) fun j hj => ?_, bs_add, bs_one c k hk fun _ => G i k, bs_one c pv[i] (h.lt i g) fun _ => -G i k]
  ·grind
  unfold kvE
  by_cases e : j = k
  ·subst e
   rw [if_pos rfl, if_pos rfl, if_neg (show ¬ pv[i] = j from fun e2 => hf (e2 ▸ List.getElem_mem g))]; grind
  ·rw [if_neg e, if_neg (show ¬ k = j from fun e2 => e e2.symm)]
   by_cases m : j ∈ pv
   ·rw [if_pos m]
    obtain ⟨r, hr, rfl⟩ := List.getElem_of_mem m
    rw [idx_piv h r hr]
    by_cases e3 : i = r
    ·subst e3; rw [if_pos rfl, h.one i g]; grind
    ·rw [if_neg (show ¬ pv[i] = pv[r] from fun e4 => e3 (h.inj g hr e4)), h.zz r hr i hi e3]; grind
   ·rw [if_neg m, if_neg (show ¬ pv[i] = j from fun e2 => m (e2 ▸ List.getElem_mem g))]; grind
 ·exact h.row_zero i g hi
/-- What the kernel holds is what its elements without pivots say. -/
theorem Red.ker_zero {R c : Nat} {pv : List Nat} {G : Gd} (h : Red R c pv G) {x : Nat → Rat} (hx : ∀ i, i < R → rowX c G x i = 0) (h0 : ∀ j, j < c → j ∉ pv → x j = 0) : ∀ j, j < c → x j = 0 := fun j hj => by
 by_cases m : j ∈ pv
 ·obtain ⟨r, hr, rfl⟩ := List.getElem_of_mem m
  rw [← h.row_piv h0 r hr]; exact hx r (by have := h.le; omega)
 ·exact h0 j hj m
theorem ker_iff {R c : Nat} {G H : Gd} (s1 : Span R G H) (s2 : Span R H G) (x : Nat → Rat) : (∀ i, i < R → rowX c G x i = 0) ↔ (∀ i, i < R → rowX c H x i = 0) := ⟨fun h => s1.row h, fun h => s2.row h⟩
theorem kv_far {R c : Nat} {pv : List Nat} {G : Gd} (h : Red R c pv G) {k j : Nat} (hj : k < j) : kvE pv G k j = 0 := by
 unfold kvE
 rw [if_neg (by omega)]
 by_cases m : j ∈ pv
 ·obtain ⟨r, hr, rfl⟩ := List.getElem_of_mem m
  rw [if_pos m, idx_piv h r hr, h.zl r hr k hj]; grind
 ·rw [if_neg m]
theorem Red.free_iff {R c : Nat} {pv : List Nat} {G : Gd} (h : Red R c pv G) {k : Nat} (hk : k < c) : k ∉ pv ↔ ∃ x : Nat → Rat, (∀ i, i < R → rowX c G x i = 0) ∧ x k = 1 ∧ ∀ j, k < j → j < c → x j = 0 := by
 constructor
 ·intro hf
  exact ⟨kvE pv G k, fun i hi => h.ker hk hf i hi, by unfold kvE; rw [if_pos rfl], fun j hj _ => kv_far h hj⟩
 ·rintro ⟨x, hx, h1, h2⟩ hm
  obtain ⟨r, hr, rfl⟩ := List.getElem_of_mem hm
  have := hx r (by have := h.le; omega)
  unfold rowX at this
  rw [bs_congr (g := fun j => (if pv[r] = j then 1 else 0) * x pv[r]) fun j hj => ?_, bs_one c _ hk fun _ => x pv[r], h1] at this
  ·exact absurd this (by decide)
  ·rcases Nat.lt_trichotomy j pv[r] with g | g | g
   ·rw [h.zl r hr j g, if_neg (by omega)]; grind
   ·rw [if_pos g.symm, g, h.one r hr]
   ·rw [h2 j g hj, if_neg (by omega)]; grind
theorem up_ext {p q : List Nat} (hp : ∀ r (h : r + 1 < p.length), p[r] < p[r + 1]) (hq : ∀ r (h : r + 1 < q.length), q[r] < q[r + 1]) (hm : ∀ k, k ∈ p ↔ k ∈ q) : p = q := by
 have key : ∀ {p q : List Nat}, (∀ r (h : r + 1 < p.length), p[r] < p[r + 1]) → (∀ r (h : r + 1 < q.length), q[r] < q[r + 1]) → (∀ k, k ∈ p ↔ k ∈ q) → ∀ n (h1 : n < p.length), (∀ m (hm : m < n), p[m]? = q[m]?) → p[n]? = q[n]? := by
  intro p q hp hq hm n h1 ih
  obtain ⟨b, hb, e⟩ := List.getElem_of_mem ((hm _).1 (List.getElem_mem h1))
  have hnb : n ≤ b := Nat.le_of_not_lt fun g => by
   have e2 := ih b g
   rw [List.getElem?_eq_getElem hb, List.getElem?_eq_getElem (by omega)] at e2
   have e3 : p[b] = q[b] := by simpa using e2
   have := up_lt' hp g h1
   omega
  have hnq : n < q.length := by omega
  obtain ⟨a, ha, e4⟩ := List.getElem_of_mem ((hm _).2 (List.getElem_mem hnq))
  have hna : n ≤ a := Nat.le_of_not_lt fun g => by
   have e2 := ih a g
   rw [List.getElem?_eq_getElem ha, List.getElem?_eq_getElem (by omega)] at e2
   have e3 : p[a] = q[a] := by simpa using e2
   have := up_lt' hq g hnq
   omega
  have g1 : p[n] ≤ p[a] := by
   rcases Nat.lt_or_ge n a with g | g
   ·exact Nat.le_of_lt (up_lt' hp g ha)
   ·obtain rfl : n = a := by omega
    exact Nat.le_refl _
  have g2 : q[n] ≤ q[b] := by
   rcases Nat.lt_or_ge n b with g | g
   ·exact Nat.le_of_lt (up_lt' hq g hb)
   ·obtain rfl : n = b := by omega
    exact Nat.le_refl _
  rw [List.getElem?_eq_getElem h1, List.getElem?_eq_getElem hnq]
  congr 1; omega
 apply List.ext_getElem?
 intro n
 induction n using Nat.strongRecOn with
 | ind n ih =>
  rcases Nat.lt_or_ge n p.length with g | g
  ·exact key hp hq hm n g ih
  ·rcases Nat.lt_or_ge n q.length with g2 | g2
   ·exact (key hq hp (fun k => (hm k).symm) n g2 fun m hm => (ih m hm).symm).symm
   ·rw [List.getElem?_eq_none g, List.getElem?_eq_none g2]
/-- The reduced form is one for each row space. -/
theorem Red.uniq {R c : Nat} {p q : List Nat} {G H : Gd} (h : Red R c p G) (g : Red R c q H) (s1 : Span R G H) (s2 : Span R H G) : p = q ∧ ∀ i, i < R → ∀ j, j < c → G i j = H i j := by
 have hk := ker_iff (c := c) s1 s2
 have e : p = q := up_ext h.up g.up fun k => by
  have hlt : ∀ {p : List Nat} {G : Gd}, Red R c p G → k ∈ p → k < c := fun h hm => by
   obtain ⟨r, hr, rfl⟩ := List.getElem_of_mem hm; exact h.lt r hr
  by_cases hkc : k < c
  ·have h1 := h.free_iff hkc
   have h2 := g.free_iff hkc
   have h3 : k ∉ p ↔ k ∉ q := by
    rw [h1, h2]
    constructor
    ·rintro ⟨x, a, b⟩; exact ⟨x, (hk x).1 a, b⟩
    ·rintro ⟨x, a, b⟩; exact ⟨x, (hk x).2 a, b⟩
   exact ⟨fun a => Classical.byContradiction fun b => h3.2 b a, fun a => Classical.byContradiction fun b => h3.1 b a⟩
  ·exact ⟨fun a => absurd (hlt h a) hkc, fun a => absurd (hlt g a) hkc⟩
 subst e
 refine ⟨rfl, fun i hi j hj => ?_⟩
 rcases Nat.lt_or_ge i p.length with hl | hl
 ·by_cases m : j ∈ p
  ·obtain ⟨r, hr, rfl⟩ := List.getElem_of_mem m
   by_cases e : i = r
   ·subst e; rw [h.one i hr, g.one i hr]
   ·rw [h.zz r hr i hi e, g.zz r hr i hi e]
  ·have hd : ∀ a, a < c → kvE p G j a - kvE p H j a = 0 := h.ker_zero (x := fun a => kvE p G j a - kvE p H j a) (fun a ha => by
    have h1 := h.ker hj m a ha
    have h2 := (hk _).2 (g.ker hj m) a ha
    unfold rowX at h1 h2 ⊢
    rw [bs_congr (g := fun t => G a t * kvE p G j t + (-1) * (G a t * kvE p H j t)) fun t _ => by grind, bs_add, bs_mul, h1, h2]; grind) fun a ha hm => by
    unfold kvE
    by_cases e : a = j
    ·rw [if_pos e, if_pos e]; grind
    ·rw [if_neg e, if_neg e, if_neg hm, if_neg hm]; grind
   have := hd p[i] (h.lt i hl)
   unfold kvE at this
   rw [if_neg (show ¬ p[i] = j from fun e => m (e ▸ List.getElem_mem hl)), if_pos (List.getElem_mem hl), idx_piv h i hl] at this
   rw [if_neg (show ¬ p[i] = j from fun e => m (e ▸ List.getElem_mem hl)), if_pos (List.getElem_mem hl)] at this
   grind
 ·rw [h.z0 i hl hi j hj, g.z0 i hl hi j hj]
theorem bs_cut {n m : Nat} (h : m ≤ n) (f : Nat → Rat) (h0 : ∀ i, m ≤ i → i < n → f i = 0) : bsV n f = bsV m f := by
  induction n with
  | zero => obtain rfl : m = 0 := by omega
            rfl
  | succ n ih =>
    by_cases e : m = n + 1
    · rw [e]
    · show bsV n f + f n = _
      rw [ih (by omega) fun i h1 h2 => h0 i h1 (by omega), h0 n (by omega) (by omega)]; grind
/-- A matrix is its columns with pivots times its reduced form. -/
theorem Red.fac {R c : Nat} {pv : List Nat} {G F : Gd} (h : Red R c pv F) (s : Span R F G) (i : Nat) (hi : i < R) (j : Nat) (hj : j < c) : G i j = bsV pv.length fun t => G i (pv.getD t 0) * F t j := by
 obtain ⟨y, hy⟩ := s i hi
 have hle := h.le
 have cutj : ∀ j, j < c → G i j = bsV pv.length fun t => y t * F t j := fun j hj => by
  rw [hy j]; exact bs_cut hle _ fun a h1 h2 => by rw [h.z0 a h1 h2 j hj]; grind
 rw [cutj j hj]
 refine bs_congr fun t ht => ?_
 have e : pv.getD t 0 = pv[t] := by rw [List.getD_eq_getElem?_getD, List.getElem?_eq_getElem ht]; rfl
 rw [e, cutj _ (h.lt t ht)]
 rw [bs_congr (g := fun a => (if t = a then 1 else 0) * y a) fun a ha => ?_, bs_one _ t ht fun a => y a]
 by_cases e2 : t = a
 ·subst e2; rw [if_pos rfl, h.one t ht]; grind
 ·rw [if_neg e2, h.zz t ht a (by omega) (fun e => e2 e.symm)]; grind
end Go.Proofs.YthffglapmkkohaaGreatDoor
namespace Go.Proofs.YthffglapmkkohaaGreatDoor
open Go.RowKit
attribute [local irreducible] lo hs sm s64 c64 d64 b64 mh ml pd pc qd qc val hiB str cmpI srD lz nb zl zh zs fe rowV tabV gv bsV
/-- A slice of fractions whose capacity bears its length. -/
def CQ (w : World) (v : Value) (l : List Rat) : Prop := SlQ w v l ∧ ∃ ao n c, v = .slice ao n c ∧ n ≤ c
theorem CQ.below {w w' : World} {v : Value} {l : List Rat} (h : CQ w v l) (hb : Below w.heap.size w w') : CQ w' v l := ⟨h.1.below hb, h.2⟩
theorem CQ.form {w : World} {v : Value} {l : List Rat} (h : CQ w v l) : ∃ ao c, v = .slice ao l.length c ∧ l.length ≤ c := by
 obtain ⟨h1, ao, n, c, rfl, h2⟩ := h
 obtain ⟨a2, c2, e⟩ := slq_form' h1
 obtain ⟨rfl, rfl, rfl⟩ : ao = a2 ∧ n = l.length ∧ c = c2 := by simpa using e
 exact ⟨_, _, rfl, h2⟩
theorem NV.cq {B : Nat} {l : List Rat} {v : Value} {w : World} (h : NV B l v w) : CQ w v l := by
 obtain ⟨g, rfl, -, -⟩ := id h
 exact ⟨h.slq, _, _, _, rfl, Nat.le_refl _⟩
/-- A matrix as Go holds it. -/
def MT (w : World) (v : Value) (x : Mx) : Prop := ∃ u, v = .agg #[.int .i64 (x.r : Int), .int .i64 (x.c : Int), u] ∧ CQ w u x.l
theorem MT.below {w w' : World} {v : Value} {x : Mx} (h : MT w v x) (hb : Below w.heap.size w w') : MT w' v x := by
 obtain ⟨u, h1, h2⟩ := h
 exact ⟨u, h1, h2.below hb⟩
theorem MT.keeps (v : Value) (x : Mx) : Keeps (fun w => MT w v x) := fun _ _ hb h => h.below hb
theorem CQ.keeps (v : Value) (l : List Rat) : Keeps (fun w => CQ w v l) := fun _ _ hb h => h.below hb
theorem mt_of {w : World} {ao : Option Addr} {m d : Nat} {x : Mx} {n k : Int} (h : PT w (.slice ao m d) x.l) (hd : m ≤ d) (hr : (x.r : Int) = n) (hc : (x.c : Int) = k) : MT w (.agg #[.int .i64 n, .int .i64 k, .slice ao m d]) x := by
 subst hr hc; exact ⟨_, rfl, h, _, _, _, rfl, hd⟩
theorem mt_form {w : World} {v : Value} {x : Mx} {n k : Int} (h : MT w v x) (hr : (x.r : Int) = n) (hc : (x.c : Int) = k) : ∃ ao m d, v = .agg #[.int .i64 n, .int .i64 k, .slice ao m d] ∧ PT w (.slice ao m d) x.l ∧ m ≤ d := by
 subst hr hc
 obtain ⟨u, rfl, h2⟩ := h
 obtain ⟨ao, c, rfl, h3⟩ := h2.form
 exact ⟨ao, _, c, rfl, h2.1, h3⟩
abbrev PM (x : Mx) : Value → World → Prop := fun v w => MT w v x
theorem stays_pm (x : Mx) : Stays (PM x) := fun _ _ _ hb h => h.below hb
/-- A matrix with a code. -/
abbrev MEp (x : Mx) (e : Int) : Value → World → Prop := fun v w => ∃ u, v = .tuple #[u, .int .i64 e] ∧ MT w u x
theorem stays_me (x : Mx) (e : Int) : Stays (MEp x e) := fun _ _ _ hb ⟨u, h1, h2⟩ => ⟨u, h1, h2.below hb⟩
/-- Fractions in a box, from a place on. -/
def FO (w : World) (g o : Nat) (l : List Rat) : Prop := ∀ i, i < l.length → w.cell? ⟨g, o + i * 5, none⟩ = some (.int .u64 ((zl (gv l i).num : Nat) : Int)) ∧ w.cell? ⟨g, o + i * 5 + 1, none⟩ = some (.string (zh (gv l i).num)) ∧ w.cell? ⟨g, o + i * 5 + 2, none⟩ = some (.bool (zs (gv l i).num)) ∧
 w.cell? ⟨g, o + i * 5 + 3, none⟩ = some (.int .u64 ((lo (fe (gv l i)) : Nat) : Int)) ∧ w.cell? ⟨g, o + i * 5 + 4, none⟩ = some (.string (hs (fe (gv l i))))
theorem FO.below {w w' : World} {g o : Nat} {l : List Rat} (h : FO w g o l) (hb : Below w.heap.size w w') : FO w' g o l := fun i hi => by
 obtain ⟨h0, h1, h2, h3, h4⟩ := h i hi
 exact ⟨keepsC hb h0, keepsC hb h1, keepsC hb h2, keepsC hb h3, keepsC hb h4⟩
/-- A slice of fractions at any place. -/
def RQ (w : World) (v : Value) (l : List Rat) : Prop := ∃ ao c, v = .slice ao l.length c ∧ (0 < l.length → ∃ g o, ao = some ⟨g, o, none⟩ ∧ FO w g o l)
theorem RQ.below {w w' : World} {v : Value} {l : List Rat} (h : RQ w v l) (hb : Below w.heap.size w w') : RQ w' v l := by
 obtain ⟨ao, c, h1, h2⟩ := h
 refine ⟨ao, c, h1, fun h0 => ?_⟩
 obtain ⟨g, o, h3, h4⟩ := h2 h0
 exact ⟨g, o, h3, h4.below hb⟩
theorem RQ.keeps (v : Value) (l : List Rat) : Keeps (fun w => RQ w v l) := fun _ _ hb h => h.below hb
theorem RQ.form {w : World} {v : Value} {l : List Rat} (h : RQ w v l) : ∃ ao c, v = .slice ao l.length c := by
 obtain ⟨ao, c, h1, _⟩ := h
 exact ⟨ao, c, h1⟩
theorem fs_fo {w : World} {g : Nat} {l : List Rat} (h : FS w g l) : FO w g 0 l := fun i hi => by
 simp only [Nat.zero_add]; exact fsc h i hi
theorem SlQ.rq {w : World} {v : Value} {l : List Rat} (h : SlQ w v l) : RQ w v l := by
 obtain ⟨ao, c, h1, h2⟩ := slq_len h
 refine ⟨ao, c, h1, fun h0 => ?_⟩
 obtain ⟨g, h3, h4⟩ := h2 h0
 exact ⟨g, 0, h3, fs_fo h4⟩
theorem rq_at {w : World} {ao : Option Addr} {n c : Nat} {l : List Rat} (h : RQ w (.slice ao n c) l) (h0 : 0 < l.length) : ∃ g o, ao = some ⟨g, o, none⟩ ∧ n = l.length ∧ FO w g o l := by
 obtain ⟨a2, c2, e, h2⟩ := h
 obtain ⟨rfl, rfl, rfl⟩ : ao = a2 ∧ n = l.length ∧ c = c2 := by simpa using e
 obtain ⟨g, o, h3, h4⟩ := h2 h0
 exact ⟨g, o, h3, rfl, h4⟩
/-- A row of a matrix. -/
def rowL (x : Mx) (i : Nat) : List Rat := tabV x.c fun k => ent x i k
theorem row_len (x : Mx) (i : Nat) : (rowL x i).length = x.c := tabV_len _ _
theorem gv_row {x : Mx} {i k : Nat} (h : k < x.c) : gv (rowL x i) k = ent x i k := gv_tab h
theorem row_slice {w : World} {ao : Option Addr} {n d : Nat} {x : Mx} (h : SlQ w (.slice ao n d) x.l) (hd : n ≤ d) (hl : x.l.length = x.r * x.c) (i : Nat) (hi : i < x.r) :
  ∃ a2, (∀ W, (Instr.slice 27 (.slice ao n d) (some (.int .i64 ((i * x.c : Nat) : Int))) (some (.int .i64 (((i + 1) * x.c : Nat) : Int))) (some (.int .i64 (((i + 1) * x.c : Nat) : Int)))).run Tryz.prog W = .ok (.slice a2 x.c x.c) W) ∧ RQ w (.slice a2 x.c x.c) (rowL x i) := by
 obtain ⟨a0, c0, e0, hf⟩ := slq_len h
 obtain ⟨rfl, rfl, rfl⟩ : ao = a0 ∧ n = x.l.length ∧ d = c0 := by simpa using e0
 have hle : (i + 1) * x.c ≤ x.r * x.c := Nat.mul_le_mul_right _ hi
 have hs1 : (i + 1) * x.c = i * x.c + x.c := by rw [Nat.add_mul, Nat.one_mul]
 rw [hs1]
 rw [hs1] at hle
 have h1 : i * x.c + x.c ≤ d := by omega
 obtain ⟨i0, hi0, hz1, hz2, hz3⟩ := info_parts infoFr
 have hsz : ∀ W, (sizeOf 36).run Tryz.prog W = .ok 5 W := fun W => by simp [sizeOf, typeInfo, hi0, hz2]
 generalize hP : i * x.c = p at *
 have b1 : (0 : Int) ≤ ((p + x.c : Nat) : Int) := by omega
 have b2 : ((p + x.c : Nat) : Int) ≤ (d : Int) := by omega
 have b3 : ((p + x.c : Nat) : Int) ≤ ((p + x.c : Nat) : Int) := by omega
 have b4 : (0 : Int) ≤ ((p : Nat) : Int) := by omega
 have b5 : ((p : Nat) : Int) ≤ ((p + x.c : Nat) : Int) := by omega
 have b6 : p + x.c - p = x.c := by omega
 refine ⟨if p + x.c = p then ao else ao.map (·.add (p * 5)), fun W => ?_, ?_⟩
 ·generalize hE : p + x.c = e at *
  simp [Instr.slice, Instr.sliceBounds, run_underlying Tryz.underlying27, run_sliceBound, b1, b2, b4, b5, b6, hsz, go_sem] <;> first | rfl | (intro h; omega)
 ·refine ⟨_, x.c, by rw [row_len], fun h0 => ?_⟩
  rw [row_len] at h0
  obtain ⟨g, rfl, ff⟩ := hf (by omega)
  refine ⟨g, p * 5, ?_, fun k hk => ?_⟩
  ·rw [if_neg (by omega)]; simp [Addr.add]; try omega
  ·rw [row_len] at hk
   have := fsc ff (p + k) (by rw [hl, ← hP]; exact ix_lt hi hk)
   rw [gv_row hk]
   unfold ent
   rw [hP]
   simpa only [Nat.add_mul, Nat.add_assoc] using this
end Go.Proofs.YthffglapmkkohaaGreatDoor
namespace Go.Proofs.YthffglapmkkohaaGreatDoor
open Go.RowKit
attribute [local irreducible] lo hs sm s64 c64 d64 b64 mh ml pd pc qd qc val hiB str cmpI srD lz nb zl zh zs fe rowV tabV gv bsV tabM
/-- Of the blocks that were there, only those in S have turned. -/
structure Chs (S : Nat → Prop) (w w' : World) : Prop where
 os : w'.os = w.os
 tape : w'.tape = w.tape
 output : w'.output = w.output
 size : w.heap.size ≤ w'.heap.size
 block : ∀ k, k < w.heap.size → ¬ S k → w'.heap[k]? = w.heap[k]?
theorem Chs.refl (S : Nat → Prop) (w : World) : Chs S w w := ⟨rfl, rfl, rfl, Nat.le_refl _, fun _ _ _ => rfl⟩
theorem Chs.trans {S : Nat → Prop} {a b c : World} (h : Chs S a b) (k : Chs S b c) : Chs S a c :=
 ⟨k.os.trans h.os, k.tape.trans h.tape, k.output.trans h.output, Nat.le_trans h.size k.size, fun i hi hs => (k.block i (Nat.lt_of_lt_of_le hi h.size) hs).trans (h.block i hi hs)⟩
theorem Chs.join {S T : Nat → Prop} {a b c : World} (h : Chs S a b) (k : Chs T b c) (ht : ∀ i, i < a.heap.size → T i → S i) : Chs S a c :=
 ⟨k.os.trans h.os, k.tape.trans h.tape, k.output.trans h.output, Nat.le_trans h.size k.size, fun i hi hs => (k.block i (Nat.lt_of_lt_of_le hi h.size) fun g => hs (ht i hi g)).trans (h.block i hi hs)⟩
theorem Chs.mono {S T : Nat → Prop} {w w' : World} (h : Chs S w w') (hs : ∀ i, i < w.heap.size → S i → T i) : Chs T w w' := ⟨h.os, h.tape, h.output, h.size, fun k hk hn => h.block k hk fun g => hn (hs k hk g)⟩
theorem Chs.of_below {S : Nat → Prop} {w w' : World} (h : Below w.heap.size w w') : Chs S w w' := ⟨h.os, h.tape, h.output, h.size, fun k hk _ => h.block k hk⟩
theorem Chs.of_upd {k : Nat} {w w' : World} (h : Upd k w w') : Chs (· = k) w w' := ⟨h.os, h.tape, h.output, Nat.le_of_eq h.size.symm, fun i _ hn => h.block i hn⟩
theorem Chs.below {S : Nat → Prop} {w w' : World} {B : Nat} (h : Chs S w w') (hB : B ≤ w.heap.size) (hs : ∀ i, i < B → ¬ S i) : Below B w w' := ⟨h.os, h.tape, h.output, h.size, fun k hk => h.block k (Nat.lt_of_lt_of_le hk hB) (hs k hk)⟩
theorem cell_blk {w w' : World} {k i : Nat} (e : w'.heap[k]? = w.heap[k]?) : w'.cell? ⟨k, i, none⟩ = w.cell? ⟨k, i, none⟩ := World.cell?_of_block (a := ⟨k, i, none⟩) e
theorem Hd.chs {S : Nat → Prop} {w w' : World} {k : Nat} {c : List Value} (h : Hd w k c) (hc : Chs S w w') (hs : ¬ S k) : Hd w' k c := by
 have e := hc.block k h.lt hs
 refine ⟨fun i hi => (cell_blk e).trans (h.cell i hi), fun j => ?_, Nat.lt_of_lt_of_le h.lt hc.size, by rw [e]; exact h.row⟩
 obtain ⟨arr, t, h1, -⟩ := h.row
 exact frozen_of_row _ _ j _ _ (e.trans h1)
/-- A fraction stored. -/
def put5 (W : World) (k o : Nat) (q : Rat) : World := (((((W.setCell ⟨k, o, none⟩ (.int .u64 ((zl q.num : Nat) : Int))).setCell ⟨k, o + 1, none⟩ (.string (zh q.num))).setCell ⟨k, o + 2, none⟩ (.bool (zs q.num))).setCell ⟨k, o + 3, none⟩ (.int .u64 ((lo (fe q) : Nat) : Int))).setCell ⟨k, o + 4, none⟩ (.string (hs (fe q))))
theorem put5_upd (W : World) (k o : Nat) (q : Rat) : Upd k W (put5 W k o q) := (((((Upd.refl k W).setCell _ _).setCell _ _).setCell _ _).setCell _ _).setCell _ _
end Go.Proofs.YthffglapmkkohaaGreatDoor
namespace Go.Proofs.YthffglapmkkohaaGreatDoor
open Go.RowKit
attribute [local irreducible] lo hs sm s64 c64 d64 b64 mh ml pd pc qd qc val hiB str cmpI srD lz nb zl zh zs fe rowV tabV gv bsV tabM
/-- The cells of a fraction at a place. -/
def FC (w : World) (g o : Nat) (q : Rat) : Prop := w.cell? ⟨g, o, none⟩ = some (.int .u64 ((zl q.num : Nat) : Int)) ∧ w.cell? ⟨g, o + 1, none⟩ = some (.string (zh q.num)) ∧ w.cell? ⟨g, o + 2, none⟩ = some (.bool (zs q.num)) ∧ w.cell? ⟨g, o + 3, none⟩ = some (.int .u64 ((lo (fe q) : Nat) : Int)) ∧ w.cell? ⟨g, o + 4, none⟩ = some (.string (hs (fe q)))
theorem FC.below {w w' : World} {g o : Nat} {q : Rat} (h : FC w g o q) (hb : Below w.heap.size w w') : FC w' g o q := ⟨keepsC hb h.1, keepsC hb h.2.1, keepsC hb h.2.2.1, keepsC hb h.2.2.2.1, keepsC hb h.2.2.2.2⟩
theorem FC.row {w : World} {g : Nat} {l : List Rat} (h : Hd w g (frCs l)) (i : Nat) (hi : i < l.length) : FC w g (i * 5) (gv l i) := fsc (hd_fs h) i hi
theorem FC.box {w : World} {g : Nat} {q : Rat} (h : Hd w g (frC q)) : FC w g 0 q := ⟨h.cell 0 (by rw [frC_length]; omega), h.cell 1 (by rw [frC_length]; omega), h.cell 2 (by rw [frC_length]; omega), h.cell 3 (by rw [frC_length]; omega), h.cell 4 (by rw [frC_length]; omega)⟩
theorem FC.chs {S : Nat → Prop} {w w' : World} {g o : Nat} {q : Rat} (h : FC w g o q) (hc : Chs S w w') (hg : g < w.heap.size) (hs : ¬ S g) : FC w' g o q := by
 have e := hc.block g hg hs
 exact ⟨(cell_blk e).trans h.1, (cell_blk e).trans h.2.1, (cell_blk e).trans h.2.2.1, (cell_blk e).trans h.2.2.2.1, (cell_blk e).trans h.2.2.2.2⟩
end Go.Proofs.YthffglapmkkohaaGreatDoor
namespace Go.Proofs.YthffglapmkkohaaGreatDoor
open Go.RowKit
theorem own_below9 {w w' : World} {B n sz : Nat} {e : TypeId} {v : Value} {xs : List Value} (h : w.ownsRow B e sz v n xs) (hb : Below w.heap.size w w') : w'.ownsRow B e sz v n xs := by
 refine ⟨h.1, ?_⟩
 rcases h.2 with h1 | ⟨g, cap, cur, h1, h2, h3, h4⟩
 ·exact .inl h1
 ·refine .inr ⟨g, cap, cur, h1, h2, ?_, h4⟩
  rw [hb.block g (h.lt g (by rw [h1]; rfl)).2]; exact h3
def AllRow (P : Value → Prop) (w : World) (base : Nat) (et : TypeId) (v : Value) (n : Nat) (xs : List Value) : Prop :=
 w.ownsRow base et 1 v n xs ∧ ∀ g, v.ownBlock = some g → ∀ i u, w.cell? ⟨g, i, none⟩ = some u → P u
theorem AllRow.nil {P : Value → Prop} (w : World) (base : Nat) (et : TypeId) : AllRow P w base et (.slice none 0 0) 0 [] := ⟨World.ownsRow_nil _ _ _ _, fun g h => by cases h⟩
theorem AllRow.below {P : Value → Prop} {w w' : World} {base n : Nat} {et : TypeId} {v : Value} {xs : List Value} (h : AllRow P w base et v n xs) (hb : Below w.heap.size w w') : AllRow P w' base et v n xs := by
 have hlt := fun g hg => (h.1.lt g hg).2
 exact ⟨own_below9 h.1 hb, fun g hg i u hu => h.2 g hg i u ((hb.cell (p := ⟨g, i, none⟩) (hlt g hg)).symm.trans hu)⟩
def isSl (u : Value) : Prop := ∃ a n c, u = .slice a n c
/-- Fractions don't lie in a row of slices. -/
theorem slq_apart {w w' : World} {base n : Nat} {et : TypeId} {v s : Value} {xs : List Value} {l : List Rat} (h : SlQ w v l) (hs : AllRow isSl w base et s n xs) (hg : w.grownBy w' s.ownBlock) : SlQ w' v l := by
 rcases h with h | ⟨g, c, rfl, hd⟩
 ·exact .inl h
 cases l with
 | nil => exact .inl ⟨some ⟨g, 0, none⟩, c, rfl, rfl⟩
 | cons q l =>
  have hne : some g ≠ s.ownBlock := fun e => by
   obtain ⟨a, n, c, ht⟩ := hs.2 g e.symm _ _ (hd.cell 0 (by simp)).1
   cases ht
  have hbl := hg.block g hd.lt hne
  have cc : ∀ j, w'.cell? ⟨g, j, none⟩ = w.cell? ⟨g, j, none⟩ := fun j => World.cell?_of_block (a := ⟨g, j, none⟩) hbl
  exact .inr ⟨g, c, rfl, fun i hi => by rw [cc, cc, cc, cc, cc]; exact hd.cell i hi, Nat.lt_of_lt_of_le hd.lt hg.size⟩
theorem AllRow.form {P : Value → Prop} {w : World} {b n : Nat} {et : TypeId} {v : Value} {xs : List Value} (h : AllRow P w b et v n xs) : ∃ av cv, v = .slice av n cv := by
 rcases h.1.2 with ⟨rfl, rfl⟩ | ⟨g, cap, cur, rfl, -⟩
 ·exact ⟨none, 0, rfl⟩
 ·exact ⟨_, _, rfl⟩
theorem AllRow.at {P : Value → Prop} {w : World} {b n cv : Nat} {et : TypeId} {av : Option Addr} {xs : List Value} (h : AllRow P w b et (.slice av n cv) n xs) (h0 : 0 < n) : ∃ g, av = some ⟨g, 0, none⟩ ∧ g < w.heap.size ∧ ∀ (j : Nat) (u : Value), xs[j]? = some u → w.cell? ⟨g, j, none⟩ = some u := by
 rcases h.1.2 with ⟨_, e0⟩ | ⟨g, cap, cur, e, hr⟩
 ·omega
 ·cases e
  refine ⟨g, rfl, (h.1.lt g rfl).2, fun j u hj => ?_⟩
  have := h.1.cells (g := g) rfl j u hj
  rwa [add0H] at this
theorem AllRow.len {P : Value → Prop} {w : World} {b n : Nat} {et : TypeId} {v : Value} {xs : List Value} (h : AllRow P w b et v n xs) : xs.length = n := by rw [h.1.1, Nat.mul_one]
/-- The first n cells hold U's vectors. -/
def UX (w : World) (U : Nat → List Rat) (n : Nat) (ls : List Value) : Prop := ∀ m, m < n → ∃ u, ls[m]? = some u ∧ SlQ w u (U m)
theorem UX.nil (w : World) (U : Nat → List Rat) : UX w U 0 [] := fun m h => absurd h (Nat.not_lt_zero _)
theorem UX.below {w w' : World} {U : Nat → List Rat} {n : Nat} {ls : List Value} (h : UX w U n ls) (hb : Below w.heap.size w w') : UX w' U n ls := fun m hm => by
 obtain ⟨u, h1, h2⟩ := h m hm
 exact ⟨u, h1, h2.below hb⟩
theorem UX.apart {w w' : World} {U : Nat → List Rat} {base n k : Nat} {et : TypeId} {s : Value} {xs ls : List Value} (h : UX w U n ls) (hs : AllRow isSl w base et s k xs) (hg : w.grownBy w' s.ownBlock) : UX w' U n ls := fun m hm => by
 obtain ⟨u, h1, h2⟩ := h m hm
 exact ⟨u, h1, slq_apart h2 hs hg⟩
theorem PTs.apart {w w' : World} {base k : Nat} {et : TypeId} {s : Value} {xs : List Value} {S : List (Value × List Rat)} (h : PTs w S) (hs : AllRow isSl w base et s k xs) (hg : w.grownBy w' s.ownBlock) : PTs w' S := fun p hp => slq_apart (h p hp) hs hg
end Go.Proofs.YthffglapmkkohaaGreatDoor
namespace Go.Proofs.YthffglapmkkohaaGreatDoor
open Go.RowKit
/-- The integers that a slice (anywhere) holds. -/
def IA (w : World) (v : Value) (zs : List Int) : Prop :=
 ∃ ao c, v = .slice ao zs.length c ∧ (∀ z ∈ zs, -9223372036854775808 ≤ z ∧ z < 9223372036854775808) ∧ (0 < zs.length → ∃ a : Addr, ao = some a ∧ a.block < w.heap.size ∧ ∀ (i : Nat) (h : i < zs.length), w.cell? (a.add i) = some (.int .i64 zs[i]))
/-- The slices of plain fractions that a slice holds. -/
def QVV (w : World) (v : Value) (Ls : List (List (Int × Int))) : Prop :=
 ∃ ao c, v = .slice ao Ls.length c ∧ Ls.length ≤ c ∧ (ao = none → c = 0) ∧ (0 < Ls.length → ∃ a : Addr, ao = some a ∧ a.block < w.heap.size ∧ ∀ (i : Nat) (h : i < Ls.length), ∃ bo m k, w.cell? (a.add i) = some (.slice bo m k) ∧ QV w (.slice bo m k) Ls[i])
theorem add_block (a : Addr) (i : Nat) : (a.add i).block = a.block := add_blk a i
theorem IA.below {w w' : World} {v : Value} {zs : List Int} (h : IA w v zs) (hb : Below w.heap.size w w') : IA w' v zs := by
 obtain ⟨ao, c, h1, hz, h2⟩ := h
 refine ⟨ao, c, h1, hz, fun h0 => ?_⟩
 obtain ⟨a, h3, h4, h5⟩ := h2 h0
 exact ⟨a, h3, Nat.lt_of_lt_of_le h4 hb.size, fun i hi => (hb.cell (p := a.add i) (by rw [add_block]; exact h4)).trans (h5 i hi)⟩
theorem QVV.below {w w' : World} {v : Value} {Ls : List (List (Int × Int))} (h : QVV w v Ls) (hb : Below w.heap.size w w') : QVV w' v Ls := by
 obtain ⟨ao, c, h1, hl, hn, h2⟩ := h
 refine ⟨ao, c, h1, hl, hn, fun h0 => ?_⟩
 obtain ⟨a, h3, h4, h5⟩ := h2 h0
 refine ⟨a, h3, Nat.lt_of_lt_of_le h4 hb.size, fun i hi => ?_⟩
 obtain ⟨bo, m, k, h6, h7⟩ := h5 i hi
 exact ⟨bo, m, k, (hb.cell (p := a.add i) (by rw [add_block]; exact h4)).trans h6, h7.below hb⟩
theorem IA.keeps (v : Value) (zs : List Int) : Keeps fun w => IA w v zs := fun _ _ hb h => h.below hb
theorem QVV.keeps (v : Value) (Ls : List (List (Int × Int))) : Keeps fun w => QVV w v Ls := fun _ _ hb h => h.below hb
/-- The k-th slice of plain fractions. -/
theorem QVV.at {w : World} {ao : Option Addr} {m c : Nat} {Ls : List (List (Int × Int))} (h : QVV w (.slice ao m c) Ls) (i : Nat) (hi : i < m) : ∃ a : Addr, ao = some a ∧ ∃ bo mi k, w.cell? (a.add i) = some (.slice bo mi k) ∧ QV w (.slice bo mi k) (Ls.getD i []) := by
 obtain ⟨ao', c', e, _, _, h2⟩ := h
 obtain ⟨rfl, rfl, rfl⟩ : ao = ao' ∧ m = Ls.length ∧ c = c' := by simpa using e
 obtain ⟨a, rfl, _, h5⟩ := h2 (by omega)
 obtain ⟨bo, mi, k, h6, h7⟩ := h5 i hi
 refine ⟨a, rfl, bo, mi, k, h6, ?_⟩
 rw [List.getD_eq_getElem?_getD, List.getElem?_eq_getElem hi]
 exact h7
theorem IA.at {w : World} {ao : Option Addr} {m c : Nat} {zs : List Int} (h : IA w (.slice ao m c) zs) (i : Nat) (hi : i < m) : ∃ a : Addr, ao = some a ∧ w.cell? (a.add i) = some (.int .i64 (zs.getD i 0)) := by
 obtain ⟨ao', c', e, _, h2⟩ := h
 obtain ⟨rfl, rfl, rfl⟩ : ao = ao' ∧ m = zs.length ∧ c = c' := by simpa using e
 obtain ⟨a, rfl, _, h5⟩ := h2 (by omega)
 refine ⟨a, rfl, ?_⟩
 rw [List.getD_eq_getElem?_getD, List.getElem?_eq_getElem hi]
 exact h5 i hi
end Go.Proofs.YthffglapmkkohaaGreatDoor
namespace Go.Proofs.YthffglapmkkohaaGreatDoor
open Go.RowKit
attribute [local irreducible] lo hs sm s64 c64 d64 b64 mh ml pd pc qd qc val hiB str cmpI srD lz nb zl zh zs fe rowV tabV gv bsV
theorem PTs.putS {W W' : World} {S : List (Value × List Rat)} (h : PTs W S) {k : Nat} (hu : Upd k W W') (hs : ∀ p ∈ S, ∀ g, p.1.ownBlock = some g → g ≠ k) : PTs W' S := fun p hp => by
 rcases h p hp with h1 | ⟨g, c, h1, h2⟩
 ·exact .inl h1
 ·have hbl := hu.block g (hs p hp g (by rw [h1]; rfl))
  have cc : ∀ j, W'.cell? ⟨g, j, none⟩ = W.cell? ⟨g, j, none⟩ := fun j => World.cell?_of_block (a := ⟨g, j, none⟩) hbl
  exact .inr ⟨g, c, h1, fun i hi => by rw [cc, cc, cc, cc, cc]; exact h2.cell i hi, by rw [hu.size]; exact h2.lt⟩
end Go.Proofs.YthffglapmkkohaaGreatDoor
namespace Go.Proofs.YthffglapmkkohaaGreatDoor
open Go.RowKit
theorem own_grown {w w' : World} {base sz n : Nat} {et : TypeId} {v : Value} {xs : List Value} {s : Option Nat} (h : w.ownsRow base et sz v n xs) (hg : w.grownBy w' s) (hne : ∀ g, v.ownBlock = some g → s ≠ some g) : w'.ownsRow base et sz v n xs := by
 refine ⟨h.1, ?_⟩
 rcases h.2 with h0 | ⟨g, cap, cur, rfl, hb, hc, hr⟩
 ·exact .inl h0
 ·refine .inr ⟨g, cap, cur, rfl, hb, ?_, hr⟩
  rw [hg.block g (h.lt g rfl).2 fun e => hne g rfl e.symm]; exact hc
theorem AllRow.grown {P : Value → Prop} {w w' : World} {base n : Nat} {et : TypeId} {v : Value} {xs : List Value} {s : Option Nat} (h : AllRow P w base et v n xs) (hg : w.grownBy w' s) (hne : ∀ g, v.ownBlock = some g → s ≠ some g) : AllRow P w' base et v n xs :=
 ⟨own_grown h.1 hg hne, fun g hv i u hu => h.2 g hv i u (by
  rw [← World.cell?_of_block (a := ⟨g, i, none⟩) (hg.block g (h.1.lt g hv).2 fun e => hne g hv e.symm)]; exact hu)⟩
theorem own_upd12 {w w' : World} {k base sz n : Nat} {et : TypeId} {v : Value} {xs : List Value} (h : w.ownsRow base et sz v n xs) (hu : Upd k w w') (hk : k < base) : w'.ownsRow base et sz v n xs := by
 refine ⟨h.1, ?_⟩
 rcases h.2 with h0 | ⟨g, cap, cur, rfl, hb, hc, hr⟩
 ·exact .inl h0
 ·refine .inr ⟨g, cap, cur, rfl, hb, ?_, hr⟩
  rw [hu.block g (by omega)]; exact hc
theorem AllRow.upd12 {P : Value → Prop} {w w' : World} {base n k : Nat} {et : TypeId} {v : Value} {xs : List Value} (h : AllRow P w base et v n xs) (hu : Upd k w w') (hk : k < base) : AllRow P w' base et v n xs :=
 ⟨own_upd12 h.1 hu hk, fun g hg i u hc => h.2 g hg i u (by
  have := (h.1.lt g hg).1
  rw [← World.cell?_of_block (a := ⟨g, i, none⟩) (hu.block g (by omega))]; exact hc)⟩
/-- A vector that lies apart from a row. -/
def XF (B : Nat) (W : World) (vw u : Value) (l : List Rat) : Prop := SlQ W u l ∧ ∀ g, u.ownBlock = some g → B ≤ g ∧ g < W.heap.size ∧ vw.ownBlock ≠ some g
theorem XF.below {B : Nat} {W W' : World} {vw u : Value} {l : List Rat} (h : XF B W vw u l) (hb : Below W.heap.size W W') : XF B W' vw u l :=
 ⟨h.1.below hb, fun g hg => ⟨(h.2 g hg).1, Nat.lt_of_lt_of_le (h.2 g hg).2.1 hb.size, (h.2 g hg).2.2⟩⟩
theorem XF.upd {B k : Nat} {W W' : World} {vw u : Value} {l : List Rat} (h : XF B W vw u l) (hu : Upd k W W') (hk : k < B) : XF B W' vw u l :=
 ⟨(PTs.putS (S := [(u, l)]) (fun p hp => by rw [List.mem_singleton.1 hp]; exact h.1) hu (fun p hp g hg => by rw [List.mem_singleton.1 hp] at hg; have := (h.2 g hg).1; omega)) _ mZ, fun g hg => ⟨(h.2 g hg).1, by rw [hu.size]; exact (h.2 g hg).2.1, (h.2 g hg).2.2⟩⟩
structure SI (B : Nat) (W : World) (va vw : Value) (i j : Nat) (ls : List Value) (U : Nat → List Rat) (Zl : List Rat) : Prop where
 all : AllRow isSl W B 28 va i ls
 wt : OwnF W B vw j Zl
 ux : ∀ m, m < i → ∃ u, ls[m]? = some u ∧ XF B W vw u (U m)
 nl : j = 0 → vw.ownBlock = none
 bs : B ≤ W.heap.size
variable {B : Nat} {W W' : World} {va vw u : Value} {i j : Nat} {ls : List Value} {U : Nat → List Rat} {Zl : List Rat}
theorem SI.nil (W : World) (U : Nat → List Rat) (hB : B ≤ W.heap.size) : SI B W (.slice none 0 0) (.slice none 0 0) 0 0 [] U [] :=
 ⟨AllRow.nil _ _ _, World.ownsRow_nil _ _ _ _, fun m h => absurd h (Nat.not_lt_zero _), fun _ => rfl, hB⟩
theorem SI.below (h : SI B W va vw i j ls U Zl) (hb : Below W.heap.size W W') : SI B W' va vw i j ls U Zl :=
 ⟨h.all.below hb, own_below h.wt hb, fun m hm => by obtain ⟨u, h1, h2⟩ := h.ux m hm; exact ⟨u, h1, h2.below hb⟩, h.nl, Nat.le_trans h.bs hb.size⟩
theorem SI.upd {k : Nat} (h : SI B W va vw i j ls U Zl) (hu : Upd k W W') (hk : k < B) : SI B W' va vw i j ls U Zl :=
 ⟨h.all.upd12 hu hk, own_upd12 h.wt hu hk, fun m hm => by obtain ⟨u, h1, h2⟩ := h.ux m hm; exact ⟨u, h1, h2.upd hu hk⟩, h.nl, by rw [hu.size]; exact h.bs⟩
theorem XF.all (h : SI B W va vw i j ls U Zl) {l : List Rat} (hx : XF B W vw u l) (hg : W.grownBy W' va.ownBlock) : XF B W' vw u l :=
 ⟨slq_apart hx.1 h.all hg, fun g hu => ⟨(hx.2 g hu).1, Nat.lt_of_lt_of_le (hx.2 g hu).2.1 hg.size, (hx.2 g hu).2.2⟩⟩
theorem OwnF.slq {w : World} {B n : Nat} {v : Value} {l : List Rat} (h : OwnF w B v n l) : SlQ w v l := by
 have hl := h.1
 rw [frCs_length] at hl
 rcases h.2 with ⟨rfl, h0⟩ | ⟨g, cap, cur, rfl, hr⟩
 ·exact .inl ⟨none, 0, rfl, List.eq_nil_of_length_eq_zero (by omega)⟩
 ·have e : n = l.length := by omega
  subst e
  exact .inr ⟨g, cap, rfl, own_fs h rfl⟩
theorem own_form12 {w : World} {base sz n : Nat} {et : TypeId} {v : Value} {xs : List Value} (h : w.ownsRow base et sz v n xs) : ∃ a c, v = .slice a n c := by
 rcases h.2 with ⟨rfl, rfl⟩ | ⟨g, cap, cur, rfl, -⟩
 ·exact ⟨none, 0, rfl⟩
 ·exact ⟨_, _, rfl⟩
theorem SI.last (h : SI B W va vw (i + 1) j (ls ++ [u]) U Zl) (hl : ls.length = i) : XF B W vw u (U i) := by
 obtain ⟨v, h1, h2⟩ := h.ux i (Nat.lt_succ_self _)
 rw [List.getElem?_append_right (by omega), hl, Nat.sub_self] at h1
 simp only [List.getElem?_cons_zero, Option.some.injEq] at h1
 rw [h1]; exact h2
end Go.Proofs.YthffglapmkkohaaGreatDoor
namespace Go.Proofs.YthffglapmkkohaaGreatDoor
open Go.RowKit
attribute [local irreducible] lo hs sm s64 c64 d64 b64 mh ml pd pc qd qc val hiB str cmpI srD lz nb zl zh zs fe rowV tabV gv bsV tabM
def rwE (n : Nat) (bk : Nat → Nat) (R : Nat) : List Value := (List.range R).map fun i => .slice (some ⟨bk i, 0, none⟩) n n
def pvE (pv : List Nat) : List Value := pv.map fun (k : Nat) => .int .i64 (k : Int)
theorem rw_at {n R i : Nat} {bk : Nat → Nat} (h : i < R) : (rwE n bk R)[i]? = some (.slice (some ⟨bk i, 0, none⟩) n n) := by
 unfold rwE
 rw [List.getElem?_map, List.getElem?_range h]; rfl
theorem rw_len (n R : Nat) (bk : Nat → Nat) : (rwE n bk R).length = R := by unfold rwE; rw [List.length_map, List.length_range]
theorem pv_at {pv : List Nat} {i : Nat} (h : i < pv.length) : (pvE pv)[i]? = some (.int .i64 ((pv[i] : Nat) : Int)) := by
 unfold pvE
 rw [List.getElem?_map, List.getElem?_eq_getElem h]; rfl
/-- The grid g: rows, pivots, factor. -/
structure GR (B : Nat) (W : World) (g : Nat) (ru pu : Value) (R n : Nat) (bk : Nat → Nat) (G : Gd) (pv : List Nat) (f : Rat) : Prop where
 hg : Hd W g (ru :: pu :: frC f)
 hr : W.ownsRow B 28 1 ru R (rwE n bk R)
 hp : W.ownsRow B 3 1 pu pv.length (pvE pv)
 hB : ∀ i, i < R → B ≤ bk i ∧ Hd W (bk i) (frCs (tabV n (G i)))
 inj : ∀ i j, i < R → j < R → bk i = bk j → i = j
 gB : B ≤ g
 bs : B ≤ W.heap.size
 ng : ∀ i, i < R → bk i ≠ g
 nr : ∀ i, i < R → ru.ownBlock ≠ some (bk i)
 np : ∀ i, i < R → pu.ownBlock ≠ some (bk i)
 rg : ru.ownBlock ≠ some g
 pg : pu.ownBlock ≠ some g
 rp : ∀ z, ru.ownBlock = some z → pu.ownBlock ≠ some z
theorem own_chs {S : Nat → Prop} {w w' : World} {base sz n : Nat} {et : TypeId} {v : Value} {xs : List Value} (h : w.ownsRow base et sz v n xs) (hc : Chs S w w') (hs : ∀ z, v.ownBlock = some z → ¬ S z) : w'.ownsRow base et sz v n xs := by
 have hlt := h.lt
 refine ⟨h.1, ?_⟩
 rcases h.2 with h0 | ⟨g, cap, cur, rfl, hb, hcc, hr⟩
 ·exact .inl h0
 ·refine .inr ⟨g, cap, cur, rfl, hb, ?_, hr⟩
  rw [hc.block g (hlt g rfl).2 (hs g rfl)]; exact hcc
theorem Chs.of_grown {w w' : World} {s : Option Nat} (h : w.grownBy w' s) : Chs (fun k => some k = s) w w' := ⟨h.os, h.tape, h.output, h.size, fun k hk hn => h.block k hk hn⟩
section
variable {B : Nat} {W W' : World} {g R n : Nat} {ru pu : Value} {bk : Nat → Nat} {G : Gd} {pv : List Nat} {f : Rat}
theorem GR.below (h : GR B W g ru pu R n bk G pv f) (hb : Below W.heap.size W W') : GR B W' g ru pu R n bk G pv f :=
 ⟨h.hg.below hb, own_below9 h.hr hb, own_below9 h.hp hb, fun i hi => ⟨(h.hB i hi).1, (h.hB i hi).2.below hb⟩, h.inj, h.gB, Nat.le_trans h.bs hb.size, h.ng, h.nr, h.np, h.rg, h.pg, h.rp⟩
/-- A row has been written. -/
theorem GR.row (h : GR B W g ru pu R n bk G pv f) (i : Nat) (hi : i < R) (A : Nat → Rat) (hc : Chs (· = bk i) W W') (hd : Hd W' (bk i) (frCs (tabV n A))) : GR B W' g ru pu R n bk (fun a => if a = i then A else G a) pv f :=
 ⟨h.hg.chs hc fun e => h.ng i hi e.symm, own_chs h.hr hc fun z hz e => h.nr i hi (e ▸ hz), own_chs h.hp hc fun z hz e => h.np i hi (e ▸ hz), fun a ha => ⟨(h.hB a ha).1, by
  by_cases e : a = i
  ·subst e; rw [if_pos rfl]; exact hd
  ·rw [if_neg e]; exact (h.hB a ha).2.chs hc fun e2 => e (h.inj a i ha hi e2)⟩, h.inj, h.gB, Nat.le_trans h.bs hc.size, h.ng, h.nr, h.np, h.rg, h.pg, h.rp⟩
/-- The factor has been written. -/
theorem GR.fac (h : GR B W g ru pu R n bk G pv f) (q : Rat) (hu : Upd g W W') (hd : Hd W' g (ru :: pu :: frC q)) : GR B W' g ru pu R n bk G pv q :=
 have hc := Chs.of_upd hu
 ⟨hd, own_chs h.hr hc fun z hz e => h.rg (e ▸ hz), own_chs h.hp hc fun z hz e => h.pg (e ▸ hz), fun a ha => ⟨(h.hB a ha).1, (h.hB a ha).2.chs hc (h.ng a ha)⟩, h.inj, h.gB, Nat.le_trans h.bs hc.size, h.ng, h.nr, h.np, h.rg, h.pg, h.rp⟩
theorem GR.congr {H : Gd} (h : GR B W g ru pu R n bk G pv f) (e : ∀ i, i < R → ∀ j, j < n → G i j = H i j) : GR B W g ru pu R n bk H pv f :=
 ⟨h.hg, h.hr, h.hp, fun i hi => ⟨(h.hB i hi).1, by rw [← tab_ext (e i hi)]; exact (h.hB i hi).2⟩, h.inj, h.gB, h.bs, h.ng, h.nr, h.np, h.rg, h.pg, h.rp⟩
/-- The cells of the grid itself. -/
theorem GR.cells (h : GR B W g ru pu R n bk G pv f) : W.cell? ⟨g, 0, none⟩ = some ru ∧ W.cell? ⟨g, 1, none⟩ = some pu ∧ FC W g 2 f := by
 have hl : (ru :: pu :: frC f).length = 7 := by simp [frC_length]
 exact ⟨h.hg.cell 0 (by omega), h.hg.cell 1 (by omega), h.hg.cell 2 (by omega), h.hg.cell 3 (by omega), h.hg.cell 4 (by omega), h.hg.cell 5 (by omega), h.hg.cell 6 (by omega)⟩
theorem fac_hd {q : Rat} (h : Hd W g (ru :: pu :: frC f)) : Hd (put5 W g 2 q) g (ru :: pu :: frC q) := setAll_hdn (frC q) 2 W (ru :: pu :: frC f) (by simp [frC_length]) h
theorem GR.putF (h : GR B W g ru pu R n bk G pv f) (q : Rat) : GR B (put5 W g 2 q) g ru pu R n bk G pv q := h.fac q (put5_upd W g 2 q) (fac_hd h.hg)
/-- Two rows have been exchanged. -/
def swpB (bk : Nat → Nat) (a b : Nat) : Nat → Nat := fun i => if i = a then bk b else if i = b then bk a else bk i
theorem rw_set {i j : Nat} (hi : i < R) (hj : j < R) : ((rwE n bk R).set i (.slice (some ⟨bk j, 0, none⟩) n n)).set j (.slice (some ⟨bk i, 0, none⟩) n n) = rwE n (swpB bk i j) R := by
 refine List.ext_getElem? fun a => ?_
 rw [List.getElem?_set, List.length_set, rw_len, List.getElem?_set, rw_len]
 rcases Nat.lt_or_ge a R with h | h
 ·rw [rw_at h, rw_at h]
  unfold swpB
  by_cases e1 : j = a
  ·subst e1
   rw [if_pos rfl, if_pos hj]
   by_cases e2 : j = i
   ·subst e2; rw [if_pos rfl]
   ·rw [if_neg e2, if_pos rfl]
  ·rw [if_neg e1]
   by_cases e2 : i = a
   ·subst e2; rw [if_pos rfl, if_pos hi, if_pos rfl]
   ·rw [if_neg e2, if_neg (show ¬ a = i from fun e => e2 e.symm), if_neg (show ¬ a = j from fun e => e1 e.symm)]
 ·rw [if_neg (by omega), if_neg (by omega), List.getElem?_eq_none (by rw [rw_len]; exact h), List.getElem?_eq_none (by rw [rw_len]; exact h)]
theorem swpB_mem {i j a : Nat} (hi : i < R) (hj : j < R) (ha : a < R) : ∃ b, b < R ∧ swpB bk i j a = bk b ∧ swpG G i j a = G b ∧ (a = i ∧ b = j ∨ a = j ∧ b = i ∨ a ≠ i ∧ a ≠ j ∧ b = a) := by
 unfold swpB swpG
 by_cases e1 : a = i
 ·exact ⟨j, hj, by rw [if_pos e1], by rw [if_pos e1], .inl ⟨e1, rfl⟩⟩
 ·by_cases e2 : a = j
  ·exact ⟨i, hi, by rw [if_neg e1, if_pos e2], by rw [if_neg e1, if_pos e2], .inr (.inl ⟨e2, rfl⟩)⟩
  ·exact ⟨a, ha, by rw [if_neg e1, if_neg e2], by rw [if_neg e1, if_neg e2], .inr (.inr ⟨e1, e2, rfl⟩)⟩
theorem GR.swap {z c : Nat} (h : GR B W g (.slice (some ⟨z, 0, none⟩) R c) pu R n bk G pv f) {i j : Nat} (hi : i < R) (hj : j < R) :
  GR B ((W.setCell ⟨z, i, none⟩ (.slice (some ⟨bk j, 0, none⟩) n n)).setCell ⟨z, j, none⟩ (.slice (some ⟨bk i, 0, none⟩) n n)) g (.slice (some ⟨z, 0, none⟩) R c) pu R n (swpB bk i j) (swpG G i j) pv f ∧ Upd z W ((W.setCell ⟨z, i, none⟩ (.slice (some ⟨bk j, 0, none⟩) n n)).setCell ⟨z, j, none⟩ (.slice (some ⟨bk i, 0, none⟩) n n)) := by
 have hu : Upd z W ((W.setCell ⟨z, i, none⟩ (.slice (some ⟨bk j, 0, none⟩) n n)).setCell ⟨z, j, none⟩ (.slice (some ⟨bk i, 0, none⟩) n n)) := ((Upd.refl z W).setCell _ _).setCell _ _
 have hc := Chs.of_upd hu
 have h1 := (h.hr.stored i (.slice (some ⟨bk j, 0, none⟩) n n)).1
 have h2 := (World.ownsRow.stored h1 j (.slice (some ⟨bk i, 0, none⟩) n n)).1
 rw [rw_set hi hj] at h2
 have hz : ∀ a, a < R → bk a ≠ z := fun a ha e => h.nr a ha (by rw [e]; rfl)
 refine ⟨⟨h.hg.chs hc fun e => h.rg (by rw [e]; rfl), h2, own_chs h.hp hc fun y hy e => h.rp z rfl (e ▸ hy), fun a ha => ?_, fun a b ha hb e => ?_, h.gB, by rw [hu.size]; exact h.bs, fun a ha => ?_, fun a ha => ?_, fun a ha => ?_, h.rg, h.pg, h.rp⟩, hu⟩
 ·obtain ⟨b, hb, e1, e2, -⟩ := swpB_mem (bk := bk) (G := G) hi hj ha
  rw [e1, e2]
  exact ⟨(h.hB b hb).1, (h.hB b hb).2.chs hc (hz b hb)⟩
 ·obtain ⟨a1, ha1, e1, -, c1⟩ := swpB_mem (bk := bk) (G := G) hi hj ha
  obtain ⟨b1, hb1, e2, -, c2⟩ := swpB_mem (bk := bk) (G := G) hi hj hb
  rw [e1, e2] at e
  have := h.inj a1 b1 ha1 hb1 e
  omega
 ·obtain ⟨b, hb, e1, -⟩ := swpB_mem (bk := bk) (G := G) hi hj ha
  rw [e1]; exact h.ng b hb
 ·obtain ⟨b, hb, e1, -⟩ := swpB_mem (bk := bk) (G := G) hi hj ha
  rw [e1]; exact h.nr b hb
 ·obtain ⟨b, hb, e1, -⟩ := swpB_mem (bk := bk) (G := G) hi hj ha
  rw [e1]; exact h.np b hb
end
end Go.Proofs.YthffglapmkkohaaGreatDoor
namespace Go.Proofs.YthffglapmkkohaaGreatDoor
open Go.RowKit
attribute [local irreducible] lo hs sm s64 c64 d64 b64 mh ml pd pc qd qc val hiB str cmpI srD lz nb zl zh zs fe rowV tabV gv bsV tabM
theorem infoRw : (Tryz.prog.info? 3).map (fun i => (i.zero, i.size, i.bytes)) = some (some (.int .i64 0), 1, 8) := by kernel_rfl
theorem undRw : Tryz.prog.underlying 24 = some (.slice 3) := by kernel_rfl
/-- One integer more in a row of integers. -/
theorem wp_appendI {w : World} {ops : Array Oper} {rest : List Oper} {o : Oper} {a : Act} {Q : Exit → Act → World → Prop} (hgd : o.guard = none) (s x : Operand)
  (ho : o.op = .call { callee := .builtin .append, args := #[s, x], argTypes := #[24, 24] }) (B : Nat) (v : Value) (n : Nat) (xs : List Value) (hs : a.eval s = v) (hown : w.ownsRow B 3 1 v n xs) (ad : Addr) (t : Int) (c : Nat) (hx : a.eval x = .slice (some ad) 1 c) (hH : w.cell? ad = some (.int .i64 t))
  (hn : n ≤ 100000) (hbase : B ≤ w.heap.size)
  (h : ∀ v' w', w'.ownsRow B 3 1 v' (n + 1) (xs ++ [.int .i64 t]) → w.grownBy w' v.ownBlock → (v'.ownBlock = v.ownBlock ∨ v'.ownBlock = some w.heap.size) → wpList Tryz.prog ops Q rest (a.put o.dst v') w') : wpList Tryz.prog ops Q (o :: rest) a w := by
 obtain ⟨i0, hi, hz1, hz2, hz3⟩ := info_parts infoRw
 refine wpList_append_own_at w hgd s x 24 ho B 3 i0 _ 1 8 undRw hi hz1 hz2 hz3 rfl (by decide) v n xs hs hown ad 1 c [.int .i64 t] hx rfl (fun j u hj => ?_) (by simp [Value.oneCell']) (by unfold maxLen; omega) (by omega) hbase fun v' w' h1 h2 _ h4 => h v' w' h1 h2 h4
 match j, hj with
 | 0, hj =>
  simp at hj
  subst hj
  rw [show ad.add 0 = ad from by unfold Addr.add; simp]
  exact hH
section
variable {B : Nat} {W W' : World} {g R n : Nat} {ru pu : Value} {bk : Nat → Nat} {G : Gd} {pv : List Nat} {f : Rat}
end
end Go.Proofs.YthffglapmkkohaaGreatDoor
namespace Go.Proofs.YthffglapmkkohaaGreatDoor
open Go.RowKit
attribute [local irreducible] lo hs sm s64 c64 d64 b64 mh ml pd pc qd qc val hiB str cmpI srD lz nb zl zh zs fe rowV tabV gv bsV
theorem mdot1_w (i na nb ca cb ga gb oa ob b1 b2 : Nat) (x y r : Rat) (HC : ∀ w, Calls Tryz.prog 15 #[fracV x, fracV y] w fun xe w' => xe = .returned (fracV r) ∧ Below w.heap.size w w') (hi : i < na) (hj : i < nb) (w : World) (c0 : w.cell? ⟨b1, 0, none⟩ = some (.slice (some ⟨ga, oa, none⟩) na ca)) (c1 : w.cell? ⟨b2, 0, none⟩ = some (.slice (some ⟨gb, ob, none⟩) nb cb)) (c2 : w.cell? ⟨ga, oa + i * 5, none⟩ = some (.int .u64 ((zl x.num : Nat) : Int))) (c3 : w.cell? ⟨ga, oa + i * 5 + 1, none⟩ = some (.string (zh x.num))) (c4 : w.cell? ⟨ga, oa + i * 5 + 2, none⟩ = some (.bool (zs x.num))) (c5 : w.cell? ⟨ga, oa + i * 5 + 3, none⟩ = some (.int .u64 ((lo (fe x) : Nat) : Int))) (c6 : w.cell? ⟨ga, oa + i * 5 + 4, none⟩ = some (.string (hs (fe x)))) (c7 : w.cell? ⟨gb, ob + i * 5, none⟩ = some (.int .u64 ((zl y.num : Nat) : Int))) (c8 : w.cell? ⟨gb, ob + i * 5 + 1, none⟩ = some (.string (zh y.num))) (c9 : w.cell? ⟨gb, ob + i * 5 + 2, none⟩ = some (.bool (zs y.num))) (c10 : w.cell? ⟨gb, ob + i * 5 + 3, none⟩ = some (.int .u64 ((lo (fe y) : Nat) : Int))) (c11 : w.cell? ⟨gb, ob + i * 5 + 4, none⟩ = some (.string (hs (fe y)))) :
  Calls Tryz.prog 151 #[.int .i64 (i : Int), .pointer (some ⟨b1, 0, none⟩), .pointer (some ⟨b2, 0, none⟩)] w fun xe w' => xe = .returned (fracV r) ∧ Below w.heap.size w w' := by
 replace HC := Lib.hid HC
 have k0 : (0 : Int) ≤ (i : Int) := Int.natCast_nonneg _
 have k1 : (i : Int) < (na : Int) := by omega
 have k2 : (i : Int) < (nb : Int) := by omega
 clear hi hj
 have hL0 : GL w w [] := GL.start w
 have hb0 : Below w.heap.size w (w.alloc (.cells #[.int .u64 0, .string ⟨#[]⟩, .bool false, .int .u64 0, .string ⟨#[]⟩] 36)) := (Below.refl _ _).alloc (Nat.le_refl _) _
 replace c0 := keepsC hb0 c0
 replace c1 := keepsC hb0 c1
 replace c2 := keepsC hb0 c2
 replace c3 := keepsC hb0 c3
 replace c4 := keepsC hb0 c4
 replace c5 := keepsC hb0 c5
 replace c6 := keepsC hb0 c6
 replace c7 := keepsC hb0 c7
 replace c8 := keepsC hb0 c8
 replace c9 := keepsC hb0 c9
 replace c10 := keepsC hb0 c10
 replace c11 := keepsC hb0 c11
 replace hL0 := hL0.new rfl [.int .u64 0, .string ⟨#[]⟩, .bool false, .int .u64 0, .string ⟨#[]⟩] 36
 generalize hweq : w.alloc (.cells #[.int .u64 0, .string ⟨#[]⟩, .bool false, .int .u64 0, .string ⟨#[]⟩] 36) = x1 at hL0 c0 c1 c2 c3 c4 c5 c6 c7 c8 c9 c10 c11
 clear hb0
 replace c0 := Lib.hid c0
 replace c1 := Lib.hid c1
 replace c2 := Lib.hid c2
 replace c3 := Lib.hid c3
 replace c4 := Lib.hid c4
 replace c5 := Lib.hid c5
 replace c6 := Lib.hid c6
 replace c7 := Lib.hid c7
 replace c8 := Lib.hid c8
 replace c9 := Lib.hid c9
 replace c10 := Lib.hid c10
 replace c11 := Lib.hid c11
 go_enter Tryz.func151, Tryz.ntmps151
 go_upto_region 1 with fail
 clear hweq
 obtain ⟨α, iα, F, hF1, hF2⟩ := cls x1
 have hq0 : ∀ yz, (F yz).cell? ⟨b1, 0, none⟩ = some (.slice (some ⟨ga, oa, none⟩) na ca) := fun yz => keepsC (hF1 yz) c0.out
 have hq1 : ∀ yz, (F yz).cell? ⟨b2, 0, none⟩ = some (.slice (some ⟨gb, ob, none⟩) nb cb) := fun yz => keepsC (hF1 yz) c1.out
 have hq2 : ∀ yz, (F yz).cell? ⟨ga, oa + i * 5, none⟩ = some (.int .u64 ((zl x.num : Nat) : Int)) := fun yz => keepsC (hF1 yz) c2.out
 have hq3 : ∀ yz, (F yz).cell? ⟨ga, oa + i * 5 + 1, none⟩ = some (.string (zh x.num)) := fun yz => keepsC (hF1 yz) c3.out
 have hq4 : ∀ yz, (F yz).cell? ⟨ga, oa + i * 5 + 2, none⟩ = some (.bool (zs x.num)) := fun yz => keepsC (hF1 yz) c4.out
 have hq5 : ∀ yz, (F yz).cell? ⟨ga, oa + i * 5 + 3, none⟩ = some (.int .u64 ((lo (fe x) : Nat) : Int)) := fun yz => keepsC (hF1 yz) c5.out
 have hq6 : ∀ yz, (F yz).cell? ⟨ga, oa + i * 5 + 4, none⟩ = some (.string (hs (fe x))) := fun yz => keepsC (hF1 yz) c6.out
 have hq7 : ∀ yz, (F yz).cell? ⟨gb, ob + i * 5, none⟩ = some (.int .u64 ((zl y.num : Nat) : Int)) := fun yz => keepsC (hF1 yz) c7.out
 have hq8 : ∀ yz, (F yz).cell? ⟨gb, ob + i * 5 + 1, none⟩ = some (.string (zh y.num)) := fun yz => keepsC (hF1 yz) c8.out
 have hq9 : ∀ yz, (F yz).cell? ⟨gb, ob + i * 5 + 2, none⟩ = some (.bool (zs y.num)) := fun yz => keepsC (hF1 yz) c9.out
 have hq10 : ∀ yz, (F yz).cell? ⟨gb, ob + i * 5 + 3, none⟩ = some (.int .u64 ((lo (fe y) : Nat) : Int)) := fun yz => keepsC (hF1 yz) c10.out
 have hq11 : ∀ yz, (F yz).cell? ⟨gb, ob + i * 5 + 4, none⟩ = some (.string (hs (fe y))) := fun yz => keepsC (hF1 yz) c11.out
 refine region_qs 9 (C := fun w' => ∃ x, w' = F x) (by kernel_rfl) (by kernel_rfl) (cls_drew hF2) ?_
 simp only [zT]
 repeat (go_big_quiet_step (first | fail | (go_at_call 15; with_reducible exact cls_call hF1 hF2 HC.out _)))
 refine wpQuiet_nil ?_
 rintro wq ⟨xq, rfl⟩
 replace hL0 := hL0.call (hF1 xq)
 clear hq0 hq1 hq2 hq3 hq4 hq5 hq6 hq7 hq8 hq9 hq10 hq11 hF2
 generalize F xq = x2 at hL0 ⊢
 clear hF1 xq iα F α
 have hA := hL0.fc
 simp only [zF, Nat.reduceAdd] at hA
 have hPt := hL0.put 0 (w.heap.size) _ rfl [.int .u64 ((zl r.num : Nat) : Int), .string (zh r.num), .bool (zs r.num), .int .u64 ((lo (fe r) : Nat) : Int), .string (hs (fe r))] rfl
 simp only [setAll, List.set_cons_zero, List.set_cons_succ] at hPt
 generalize hput1 : (((((x2.setCell ⟨w.heap.size, 0, none⟩ (.int .u64 ((zl r.num : Nat) : Int))).setCell ⟨w.heap.size, 1, none⟩ (.string (zh r.num))).setCell ⟨w.heap.size, 2, none⟩ (.bool (zs r.num))).setCell ⟨w.heap.size, 3, none⟩ (.int .u64 ((lo (fe r) : Nat) : Int))).setCell ⟨w.heap.size, 4, none⟩ (.string (hs (fe r)))) = x9 at hPt
 have hB1 := hPt.fc
 simp only [zF, Nat.reduceAdd] at hB1
 go_wp2_with fail
 exact bodyPost_ret (v := fracV r) (by simp [results, Tryz.results151, go_sem, hB1]) rfl ⟨rfl, hPt.bl⟩
theorem sumF2 (ao : Option Addr) (n c : Nat) (qs : List Rat) (k : Nat) (hk : qs.length * (k + 1) ≤ 9000000) (hk2 : k ≤ 2000000) (hl : qs.length ≤ 1000) (hs : ∀ q ∈ qs, Sz q k) (w : World) (h : SlQ w (.slice ao n c) qs) :
  Calls Tryz.prog 72 #[.slice ao n c] w fun xe w' => xe = .returned (fracV (qsum qs)) ∧ Below w.heap.size w w' := by
 have hp := slq_parts' h (by omega)
 refine sum_w ao n c qs hp.2.2 (fun w0 t hn w hG => each_add w0 t ao n c qs 0 rfl hn (fun q a i ha hq w hG => total_add w0 t q a (q + a) (fun w => addF q a 9500000 ?_ ((hs a ha).mono (by omega)) (by omega) w) w hG) w hG) w hp
 rw [hq]
 have h0 : Sz 0 1 := ⟨digs_length_iff.2 (by unfold Bs; decide), digs_length_iff.2 (by unfold Bs; decide)⟩
 have hz := qsum_sz (qs.take i) 1 0 h0 (fun q hq => hs q (List.mem_of_mem_take hq))
 refine hz.mono ?_
 rw [List.length_take]
 have h1 : min i qs.length * (k + 1) ≤ qs.length * (k + 1) := Nat.mul_le_mul_right _ (by omega)
 omega
theorem sum_tab2 (n k : Nat) (f : Nat → Rat) (hn : n ≤ 1000) (hk : n * (k + 1) ≤ 9000000) (hk2 : k ≤ 2000000) (hf : ∀ i, i < n → Sz (f i) k) (v : Value) (w : World) (h : SlQ w v (tabV n f)) :
  Calls Tryz.prog 72 #[v] w fun xe w' => xe = .returned (fracV (bsV n f)) ∧ Below w.heap.size w w' := by
 obtain ⟨ao, c, rfl⟩ := slq_form' h
 have := sumF2 ao (tabV n f).length c (tabV n f) k (by rw [tabV_len]; exact hk) hk2 (by rw [tabV_len]; exact hn) (tab_all hf) w h
 rwa [qsum_tab] at this
theorem mdot_at (x y : List Rat) (n k b1 b2 : Nat) (va vb : Value) (hx : x.length = n) (hy : y.length = n) (hk : k ≤ 1000000) (sx : ∀ q ∈ x, Sz q k) (sy : ∀ q ∈ y, Sz q k) (i : Nat) (hi : i < n) (w : World)
  (hw : RQ w va x ∧ RQ w vb y ∧ w.cell? ⟨b1, 0, none⟩ = some va ∧ w.cell? ⟨b2, 0, none⟩ = some vb) :
  Calls Tryz.prog 151 (#[.int .i64 (i : Int)] ++ #[.pointer (some ⟨b1, 0, none⟩), .pointer (some ⟨b2, 0, none⟩)]) w fun xe w' => xe = .returned (fracV (gv x i * gv y i)) ∧ Below w.heap.size w w' := by
 obtain ⟨h1, h2, h3, h4⟩ := hw
 obtain ⟨aa, ca, rfl⟩ := h1.form
 obtain ⟨ab, cb, rfl⟩ := h2.form
 obtain ⟨ga, oa, rfl, -, f1⟩ := rq_at h1 (by omega)
 obtain ⟨gb, ob, rfl, -, f2⟩ := rq_at h2 (by omega)
 obtain ⟨p0, p1, p2, p3, p4⟩ := f1 i (by omega)
 obtain ⟨q0, q1, q2, q3, q4⟩ := f2 i (by omega)
 exact mdot1_w i x.length y.length ca cb ga gb oa ob b1 b2 (gv x i) (gv y i) (gv x i * gv y i) (fun w => mulF _ _ k (qsk x sx i (by omega)) (qsk y sy i (by omega)) (by omega) w) (by omega) (by omega) w h3 h4 p0 p1 p2 p3 p4 q0 q1 q2 q3 q4
theorem mdotS (x y : List Rat) (n k : Nat) (hx : x.length = n) (hy : y.length = n) (hn : n ≤ 1000) (hk : n * (k + k + 1) ≤ 9000000) (hk2 : k + k ≤ 2000000) (sx : ∀ q ∈ x, Sz q k) (sy : ∀ q ∈ y, Sz q k) (va vb : Value) (w : World) (hv : RQ w va x) (hu : RQ w vb y) :
  Calls Tryz.prog 76 #[va, vb] w fun xe w' => xe = .returned (fracV (bsV n fun i => gv x i * gv y i)) ∧ Below w.heap.size w w' := by
 obtain ⟨aa, ca, rfl⟩ := hv.form
 obtain ⟨ab, cb, rfl⟩ := hu.form
 rw [hx] at hv ⊢
 rw [hy] at hu ⊢
 have HCl := fun b1 b2 => mdot_at x y n k b1 b2 (.slice aa n ca) (.slice ab n cb) hx hy (by omega) sx sy
 have HS := Lib.hid (fun v w h => sum_tab2 n (k + k) (fun i => gv x i * gv y i) hn hk hk2 (fun i hi => (qsk x sx i (by omega)).mul (qsk y sy i (by omega))) v w h)
 generalize bsV n (fun i => gv x i * gv y i) = r at *
 have hL0 : GL w w [] := GL.start w
 obtain ⟨x1, hweq, hL0⟩ := GL.named (((hL0.new rfl [.slice aa n ca] 28).new (K := w.heap.size + 1) (szA _ _) [.slice ab n cb] 28).new (K := w.heap.size + 1 + 1) (by simp only [World.size_alloc]) [.int .u64 0, .string ⟨#[]⟩, .bool false, .int .u64 0, .string ⟨#[]⟩] 36)
 have hv1 := hv.below hL0.bl
 have hu1 := hu.below hL0.bl
 have hc1 := (hL0.get _ _ (mK (mK mZ))).cell 0 (by simp)
 simp only [List.getElem_cons_zero, List.getElem_cons_succ] at hc1
 have hc2 := (hL0.get _ _ (mK mZ)).cell 0 (by simp)
 simp only [List.getElem_cons_zero, List.getElem_cons_succ] at hc2
 have HC := veach_w 151 #[.pointer (some ⟨w.heap.size, 0, none⟩), .pointer (some ⟨w.heap.size + 1, 0, none⟩)] endot n (fun i => gv x i * gv y i) (fun w => RQ w (.slice aa n ca) x ∧ RQ w (.slice ab n cb) y ∧ w.cell? ⟨_, 0, none⟩ = some (.slice aa n ca) ∧ w.cell? ⟨_, 0, none⟩ = some (.slice ab n cb)) (Keeps.and (RQ.keeps _ _) (Keeps.and (RQ.keeps _ _) (Keeps.and (keepsB _ _) (keepsB _ _)))) (HCl _ _) (by omega) x1 ⟨hv1, hu1, hc1, hc2⟩
 replace HC := Lib.hid HC
 clear hv hu hv1 hu1 HCl sx sy hx hy hk hk2
 go_enter Tryz.func76, Tryz.ntmps76
 go_wp2_with fail
 with_reducible refine Calls.mono HC.out ?_
 rintro e y1 ⟨u, rfl, hnv, hb⟩
 replace hL0 := hL0.call hb
 clear hb hc1 hc2 hweq
 have hsl := Lib.hid hnv.slq
 obtain ⟨gu, rfl, -, -⟩ := hnv
 go_wp2_with fail
 with_reducible refine Calls.mono (HS.out _ _ hsl.out) ?_
 rintro e y2 ⟨rfl, hb⟩
 replace hL0 := hL0.call hb
 clear hb hsl
 have hA := hL0.fc
 simp only [zF, Nat.reduceAdd] at hA
 have hPt := hL0.put 0 (w.heap.size + 1 + 1) _ rfl [.int .u64 ((zl r.num : Nat) : Int), .string (zh r.num), .bool (zs r.num), .int .u64 ((lo (fe r) : Nat) : Int), .string (hs (fe r))] rfl
 simp only [setAll, List.set_cons_zero, List.set_cons_succ] at hPt
 generalize hput1 : (((((y2.setCell ⟨w.heap.size + 1 + 1, 0, none⟩ (.int .u64 ((zl r.num : Nat) : Int))).setCell ⟨w.heap.size + 1 + 1, 1, none⟩ (.string (zh r.num))).setCell ⟨w.heap.size + 1 + 1, 2, none⟩ (.bool (zs r.num))).setCell ⟨w.heap.size + 1 + 1, 3, none⟩ (.int .u64 ((lo (fe r) : Nat) : Int))).setCell ⟨w.heap.size + 1 + 1, 4, none⟩ (.string (hs (fe r)))) = y3 at hPt
 have hB1 := hPt.fc
 simp only [zF, Nat.reduceAdd] at hB1
 go_wp2_with fail
 exact bodyPost_ret (v := fracV r) (by simp [results, Tryz.results76, go_sem, hB1]) rfl ⟨rfl, hPt.bl⟩
theorem mDotV (x y : List Rat) (n k : Nat) (hx : x.length = n) (hy : y.length = n) (hn : n ≤ 1000) (hk : n * (k + k + 1) ≤ 9000000) (hk2 : k + k ≤ 2000000) (sx : ∀ q ∈ x, Sz q k) (sy : ∀ q ∈ y, Sz q k) (va vb : Value) (w : World) (hv : RQ w va x) (hu : RQ w vb y) :
  Calls Tryz.prog 52 #[va, vb] w fun xe w' => xe = .returned (.tuple #[fracV (bsV n fun i => gv x i * gv y i), .int .i64 0]) ∧ Below w.heap.size w w' := by
 have HD := Lib.hid (fun w hv hu => mdotS x y n k hx hy hn hk hk2 sx sy va vb w hv hu)
 obtain ⟨aa, ca, rfl⟩ := hv.form
 obtain ⟨ab, cb, rfl⟩ := hu.form
 rw [hx] at hv HD ⊢
 rw [hy] at hu HD ⊢
 generalize bsV n (fun i => gv x i * gv y i) = r at *
 have hL0 : GL w w [] := GL.start w
 obtain ⟨x1, hweq, hL0⟩ := GL.named (hL0.new rfl [.int .u64 0, .string ⟨#[]⟩, .bool false, .int .u64 0, .string ⟨#[]⟩] 36)
 have hv1 := hv.below hL0.bl
 have hu1 := hu.below hL0.bl
 replace hL0 := (hL0.new rfl [.slice aa n ca, .slice ab n cb] 28)
 generalize hweq2 : (x1.alloc (.cells #[.slice aa n ca, .slice ab n cb] 28)) = x2 at hL0
 have hb2 : Below x1.heap.size x1 x2 := hweq2 ▸ ((Below.refl _ _).alloc (Nat.le_refl _) _)
 have hv2 := hv1.below hb2
 have hu2 := hu1.below hb2
 have hd := hL0.get _ _ mZ
 have HF := vfault_w 2 2 x1.heap.size (some ⟨x1.heap.size, 0, none⟩) (fun _ => n) (by omega) (fun i hi => by omega) x2 (fun _ => rfl) (fun i hi => by
  rcases (by omega : i = 0 ∨ i = 1) with rfl | rfl
  ·exact ⟨aa, ca, hd.cell 0 (by simp)⟩
  ·exact ⟨ab, cb, hd.cell 1 (by simp)⟩)
 replace HF := Lib.hid HF
 clear hd
 replace hv2 := Lib.hid hv2
 replace hu2 := Lib.hid hu2
 clear hv hu hv1 hu1 sx sy hb2 hk hk2
 go_enter Tryz.func52, Tryz.ntmps52
 go_wp2_with fail
 with_reducible refine Calls.mono HF.out ?_
 rintro e y1 ⟨ze, rfl, hor, hb⟩
 obtain rfl : ze = 0 := by
  rcases hor with ⟨h, -⟩ | ⟨-, i, -, h⟩
  ·exact h
  ·exact absurd rfl h
 clear hor
 have hv3 := Lib.hid (hv2.out.below hb)
 have hu3 := Lib.hid (hu2.out.below hb)
 replace hL0 := hL0.call hb
 clear hb hweq hweq2 hv2 hu2 HF
 go_wp2_with fail
 with_reducible refine Calls.mono (HD.out _ hv3.out hu3.out) ?_
 rintro e y2 ⟨rfl, hb⟩
 replace hL0 := hL0.call hb
 clear hb hv3 hu3
 have hA := hL0.fc
 simp only [zF, Nat.reduceAdd] at hA
 have hPt := hL0.put 1 (w.heap.size) _ rfl [.int .u64 ((zl r.num : Nat) : Int), .string (zh r.num), .bool (zs r.num), .int .u64 ((lo (fe r) : Nat) : Int), .string (hs (fe r))] rfl
 simp only [setAll, List.set_cons_zero, List.set_cons_succ] at hPt
 generalize hput1 : (((((y2.setCell ⟨w.heap.size, 0, none⟩ (.int .u64 ((zl r.num : Nat) : Int))).setCell ⟨w.heap.size, 1, none⟩ (.string (zh r.num))).setCell ⟨w.heap.size, 2, none⟩ (.bool (zs r.num))).setCell ⟨w.heap.size, 3, none⟩ (.int .u64 ((lo (fe r) : Nat) : Int))).setCell ⟨w.heap.size, 4, none⟩ (.string (hs (fe r)))) = y3 at hPt
 have hB1 := hPt.fc
 simp only [zF, Nat.reduceAdd] at hB1
 go_wp2_with fail
 exact bodyPost_ret (v := .tuple #[fracV r, .int .i64 0]) (by simp [results, Tryz.results52, go_sem, hB1]) rfl ⟨rfl, hPt.bl⟩
end Go.Proofs.YthffglapmkkohaaGreatDoor
namespace Go.Proofs.YthffglapmkkohaaGreatDoor
open Go.RowKit
attribute [local irreducible] lo hs sm s64 c64 d64 b64 mh ml pd pc qd qc val hiB str cmpI srD lz nb zl zh zs fe rowV tabV gv bsV
theorem msize_ok (r c : Nat) (hr : r ≤ 2048) (hc : c ≤ 2048) (w : World) : Calls Tryz.prog 85 #[.int .i64 (r : Int), .int .i64 (c : Int)] w fun xe w' => xe = .returned (.int .i64 0) ∧ Below w.heap.size w w' := by
 have k0 : ¬ (r : Int) < 0 := by omega
 have k1 : ¬ (c : Int) < 0 := by omega
 have k2 : ¬ (2048 : Int) < (r : Int) := by omega
 have k3 : ¬ (2048 : Int) < (c : Int) := by omega
 have k4 : ¬ 2048 < r := by omega
 have k5 : ¬ 2048 < c := by omega
 clear hr hc
 go_enter Tryz.func85, Tryz.ntmps85
 go_wp2_with fail
 exact bodyPost_ret (v := .int .i64 0) (by simp [results, Tryz.results85, go_sem]) rfl ⟨rfl, Below.refl _ _⟩
theorem msize_neg1 (r c : Int) (hr : r < 0) (w : World) : Calls Tryz.prog 85 #[.int .i64 r, .int .i64 c] w fun xe w' => xe = .returned (.int .i64 1) ∧ Below w.heap.size w w' := by
 go_enter Tryz.func85, Tryz.ntmps85
 go_wp2_with fail
 exact bodyPost_ret (v := .int .i64 1) (by simp [results, Tryz.results85, go_sem]) rfl ⟨rfl, Below.refl _ _⟩
theorem msize_big1 (r c : Int) (hr : ¬ r < 0) (hc : ¬ c < 0) (h2 : 2048 < r) (w : World) : Calls Tryz.prog 85 #[.int .i64 r, .int .i64 c] w fun xe w' => xe = .returned (.int .i64 3) ∧ Below w.heap.size w w' := by
 go_enter Tryz.func85, Tryz.ntmps85
 go_wp2_with fail
 exact bodyPost_ret (v := .int .i64 3) (by simp [results, Tryz.results85, go_sem]) rfl ⟨rfl, Below.refl _ _⟩
theorem mcheck_ok (r c n d : Nat) (ao : Option Addr) (hr : r ≤ 2048) (hc : c ≤ 2048) (hn : n = r * c) (w : World) : Calls Tryz.prog 89 #[.agg #[.int .i64 (r : Int), .int .i64 (c : Int), .slice ao n d]] w fun xe w' => xe = .returned (.int .i64 0) ∧ Below w.heap.size w w' := by
 have HS := Lib.hid (msize_ok r c hr hc)
 have hmul : (r : Int) * (c : Int) = (n : Int) := by rw [hn, Int.natCast_mul]
 have hle : n ≤ 2048 * 2048 := by rw [hn]; exact Nat.mul_le_mul hr hc
 have hb1 : (n : Int) ≤ 5000000 := by omega
 have hb0 : (0 : Int) ≤ (n : Int) := Int.natCast_nonneg _
 clear hr hc hn hle
 have hL0 : GL w w [] := GL.start w
 obtain ⟨x1, hweq, hL0⟩ := GL.named (hL0.new rfl [.int .i64 (r : Int), .int .i64 (c : Int), .slice ao n d] 56)
 have hA := hL0.fc
 simp only [zF, Nat.reduceAdd] at hA
 go_enter Tryz.func89, Tryz.ntmps89
 go_wp2_with fail
 with_reducible refine Calls.mono (HS.out _) ?_
 rintro e y1 ⟨rfl, hb⟩
 replace hL0 := hL0.call hb
 clear hb hA hweq
 have hA := hL0.fc
 simp only [zF, Nat.reduceAdd] at hA
 go_wp2_with fail
 exact bodyPost_ret (v := .int .i64 0) (by simp [results, Tryz.results89, go_sem]) rfl ⟨rfl, hL0.bl⟩
theorem mat_w (r c n d g i k p : Nat) (q : Rat) (hp : p = i * c) (hk : p + k < n) (hn : n ≤ 5000000) (w : World)
  (f0 : w.cell? ⟨g, (p + k) * 5, none⟩ = some (.int .u64 ((zl q.num : Nat) : Int))) (f1 : w.cell? ⟨g, (p + k) * 5 + 1, none⟩ = some (.string (zh q.num))) (f2 : w.cell? ⟨g, (p + k) * 5 + 2, none⟩ = some (.bool (zs q.num))) (f3 : w.cell? ⟨g, (p + k) * 5 + 3, none⟩ = some (.int .u64 ((lo (fe q) : Nat) : Int))) (f4 : w.cell? ⟨g, (p + k) * 5 + 4, none⟩ = some (.string (hs (fe q)))) :
  Calls Tryz.prog 92 #[.agg #[.int .i64 (r : Int), .int .i64 (c : Int), .slice (some ⟨g, 0, none⟩) n d], .int .i64 (i : Int), .int .i64 (k : Int)] w fun xe w' => xe = .returned (fracV q) ∧ Below w.heap.size w w' := by
 have hmul : (i : Int) * (c : Int) = (p : Int) := by rw [hp, Int.natCast_mul]
 have k0 : (0 : Int) ≤ (p : Int) + (k : Int) := by omega
 have k1 : (p : Int) + (k : Int) < (n : Int) := by omega
 have k2 : (p : Int) ≤ 5000000 := by omega
 have k3 : (p : Int) + (k : Int) ≤ 5000000 := by omega
 clear hp hk hn
 have hL0 : GL w w [] := GL.start w
 obtain ⟨x1, hweq, hL0⟩ := GL.named ((hL0.new rfl [.int .i64 (r : Int), .int .i64 (c : Int), .slice (some ⟨g, 0, none⟩) n d] 56).new (K := w.heap.size + 1) (szA _ _) [.int .u64 0, .string ⟨#[]⟩, .bool false, .int .u64 0, .string ⟨#[]⟩] 36)
 replace f0 := keepsC hL0.bl f0
 replace f1 := keepsC hL0.bl f1
 replace f2 := keepsC hL0.bl f2
 replace f3 := keepsC hL0.bl f3
 replace f4 := keepsC hL0.bl f4
 have hA := hL0.fc
 simp only [zF, Nat.reduceAdd] at hA
 go_enter Tryz.func92, Tryz.ntmps92
 have hPt := hL0.put 0 (w.heap.size + 1) _ rfl [.int .u64 ((zl q.num : Nat) : Int), .string (zh q.num), .bool (zs q.num), .int .u64 ((lo (fe q) : Nat) : Int), .string (hs (fe q))] rfl
 simp only [setAll, List.set_cons_zero, List.set_cons_succ] at hPt
 generalize hput1 : (((((x1.setCell ⟨w.heap.size + 1, 0, none⟩ (.int .u64 ((zl q.num : Nat) : Int))).setCell ⟨w.heap.size + 1, 1, none⟩ (.string (zh q.num))).setCell ⟨w.heap.size + 1, 2, none⟩ (.bool (zs q.num))).setCell ⟨w.heap.size + 1, 3, none⟩ (.int .u64 ((lo (fe q) : Nat) : Int))).setCell ⟨w.heap.size + 1, 4, none⟩ (.string (hs (fe q)))) = x9 at hPt
 have hB1 := hPt.fc
 simp only [zF, Nat.reduceAdd] at hB1
 go_wp2_with fail
 exact bodyPost_ret (v := fracV q) (by simp [results, Tryz.results92, go_sem, hB1]) rfl ⟨rfl, hPt.bl⟩
theorem mrow_w (r c n d i p e : Nat) (ao a2 : Option Addr) (hp : p = i * c) (he : e = (i + 1) * c) (hi : i ≤ 100000) (hn : e ≤ 5000000)
  (hs : ∀ W, (Instr.slice 27 (.slice ao n d) (some (.int .i64 (p : Int))) (some (.int .i64 (e : Int))) (some (.int .i64 (e : Int)))).run Tryz.prog W = .ok (.slice a2 c c) W) (w : World) :
  Calls Tryz.prog 108 #[.agg #[.int .i64 (r : Int), .int .i64 (c : Int), .slice ao n d], .int .i64 (i : Int)] w fun xe w' => xe = .returned (.slice a2 c c) ∧ Below w.heap.size w w' := by
 have hmul : (i : Int) * (c : Int) = (p : Int) := by rw [hp, Int.natCast_mul]
 have hmul2 : ((i : Int) + 1) * (c : Int) = (e : Int) := by rw [he, Int.natCast_mul]; rfl
 have hle : p ≤ e := by rw [hp, he]; exact Nat.mul_le_mul_right _ (by omega)
 have k0 : (0 : Int) ≤ (i : Int) + 1 := by omega
 have k1 : (i : Int) + 1 ≤ 100001 := by omega
 have k2 : (0 : Int) ≤ (p : Int) := by omega
 have k3 : (p : Int) ≤ 5000000 := by omega
 have k4 : (0 : Int) ≤ (e : Int) := by omega
 have k5 : (e : Int) ≤ 5000000 := by omega
 clear hp he hle hi hn
 have hL0 : GL w w [] := GL.start w
 obtain ⟨x1, hweq, hL0⟩ := GL.named (hL0.new rfl [.int .i64 (r : Int), .int .i64 (c : Int), .slice ao n d] 56)
 have hA := hL0.fc
 simp only [zF, Nat.reduceAdd] at hA
 go_enter Tryz.func108, Tryz.ntmps108
 go_upto_region 1 with fail
 clear hweq hA
 obtain ⟨α, iα, F, hF1, hF2⟩ := cls x1
 have hq := GL.fcC hF1 hL0
 simp only [zC, Nat.reduceAdd] at hq
 refine region_cls (F := F) (by kernel_rfl) (lexB_of_fast (by kernel_rfl)) (cls_drew hF2) ?_
 repeat (go_big_quiet_step (first | fail))
 refine wpQuiet_nil ?_
 rintro wq ⟨xq, rfl⟩
 replace hL0 := hL0.call (hF1 xq)
 clear hq hF2
 generalize F xq = x2 at hL0 ⊢
 clear hF1 xq iα F α
 have hA := hL0.fc
 simp only [zF, Nat.reduceAdd] at hA
 go_wp2_with fail
 exact bodyPost_ret (v := .slice a2 c c) (by simp [results, Tryz.results108, go_sem]) rfl ⟨rfl, hL0.bl⟩
theorem makeM (w : World) (c : Int) (n : Nat) (hc : c = n) (h : n ≤ 1000000) :
  (Instr.makeSlice 27 (.int .i64 c) (.int .i64 c)).run Tryz.prog w = .ok (.slice (some ⟨w.heap.size, 0, none⟩) n n) (w.alloc (.cells (frCs (List.replicate n 0)).toArray 36)) := by
 subst hc
 obtain ⟨i, hi, hz, h1, h2⟩ := info_parts infoFr
 have := run_make (P := Tryz.prog) w 27 36 i _ Tryz.underlying27 hi hz .i64 .i64 (n : Int) (n : Int) (by omega) (Int.le_refl _) (by rw [h2]; omega) (by omega)
 rw [this, h1]
 simp only [Int.toNat_natCast]
 rw [made_zerosF]
theorem mbuild_w (K : FuncId) (caps : Array Value) (eg : ∀ (args : Array Value) (w : World), (callFunc K args).run Tryz.prog w = .ok (.enter K args) w) (r c : Nat) (f : Nat → Nat → Rat) (P : World → Prop) (hP : Keeps P)
  (HC : ∀ i k, i < r → k < c → ∀ w, P w → Calls Tryz.prog K (#[.int .i64 (i : Int), .int .i64 (k : Int)] ++ caps) w fun xe w' => xe = .returned (fracV (f i k)) ∧ Below w.heap.size w w')
  (hr : r ≤ 2048) (hc : c ≤ 2048) (hn : r * c ≤ 100000) (w : World) (kP : P w) :
  Calls Tryz.prog 88 #[.int .i64 (r : Int), .int .i64 (c : Int), .func (.func K) #[] caps] w fun xe w' => ∃ v, xe = .returned (.agg #[.int .i64 (r : Int), .int .i64 (c : Int), v]) ∧ NV w.heap.size (tabM r c f).l v w' ∧ Below w.heap.size w w' := by
 show Calls _ _ _ _ fun xe w' => ∃ v, _ ∧ NV w.heap.size (tabV (r * c) fun q => f (q / c) (q % c)) v w' ∧ _
 obtain ⟨m, hm⟩ : ∃ m, m = r * c := ⟨_, rfl⟩
 rw [← hm] at hn ⊢
 have hmk := fun W => makeM W (m : Int) m rfl (by omega)
 have hmul : (r : Int) * (c : Int) = (m : Int) := by rw [hm, Int.natCast_mul]
 have hm1 : (m : Int) ≤ 100000 := by omega
 have hm0 : (0 : Int) ≤ (m : Int) := Int.natCast_nonneg _
 replace hP := Lib.hid hP
 replace HC := Lib.hid HC
 replace hm := Lib.hid hm
 replace hr := Lib.hid hr
 replace hc := Lib.hid hc
 have hL0 : GL w w [] := GL.start w
 obtain ⟨x1, hweq, hL0⟩ := GL.named (hL0.new rfl [.int .i64 0, .int .i64 0, .slice none 0 0] 56)
 have hx1 : w.heap.size ≤ x1.heap.size := hL0.bl.size
 replace hL0 := hL0.new (K := x1.heap.size) rfl (frCs (List.replicate m 0)) 36
 generalize hweq2 : x1.alloc (.cells (frCs (List.replicate m 0)).toArray 36) = x2 at hL0
 rw [← rowV_zero (fun q => f (q / c) (q % c)) m] at hL0
 replace kP := Lib.hid kP
 go_enter Tryz.func88, Tryz.ntmps88
 go_wp2_with fail
 clear hweq hweq2 hmk
 obtain ⟨g, hg⟩ : ∃ g, g = x1.heap.size := ⟨_, rfl⟩
 rw [← hg] at hL0 ⊢
 rw [← hg] at hx1
 replace hg := Lib.hid hg
 replace hx1 := Lib.hid hx1
 obtain ⟨b, hbw⟩ : ∃ b, b = w.heap.size := ⟨_, rfl⟩
 rw [← hbw] at hL0 hx1 ⊢
 replace hbw := Lib.hid hbw
 go_loopg [15] r (fun gk iv wr => ∃ (i : Nat) (zi : Int), i + gk = r ∧ iv = .int .i64 zi ∧ zi = (i : Int) ∧ GL w wr [(g, frCs (rowV (fun q => f (q / c) (q % c)) m (i * c))), (b, [.int .i64 0, .int .i64 0, .slice none 0 0])])
 case atStart => exact ⟨0, 0, Nat.zero_add r, by first | rfl | go_num, rfl, by rw [Nat.zero_mul]; exact hL0⟩
 case round =>
  clear hL0
  obtain ⟨i, zi, hik, rfl, hzi, hL0⟩ := hrel
  rcases Nat.lt_or_ge i r with hin | hin
  ·subst hzi
   have k1 : (i : Int) < (r : Int) := by omega
   have k0 : (0 : Int) ≤ (i : Int) := Int.natCast_nonneg _
   have kb : (i : Int) ≤ 100000 := by have := hr.out; omega
   obtain ⟨p, hp⟩ : ∃ p, p = i * c := ⟨_, rfl⟩
   have hmu2 : (i : Int) * (c : Int) = (p : Int) := by rw [hp, Int.natCast_mul]
   rw [← hp] at hL0
   replace hp := Lib.hid hp
   have hpm := Lib.hid (show ∀ k, k < c → p + k < m by intro k hk; rw [hp.out, hm.out]; exact ix_lt hin hk)
   have hpc := Lib.hid (show p + c = (i + 1) * c by rw [hp.out, Nat.add_mul, Nat.one_mul])
   go_wp2_with fail
   obtain ⟨wo, hwo⟩ : ∃ wo, wo = wr := ⟨_, rfl⟩
   subst hwo
   go_loopg [19] c (fun gk kv wr2 => ∃ (k : Nat) (zk : Int), k + gk = c ∧ kv = .int .i64 zk ∧ zk = (k : Int) ∧ GL w wr2 [(g, frCs (rowV (fun q => f (q / c) (q % c)) m (p + k))), (b, [.int .i64 0, .int .i64 0, .slice none 0 0])])
   case atStart => exact ⟨0, 0, Nat.zero_add c, by first | rfl | go_num, rfl, hL0⟩
   case round =>
    clear hL0
    obtain ⟨k, zk, hkk, rfl, hzk, hL0⟩ := hrel
    rcases Nat.lt_or_ge k c with hkn | hkn
    ·subst hzk
     have m1 : (k : Int) < (c : Int) := by omega
     have m0 : (0 : Int) ≤ (k : Int) := Int.natCast_nonneg _
     have hpk := hpm.out k hkn
     have m2 : (p : Int) + (k : Int) < (m : Int) := by omega
     have m3 : (0 : Int) ≤ (p : Int) + (k : Int) := by omega
     have m4 : (p : Int) + (k : Int) ≤ 100000 := by omega
     have HC1 := HC.out i k hin hkn
     obtain ⟨q, hq⟩ : ∃ q, q = f i k := ⟨_, rfl⟩
     rw [← hq] at HC1
     have hq2 := Lib.hid (show q = (fun q => f (q / c) (q % c)) (p + k) by show q = f ((p + k) / c) ((p + k) % c); rw [hp.out, ix_div hkn, ix_mod hkn]; exact hq)
     replace hq := Lib.hid hq
     replace HC1 := Lib.hid HC1
     go_wp2_with fail
     with_reducible refine Calls.mono (HC1.out _ (hP.out.at hL0.bl kP.out)) ?_
     rintro e y1 ⟨rfl, hb⟩
     replace hL0 := hL0.call hb
     clear hb
     have zh := hL0.get _ _ mZ
     have hlen := rowV_len (fun q => f (q / c) (q % c)) m (p + k) (Nat.le_of_lt hpk)
     obtain ⟨z0, z1, z2, z3, z4⟩ := (hd_fs zh).cell (p + k) (by omega)
     have zz := zh.frz
     clear zh
     have hPt := hL0.putF 0 g (rowV (fun q => f (q / c) (q % c)) m (p + k)) rfl (p + k) q (by omega)
     simp only [List.set_cons_zero, List.set_cons_succ] at hPt
     generalize hputr : (((((y1.setCell ⟨g, (p + k) * 5, none⟩ (.int .u64 ((zl q.num : Nat) : Int))).setCell ⟨g, (p + k) * 5 + 1, none⟩ (.string (zh q.num))).setCell ⟨g, (p + k) * 5 + 2, none⟩ (.bool (zs q.num))).setCell ⟨g, (p + k) * 5 + 3, none⟩ (.int .u64 ((lo (fe q) : Nat) : Int))).setCell ⟨g, (p + k) * 5 + 4, none⟩ (.string (hs (fe q)))) = y2 at hPt
     rw [hq2.out, rowV_step _ m (p + k) hpk] at hPt
     clear hL0
     have hL0 := hPt
     clear hPt
     go_wp2_with fail
     go_roundg (c - (k + 1))
     case measure => omega
     case rel => exact ⟨k + 1, _, by omega, by first | rfl | go_num, by omega, hL0⟩
    ·obtain rfl : c = k := by omega
     subst hzk
     have m1 : ¬ (c : Int) < (c : Int) := by omega
     rw [hpc.out] at hL0
     go_wp2_with fail
     go_roundg (r - (i + 1))
     case measure => omega
     case rel => exact ⟨i + 1, _, by omega, by first | rfl | go_num, by omega, hL0⟩
  ·obtain rfl : r = i := by omega
   subst hzi
   have k1 : ¬ (r : Int) < (r : Int) := by omega
   rw [← hm.out, rowV_end] at hL0
   have hA := cells_of _ 0 [] rfl (hL0.get _ _ (mK mZ))
   simp only [zF, Nat.reduceAdd] at hA
   have zf := (hL0.get _ _ (mK mZ)).frz
   have hPt := hL0.put 1 b _ rfl [.int .i64 (r : Int), .int .i64 (c : Int), .slice (some ⟨g, 0, none⟩) m m] rfl
   simp only [setAll, List.set_cons_zero, List.set_cons_succ] at hPt
   generalize hput1 : (((wr.setCell ⟨b, 0, none⟩ (.int .i64 (r : Int))).setCell ⟨b, 1, none⟩ (.int .i64 (c : Int))).setCell ⟨b, 2, none⟩ (.slice (some ⟨g, 0, none⟩) m m)) = y9 at hPt
   have hB1 := cells_of _ 0 [] rfl (hPt.get _ _ (mK mZ))
   simp only [zF, Nat.reduceAdd] at hB1
   have hNV : NV w.heap.size (tabV m fun q => f (q / c) (q % c)) (.slice (some ⟨g, 0, none⟩) m m) y9 := ⟨g, by rw [tabV_len], by rw [← hbw.out]; exact hx1.out, hPt.get _ _ mZ⟩
   replace hNV := Lib.hid hNV
   clear hL0
   go_wp2_with fail
   exact bodyPost_ret (v := .agg #[.int .i64 (r : Int), .int .i64 (c : Int), .slice (some ⟨g, 0, none⟩) m m]) (by simp [results, Tryz.results88, go_sem, hB1]) rfl ⟨_, rfl, hNV.out, hPt.bl⟩
end Go.Proofs.YthffglapmkkohaaGreatDoor
namespace Go.Proofs.YthffglapmkkohaaGreatDoor
open Go.RowKit
attribute [local irreducible] lo hs sm s64 c64 d64 b64 mh ml pd pc qd qc val hiB str cmpI srD lz nb zl zh zs fe rowV tabV gv bsV tabM
/-- A matrix in a box. -/
def BM (w : World) (b : Nat) (u : Value) (x : Mx) : Prop := w.cell? ⟨b, 0, none⟩ = some (.int .i64 (x.r : Int)) ∧ w.cell? ⟨b, 1, none⟩ = some (.int .i64 (x.c : Int)) ∧ w.cell? ⟨b, 2, none⟩ = some u ∧ CQ w u x.l
theorem BM.keeps (b : Nat) (u : Value) (x : Mx) : Keeps fun w => BM w b u x := fun _ _ hb h => ⟨keepsC hb h.1, keepsC hb h.2.1, keepsC hb h.2.2.1, h.2.2.2.below hb⟩
theorem BM.of {w : World} {b : Nat} {u : Value} {x : Mx} (h : Hd w b [.int .i64 (x.r : Int), .int .i64 (x.c : Int), u]) (hu : CQ w u x.l) : BM w b u x := ⟨h.cell 0 (by simp), h.cell 1 (by simp), h.cell 2 (by simp), hu⟩
structure OKM (x : Mx) : Prop where
 r : x.r ≤ 2048
 c : x.c ≤ 2048
 len : x.l.length = x.r * x.c
theorem OKM.le {x : Mx} (h : OKM x) : x.r * x.c ≤ 5000000 := by
 have := Nat.mul_le_mul h.r h.c
 omega
theorem GM.ok {x : Mx} {n k K : Nat} (h : GM x n k K) (hn : n ≤ 2048) (hk : k ≤ 2048) : OKM x := ⟨by rw [h.r]; exact hn, by rw [h.c]; exact hk, by rw [h.len, h.r, h.c]⟩
/-- An element. -/
theorem matV (x : Mx) (hx : OKM x) (i k : Nat) (hi : i < x.r) (hk : k < x.c) (u : Value) (w : World) (hu : CQ w u x.l) :
  Calls Tryz.prog 92 #[.agg #[.int .i64 (x.r : Int), .int .i64 (x.c : Int), u], .int .i64 (i : Int), .int .i64 (k : Int)] w fun xe w' => xe = .returned (fracV (ent x i k)) ∧ Below w.heap.size w w' := by
 obtain ⟨ao, d, rfl, -⟩ := hu.form
 have hlt := ix_lt hi hk
 obtain ⟨g, rfl, -, ff⟩ := slq_at hu.1 (i * x.c + k) (by rw [hx.len]; exact hlt)
 obtain ⟨f0, f1, f2, f3, f4⟩ := fsc ff (i * x.c + k) (by rw [hx.len]; exact hlt)
 exact mat_w x.r x.c x.l.length d g i k (i * x.c) (ent x i k) rfl (by rw [hx.len]; exact hlt) (by rw [hx.len]; exact hx.le) w f0 f1 f2 f3 f4
/-- A row. -/
theorem mrowV (x : Mx) (hx : OKM x) (i : Nat) (hi : i < x.r) (u : Value) (w0 : World) (hu : CQ w0 u x.l) :
  ∃ a2, (∀ w, Calls Tryz.prog 108 #[.agg #[.int .i64 (x.r : Int), .int .i64 (x.c : Int), u], .int .i64 (i : Int)] w fun xe w' => xe = .returned (.slice a2 x.c x.c) ∧ Below w.heap.size w w') ∧ RQ w0 (.slice a2 x.c x.c) (rowL x i) := by
 obtain ⟨ao, d, rfl, hd⟩ := hu.form
 obtain ⟨a2, h1, h2⟩ := row_slice hu.1 hd hx.len i hi
 have hle : (i + 1) * x.c ≤ x.r * x.c := Nat.mul_le_mul_right _ hi
 have := hx.le
 have := hx.r
 exact ⟨a2, fun w => mrow_w x.r x.c x.l.length d i (i * x.c) ((i + 1) * x.c) ao a2 rfl rfl (by omega) (by omega) h1 w, h2⟩
theorem mturn1_w (i k r c n d b1 : Nat) (ao : Option Addr) (q : Rat) (KC : World → Prop) (hKC : Keeps KC) (HA : ∀ w, KC w → Calls Tryz.prog 92 #[.agg #[.int .i64 (r : Int), .int .i64 (c : Int), .slice ao n d], .int .i64 (k : Int), .int .i64 (i : Int)] w fun xe w' => xe = .returned (fracV q) ∧ Below w.heap.size w w') (w : World) (kC : KC w) (c0 : w.cell? ⟨b1, 0, none⟩ = some (.int .i64 (r : Int))) (c1 : w.cell? ⟨b1, 1, none⟩ = some (.int .i64 (c : Int))) (c2 : w.cell? ⟨b1, 2, none⟩ = some (.slice ao n d)) :
  Calls Tryz.prog 156 #[.int .i64 (i : Int), .int .i64 (k : Int), .pointer (some ⟨b1, 0, none⟩)] w fun xe w' => xe = .returned (fracV q) ∧ Below w.heap.size w w' := by
 replace HA := Lib.hid HA
 replace hKC := Lib.hid hKC
 have hL0 : GL w w [] := GL.start w
 have hb0 : Below w.heap.size w (w.alloc (.cells #[.int .u64 0, .string ⟨#[]⟩, .bool false, .int .u64 0, .string ⟨#[]⟩] 36)) := (Below.refl _ _).alloc (Nat.le_refl _) _
 replace c0 := keepsC hb0 c0
 replace c1 := keepsC hb0 c1
 replace c2 := keepsC hb0 c2
 replace kC := hKC.out _ _ hb0 kC
 replace hL0 := hL0.new rfl [.int .u64 0, .string ⟨#[]⟩, .bool false, .int .u64 0, .string ⟨#[]⟩] 36
 generalize hweq : w.alloc (.cells #[.int .u64 0, .string ⟨#[]⟩, .bool false, .int .u64 0, .string ⟨#[]⟩] 36) = x1 at hL0 c0 c1 c2 kC
 clear hb0
 go_enter Tryz.func156, Tryz.ntmps156
 go_wp2_with fail
 with_reducible refine Calls.mono (HA.out _ kC) ?_
 rintro e x2 ⟨rfl, hb⟩
 replace hL0 := hL0.call hb
 clear hb hweq c0 c1 c2
 have hA := hL0.fc
 simp only [zF, Nat.reduceAdd] at hA
 have hPt := hL0.put 0 (w.heap.size) _ rfl [.int .u64 ((zl q.num : Nat) : Int), .string (zh q.num), .bool (zs q.num), .int .u64 ((lo (fe q) : Nat) : Int), .string (hs (fe q))] rfl
 simp only [setAll, List.set_cons_zero, List.set_cons_succ] at hPt
 generalize hput1 : (((((x2.setCell ⟨w.heap.size, 0, none⟩ (.int .u64 ((zl q.num : Nat) : Int))).setCell ⟨w.heap.size, 1, none⟩ (.string (zh q.num))).setCell ⟨w.heap.size, 2, none⟩ (.bool (zs q.num))).setCell ⟨w.heap.size, 3, none⟩ (.int .u64 ((lo (fe q) : Nat) : Int))).setCell ⟨w.heap.size, 4, none⟩ (.string (hs (fe q)))) = x9 at hPt
 have hB1 := hPt.fc
 simp only [zF, Nat.reduceAdd] at hB1
 go_wp2_with fail
 exact bodyPost_ret (v := fracV q) (by simp [results, Tryz.results156, go_sem, hB1]) rfl ⟨rfl, hPt.bl⟩
theorem mapp1_w (i k r c n d b1 b2 : Nat) (ao : Option Addr) (u v : Value) (q : Rat) (KC : World → Prop) (hKC : Keeps KC) (HR : ∀ w, Calls Tryz.prog 108 #[.agg #[.int .i64 (r : Int), .int .i64 (c : Int), .slice ao n d], .int .i64 (i : Int)] w fun xe w' => xe = .returned (u) ∧ Below w.heap.size w w') (HD : ∀ w, KC w → Calls Tryz.prog 107 #[u, v] w fun xe w' => xe = .returned (fracV q) ∧ Below w.heap.size w w') (w : World) (kC : KC w) (c0 : w.cell? ⟨b1, 0, none⟩ = some (.int .i64 (r : Int))) (c1 : w.cell? ⟨b1, 1, none⟩ = some (.int .i64 (c : Int))) (c2 : w.cell? ⟨b1, 2, none⟩ = some (.slice ao n d)) (c3 : w.cell? ⟨b2, 0, none⟩ = some (v)) :
  Calls Tryz.prog 161 #[.int .i64 (i : Int), .int .i64 (k : Int), .pointer (some ⟨b1, 0, none⟩), .pointer (some ⟨b2, 0, none⟩)] w fun xe w' => xe = .returned (fracV q) ∧ Below w.heap.size w w' := by
 replace HR := Lib.hid HR
 replace HD := Lib.hid HD
 replace hKC := Lib.hid hKC
 have hL0 : GL w w [] := GL.start w
 have hb0 : Below w.heap.size w (w.alloc (.cells #[.int .u64 0, .string ⟨#[]⟩, .bool false, .int .u64 0, .string ⟨#[]⟩] 36)) := (Below.refl _ _).alloc (Nat.le_refl _) _
 replace c0 := keepsC hb0 c0
 replace c1 := keepsC hb0 c1
 replace c2 := keepsC hb0 c2
 replace c3 := keepsC hb0 c3
 replace kC := hKC.out _ _ hb0 kC
 replace hL0 := hL0.new rfl [.int .u64 0, .string ⟨#[]⟩, .bool false, .int .u64 0, .string ⟨#[]⟩] 36
 generalize hweq : w.alloc (.cells #[.int .u64 0, .string ⟨#[]⟩, .bool false, .int .u64 0, .string ⟨#[]⟩] 36) = x1 at hL0 c0 c1 c2 c3 kC
 clear hb0
 replace c0 := Lib.hid c0
 replace c1 := Lib.hid c1
 replace c2 := Lib.hid c2
 replace c3 := Lib.hid c3
 replace kC := Lib.hid kC
 go_enter Tryz.func161, Tryz.ntmps161
 go_upto_region 1 with fail
 clear hweq
 obtain ⟨α, iα, F, hF1, hF2⟩ := cls x1
 have hq0 : ∀ yz, (F yz).cell? ⟨b1, 0, none⟩ = some (.int .i64 (r : Int)) := fun yz => keepsC (hF1 yz) c0.out
 have hq1 : ∀ yz, (F yz).cell? ⟨b1, 1, none⟩ = some (.int .i64 (c : Int)) := fun yz => keepsC (hF1 yz) c1.out
 have hq2 : ∀ yz, (F yz).cell? ⟨b1, 2, none⟩ = some (.slice ao n d) := fun yz => keepsC (hF1 yz) c2.out
 have hq3 : ∀ yz, (F yz).cell? ⟨b2, 0, none⟩ = some (v) := fun yz => keepsC (hF1 yz) c3.out
 have kC1 := kC.out
 refine region_qs 5 (C := fun w' => ∃ x, w' = F x) (by kernel_rfl) (by kernel_rfl) (cls_drew hF2) ?_
 simp only [zT]
 repeat (go_big_quiet_step (first | fail | (go_at_call 108; with_reducible exact cls_call hF1 hF2 HR.out _) | (go_at_call 107; with_reducible exact cls_callK hKC.out hF1 hF2 kC1 HD.out _)))
 refine wpQuiet_nil ?_
 rintro wq ⟨xq, rfl⟩
 replace hL0 := hL0.call (hF1 xq)
 clear hq0 hq1 hq2 hq3 hF2 kC1
 generalize F xq = x2 at hL0 ⊢
 clear hF1 xq iα F α
 have hA := hL0.fc
 simp only [zF, Nat.reduceAdd] at hA
 have hPt := hL0.put 0 (w.heap.size) _ rfl [.int .u64 ((zl q.num : Nat) : Int), .string (zh q.num), .bool (zs q.num), .int .u64 ((lo (fe q) : Nat) : Int), .string (hs (fe q))] rfl
 simp only [setAll, List.set_cons_zero, List.set_cons_succ] at hPt
 generalize hput1 : (((((x2.setCell ⟨w.heap.size, 0, none⟩ (.int .u64 ((zl q.num : Nat) : Int))).setCell ⟨w.heap.size, 1, none⟩ (.string (zh q.num))).setCell ⟨w.heap.size, 2, none⟩ (.bool (zs q.num))).setCell ⟨w.heap.size, 3, none⟩ (.int .u64 ((lo (fe q) : Nat) : Int))).setCell ⟨w.heap.size, 4, none⟩ (.string (hs (fe q)))) = x9 at hPt
 have hB1 := hPt.fc
 simp only [zF, Nat.reduceAdd] at hB1
 go_wp2_with fail
 exact bodyPost_ret (v := fracV q) (by simp [results, Tryz.results161, go_sem, hB1]) rfl ⟨rfl, hPt.bl⟩
theorem mmul1_w (i k r c n d ry cy ny dy b1 b2 : Nat) (ao ao2 : Option Addr) (u v : Value) (q : Rat) (KC : World → Prop) (hKC : Keeps KC) (HR : ∀ w, Calls Tryz.prog 108 #[.agg #[.int .i64 (r : Int), .int .i64 (c : Int), .slice ao n d], .int .i64 (i : Int)] w fun xe w' => xe = .returned (u) ∧ Below w.heap.size w w') (HS : ∀ w, Calls Tryz.prog 108 #[.agg #[.int .i64 (ry : Int), .int .i64 (cy : Int), .slice ao2 ny dy], .int .i64 (k : Int)] w fun xe w' => xe = .returned (v) ∧ Below w.heap.size w w') (HD : ∀ w, KC w → Calls Tryz.prog 107 #[u, v] w fun xe w' => xe = .returned (fracV q) ∧ Below w.heap.size w w') (w : World) (kC : KC w) (c0 : w.cell? ⟨b1, 0, none⟩ = some (.int .i64 (r : Int))) (c1 : w.cell? ⟨b1, 1, none⟩ = some (.int .i64 (c : Int))) (c2 : w.cell? ⟨b1, 2, none⟩ = some (.slice ao n d)) (c3 : w.cell? ⟨b2, 0, none⟩ = some (.int .i64 (ry : Int))) (c4 : w.cell? ⟨b2, 1, none⟩ = some (.int .i64 (cy : Int))) (c5 : w.cell? ⟨b2, 2, none⟩ = some (.slice ao2 ny dy)) :
  Calls Tryz.prog 106 #[.int .i64 (i : Int), .int .i64 (k : Int), .pointer (some ⟨b1, 0, none⟩), .pointer (some ⟨b2, 0, none⟩)] w fun xe w' => xe = .returned (fracV q) ∧ Below w.heap.size w w' := by
 replace HR := Lib.hid HR
 replace HS := Lib.hid HS
 replace HD := Lib.hid HD
 replace hKC := Lib.hid hKC
 have hL0 : GL w w [] := GL.start w
 have hb0 : Below w.heap.size w (w.alloc (.cells #[.int .u64 0, .string ⟨#[]⟩, .bool false, .int .u64 0, .string ⟨#[]⟩] 36)) := (Below.refl _ _).alloc (Nat.le_refl _) _
 replace c0 := keepsC hb0 c0
 replace c1 := keepsC hb0 c1
 replace c2 := keepsC hb0 c2
 replace c3 := keepsC hb0 c3
 replace c4 := keepsC hb0 c4
 replace c5 := keepsC hb0 c5
 replace kC := hKC.out _ _ hb0 kC
 replace hL0 := hL0.new rfl [.int .u64 0, .string ⟨#[]⟩, .bool false, .int .u64 0, .string ⟨#[]⟩] 36
 generalize hweq : w.alloc (.cells #[.int .u64 0, .string ⟨#[]⟩, .bool false, .int .u64 0, .string ⟨#[]⟩] 36) = x1 at hL0 c0 c1 c2 c3 c4 c5 kC
 clear hb0
 replace c0 := Lib.hid c0
 replace c1 := Lib.hid c1
 replace c2 := Lib.hid c2
 replace c3 := Lib.hid c3
 replace c4 := Lib.hid c4
 replace c5 := Lib.hid c5
 replace kC := Lib.hid kC
 go_enter Tryz.func106, Tryz.ntmps106
 go_upto_region 1 with fail
 clear hweq
 obtain ⟨α, iα, F, hF1, hF2⟩ := cls x1
 have hq0 : ∀ yz, (F yz).cell? ⟨b1, 0, none⟩ = some (.int .i64 (r : Int)) := fun yz => keepsC (hF1 yz) c0.out
 have hq1 : ∀ yz, (F yz).cell? ⟨b1, 1, none⟩ = some (.int .i64 (c : Int)) := fun yz => keepsC (hF1 yz) c1.out
 have hq2 : ∀ yz, (F yz).cell? ⟨b1, 2, none⟩ = some (.slice ao n d) := fun yz => keepsC (hF1 yz) c2.out
 have hq3 : ∀ yz, (F yz).cell? ⟨b2, 0, none⟩ = some (.int .i64 (ry : Int)) := fun yz => keepsC (hF1 yz) c3.out
 have hq4 : ∀ yz, (F yz).cell? ⟨b2, 1, none⟩ = some (.int .i64 (cy : Int)) := fun yz => keepsC (hF1 yz) c4.out
 have hq5 : ∀ yz, (F yz).cell? ⟨b2, 2, none⟩ = some (.slice ao2 ny dy) := fun yz => keepsC (hF1 yz) c5.out
 have kC1 := kC.out
 refine region_qs 7 (C := fun w' => ∃ x, w' = F x) (by kernel_rfl) (by kernel_rfl) (cls_drew hF2) ?_
 simp only [zT]
 repeat (go_big_quiet_step (first | fail | (go_at_call 108; with_reducible exact cls_call hF1 hF2 HR.out _) | (go_at_call 108; with_reducible exact cls_call hF1 hF2 HS.out _) | (go_at_call 107; with_reducible exact cls_callK hKC.out hF1 hF2 kC1 HD.out _)))
 refine wpQuiet_nil ?_
 rintro wq ⟨xq, rfl⟩
 replace hL0 := hL0.call (hF1 xq)
 clear hq0 hq1 hq2 hq3 hq4 hq5 hF2 kC1
 generalize F xq = x2 at hL0 ⊢
 clear hF1 xq iα F α
 have hA := hL0.fc
 simp only [zF, Nat.reduceAdd] at hA
 have hPt := hL0.put 0 (w.heap.size) _ rfl [.int .u64 ((zl q.num : Nat) : Int), .string (zh q.num), .bool (zs q.num), .int .u64 ((lo (fe q) : Nat) : Int), .string (hs (fe q))] rfl
 simp only [setAll, List.set_cons_zero, List.set_cons_succ] at hPt
 generalize hput1 : (((((x2.setCell ⟨w.heap.size, 0, none⟩ (.int .u64 ((zl q.num : Nat) : Int))).setCell ⟨w.heap.size, 1, none⟩ (.string (zh q.num))).setCell ⟨w.heap.size, 2, none⟩ (.bool (zs q.num))).setCell ⟨w.heap.size, 3, none⟩ (.int .u64 ((lo (fe q) : Nat) : Int))).setCell ⟨w.heap.size, 4, none⟩ (.string (hs (fe q)))) = x9 at hPt
 have hB1 := hPt.fc
 simp only [zF, Nat.reduceAdd] at hB1
 go_wp2_with fail
 exact bodyPost_ret (v := fracV q) (by simp [results, Tryz.results106, go_sem, hB1]) rfl ⟨rfl, hPt.bl⟩
theorem madd1_w (i k r c n d ry cy ny dy b1 b2 b3 : Nat) (ao ao2 : Option Addr) (x y q : Rat) (KC : World → Prop) (hKC : Keeps KC) (HA : ∀ w, KC w → Calls Tryz.prog 92 #[.agg #[.int .i64 (r : Int), .int .i64 (c : Int), .slice ao n d], .int .i64 (i : Int), .int .i64 (k : Int)] w fun xe w' => xe = .returned (fracV x) ∧ Below w.heap.size w w') (HB : ∀ w, KC w → Calls Tryz.prog 92 #[.agg #[.int .i64 (ry : Int), .int .i64 (cy : Int), .slice ao2 ny dy], .int .i64 (i : Int), .int .i64 (k : Int)] w fun xe w' => xe = .returned (fracV y) ∧ Below w.heap.size w w') (HC : ∀ w, Calls Tryz.prog 14 #[fracV x, fracV y] w fun xe w' => xe = .returned (fracV q) ∧ Below w.heap.size w w') (w : World) (kC : KC w) (c0 : w.cell? ⟨b1, 0, none⟩ = some (.func (.func 14) #[] #[])) (c1 : w.cell? ⟨b2, 0, none⟩ = some (.int .i64 (r : Int))) (c2 : w.cell? ⟨b2, 1, none⟩ = some (.int .i64 (c : Int))) (c3 : w.cell? ⟨b2, 2, none⟩ = some (.slice ao n d)) (c4 : w.cell? ⟨b3, 0, none⟩ = some (.int .i64 (ry : Int))) (c5 : w.cell? ⟨b3, 1, none⟩ = some (.int .i64 (cy : Int))) (c6 : w.cell? ⟨b3, 2, none⟩ = some (.slice ao2 ny dy)) :
  Calls Tryz.prog 180 #[.int .i64 (i : Int), .int .i64 (k : Int), .pointer (some ⟨b1, 0, none⟩), .pointer (some ⟨b2, 0, none⟩), .pointer (some ⟨b3, 0, none⟩)] w fun xe w' => xe = .returned (fracV q) ∧ Below w.heap.size w w' := by
 replace HA := Lib.hid HA
 replace HB := Lib.hid HB
 replace HC := Lib.hid HC
 replace hKC := Lib.hid hKC
 have hL0 : GL w w [] := GL.start w
 have hb0 : Below w.heap.size w (w.alloc (.cells #[.int .u64 0, .string ⟨#[]⟩, .bool false, .int .u64 0, .string ⟨#[]⟩] 36)) := (Below.refl _ _).alloc (Nat.le_refl _) _
 replace c0 := keepsC hb0 c0
 replace c1 := keepsC hb0 c1
 replace c2 := keepsC hb0 c2
 replace c3 := keepsC hb0 c3
 replace c4 := keepsC hb0 c4
 replace c5 := keepsC hb0 c5
 replace c6 := keepsC hb0 c6
 replace kC := hKC.out _ _ hb0 kC
 replace hL0 := hL0.new rfl [.int .u64 0, .string ⟨#[]⟩, .bool false, .int .u64 0, .string ⟨#[]⟩] 36
 generalize hweq : w.alloc (.cells #[.int .u64 0, .string ⟨#[]⟩, .bool false, .int .u64 0, .string ⟨#[]⟩] 36) = x1 at hL0 c0 c1 c2 c3 c4 c5 c6 kC
 clear hb0
 replace c0 := Lib.hid c0
 replace c1 := Lib.hid c1
 replace c2 := Lib.hid c2
 replace c3 := Lib.hid c3
 replace c4 := Lib.hid c4
 replace c5 := Lib.hid c5
 replace c6 := Lib.hid c6
 replace kC := Lib.hid kC
 go_enter Tryz.func180, Tryz.ntmps180
 go_upto_region 1 with fail
 clear hweq
 obtain ⟨α, iα, F, hF1, hF2⟩ := cls x1
 have hq0 : ∀ yz, (F yz).cell? ⟨b1, 0, none⟩ = some (.func (.func 14) #[] #[]) := fun yz => keepsC (hF1 yz) c0.out
 have hq1 : ∀ yz, (F yz).cell? ⟨b2, 0, none⟩ = some (.int .i64 (r : Int)) := fun yz => keepsC (hF1 yz) c1.out
 have hq2 : ∀ yz, (F yz).cell? ⟨b2, 1, none⟩ = some (.int .i64 (c : Int)) := fun yz => keepsC (hF1 yz) c2.out
 have hq3 : ∀ yz, (F yz).cell? ⟨b2, 2, none⟩ = some (.slice ao n d) := fun yz => keepsC (hF1 yz) c3.out
 have hq4 : ∀ yz, (F yz).cell? ⟨b3, 0, none⟩ = some (.int .i64 (ry : Int)) := fun yz => keepsC (hF1 yz) c4.out
 have hq5 : ∀ yz, (F yz).cell? ⟨b3, 1, none⟩ = some (.int .i64 (cy : Int)) := fun yz => keepsC (hF1 yz) c5.out
 have hq6 : ∀ yz, (F yz).cell? ⟨b3, 2, none⟩ = some (.slice ao2 ny dy) := fun yz => keepsC (hF1 yz) c6.out
 have kC1 := kC.out
 refine region_qs 10 (C := fun w' => ∃ x, w' = F x) (by kernel_rfl) (by kernel_rfl) (cls_drew hF2) ?_
 simp only [zT]
 repeat (go_big_quiet_step (first | fail | (go_at_call 92; with_reducible exact cls_callK hKC.out hF1 hF2 kC1 HA.out _) | (go_at_call 92; with_reducible exact cls_callK hKC.out hF1 hF2 kC1 HB.out _) | (go_at_call 14; with_reducible exact cls_call hF1 hF2 HC.out _)))
 refine wpQuiet_nil ?_
 rintro wq ⟨xq, rfl⟩
 replace hL0 := hL0.call (hF1 xq)
 clear hq0 hq1 hq2 hq3 hq4 hq5 hq6 hF2 kC1
 generalize F xq = x2 at hL0 ⊢
 clear hF1 xq iα F α
 have hA := hL0.fc
 simp only [zF, Nat.reduceAdd] at hA
 have hPt := hL0.put 0 (w.heap.size) _ rfl [.int .u64 ((zl q.num : Nat) : Int), .string (zh q.num), .bool (zs q.num), .int .u64 ((lo (fe q) : Nat) : Int), .string (hs (fe q))] rfl
 simp only [setAll, List.set_cons_zero, List.set_cons_succ] at hPt
 generalize hput1 : (((((x2.setCell ⟨w.heap.size, 0, none⟩ (.int .u64 ((zl q.num : Nat) : Int))).setCell ⟨w.heap.size, 1, none⟩ (.string (zh q.num))).setCell ⟨w.heap.size, 2, none⟩ (.bool (zs q.num))).setCell ⟨w.heap.size, 3, none⟩ (.int .u64 ((lo (fe q) : Nat) : Int))).setCell ⟨w.heap.size, 4, none⟩ (.string (hs (fe q)))) = x9 at hPt
 have hB1 := hPt.fc
 simp only [zF, Nat.reduceAdd] at hB1
 go_wp2_with fail
 exact bodyPost_ret (v := fracV q) (by simp [results, Tryz.results180, go_sem, hB1]) rfl ⟨rfl, hPt.bl⟩
theorem mpart1_w (i k r c n d b1 b2 b3 gp np cp gq nq cq p q0 : Nat) (ao : Option Addr) (q : Rat) (KC : World → Prop) (hKC : Keeps KC) (HA : ∀ w, KC w → Calls Tryz.prog 92 #[.agg #[.int .i64 (r : Int), .int .i64 (c : Int), .slice ao n d], .int .i64 (p : Int), .int .i64 (q0 : Int)] w fun xe w' => xe = .returned (fracV q) ∧ Below w.heap.size w w') (hi : i < np) (hk : k < nq) (w : World) (kC : KC w) (c0 : w.cell? ⟨b1, 0, none⟩ = some (.int .i64 (r : Int))) (c1 : w.cell? ⟨b1, 1, none⟩ = some (.int .i64 (c : Int))) (c2 : w.cell? ⟨b1, 2, none⟩ = some (.slice ao n d)) (c3 : w.cell? ⟨b2, 0, none⟩ = some (.slice (some ⟨gp, 0, none⟩) np cp)) (c4 : w.cell? ⟨b3, 0, none⟩ = some (.slice (some ⟨gq, 0, none⟩) nq cq)) (c5 : w.cell? ⟨gp, i, none⟩ = some (.int .i64 (p : Int))) (c6 : w.cell? ⟨gq, k, none⟩ = some (.int .i64 (q0 : Int))) :
  Calls Tryz.prog 97 #[.int .i64 (i : Int), .int .i64 (k : Int), .pointer (some ⟨b1, 0, none⟩), .pointer (some ⟨b2, 0, none⟩), .pointer (some ⟨b3, 0, none⟩)] w fun xe w' => xe = .returned (fracV q) ∧ Below w.heap.size w w' := by
 replace HA := Lib.hid HA
 replace hKC := Lib.hid hKC
 have k0 : (0 : Int) ≤ (i : Int) := Int.natCast_nonneg _
 have k1 : (i : Int) < (np : Int) := by omega
 have k2 : (0 : Int) ≤ (k : Int) := Int.natCast_nonneg _
 have k3 : (k : Int) < (nq : Int) := by omega
 clear hi hk
 have hL0 : GL w w [] := GL.start w
 have hb0 : Below w.heap.size w (w.alloc (.cells #[.int .u64 0, .string ⟨#[]⟩, .bool false, .int .u64 0, .string ⟨#[]⟩] 36)) := (Below.refl _ _).alloc (Nat.le_refl _) _
 replace c0 := keepsC hb0 c0
 replace c1 := keepsC hb0 c1
 replace c2 := keepsC hb0 c2
 replace c3 := keepsC hb0 c3
 replace c4 := keepsC hb0 c4
 replace c5 := keepsC hb0 c5
 replace c6 := keepsC hb0 c6
 replace kC := hKC.out _ _ hb0 kC
 replace hL0 := hL0.new rfl [.int .u64 0, .string ⟨#[]⟩, .bool false, .int .u64 0, .string ⟨#[]⟩] 36
 generalize hweq : w.alloc (.cells #[.int .u64 0, .string ⟨#[]⟩, .bool false, .int .u64 0, .string ⟨#[]⟩] 36) = x1 at hL0 c0 c1 c2 c3 c4 c5 c6 kC
 clear hb0
 replace c0 := Lib.hid c0
 replace c1 := Lib.hid c1
 replace c2 := Lib.hid c2
 replace c3 := Lib.hid c3
 replace c4 := Lib.hid c4
 replace c5 := Lib.hid c5
 replace c6 := Lib.hid c6
 replace kC := Lib.hid kC
 go_enter Tryz.func97, Tryz.ntmps97
 go_upto_region 1 with fail
 clear hweq
 obtain ⟨α, iα, F, hF1, hF2⟩ := cls x1
 have hq0 : ∀ yz, (F yz).cell? ⟨b1, 0, none⟩ = some (.int .i64 (r : Int)) := fun yz => keepsC (hF1 yz) c0.out
 have hq1 : ∀ yz, (F yz).cell? ⟨b1, 1, none⟩ = some (.int .i64 (c : Int)) := fun yz => keepsC (hF1 yz) c1.out
 have hq2 : ∀ yz, (F yz).cell? ⟨b1, 2, none⟩ = some (.slice ao n d) := fun yz => keepsC (hF1 yz) c2.out
 have hq3 : ∀ yz, (F yz).cell? ⟨b2, 0, none⟩ = some (.slice (some ⟨gp, 0, none⟩) np cp) := fun yz => keepsC (hF1 yz) c3.out
 have hq4 : ∀ yz, (F yz).cell? ⟨b3, 0, none⟩ = some (.slice (some ⟨gq, 0, none⟩) nq cq) := fun yz => keepsC (hF1 yz) c4.out
 have hq5 : ∀ yz, (F yz).cell? ⟨gp, i, none⟩ = some (.int .i64 (p : Int)) := fun yz => keepsC (hF1 yz) c5.out
 have hq6 : ∀ yz, (F yz).cell? ⟨gq, k, none⟩ = some (.int .i64 (q0 : Int)) := fun yz => keepsC (hF1 yz) c6.out
 have kC1 := kC.out
 refine region_qs 10 (C := fun w' => ∃ x, w' = F x) (by kernel_rfl) (by kernel_rfl) (cls_drew hF2) ?_
 simp only [zT]
 repeat (go_big_quiet_step (first | fail | (go_at_call 92; with_reducible exact cls_callK hKC.out hF1 hF2 kC1 HA.out _)))
 refine wpQuiet_nil ?_
 rintro wq ⟨xq, rfl⟩
 replace hL0 := hL0.call (hF1 xq)
 clear hq0 hq1 hq2 hq3 hq4 hq5 hq6 hF2 kC1
 generalize F xq = x2 at hL0 ⊢
 clear hF1 xq iα F α
 have hA := hL0.fc
 simp only [zF, Nat.reduceAdd] at hA
 have hPt := hL0.put 0 (w.heap.size) _ rfl [.int .u64 ((zl q.num : Nat) : Int), .string (zh q.num), .bool (zs q.num), .int .u64 ((lo (fe q) : Nat) : Int), .string (hs (fe q))] rfl
 simp only [setAll, List.set_cons_zero, List.set_cons_succ] at hPt
 generalize hput1 : (((((x2.setCell ⟨w.heap.size, 0, none⟩ (.int .u64 ((zl q.num : Nat) : Int))).setCell ⟨w.heap.size, 1, none⟩ (.string (zh q.num))).setCell ⟨w.heap.size, 2, none⟩ (.bool (zs q.num))).setCell ⟨w.heap.size, 3, none⟩ (.int .u64 ((lo (fe q) : Nat) : Int))).setCell ⟨w.heap.size, 4, none⟩ (.string (hs (fe q)))) = x9 at hPt
 have hB1 := hPt.fc
 simp only [zF, Nat.reduceAdd] at hB1
 go_wp2_with fail
 exact bodyPost_ret (v := fracV q) (by simp [results, Tryz.results97, go_sem, hB1]) rfl ⟨rfl, hPt.bl⟩
end Go.Proofs.YthffglapmkkohaaGreatDoor
namespace Go.Proofs.YthffglapmkkohaaGreatDoor
open Go.RowKit
attribute [local irreducible] lo hs sm s64 c64 d64 b64 mh ml pd pc qd qc val hiB str cmpI srD lz nb zl zh zs fe rowV tabV gv bsV tabM
theorem enmturn : ∀ (args : Array Value) (w : World), (callFunc 156 args).run Tryz.prog w = .ok (.enter 156 args) w := enters_of Tryz.func156 (by kernel_rfl) rfl
theorem enmapp : ∀ (args : Array Value) (w : World), (callFunc 161 args).run Tryz.prog w = .ok (.enter 161 args) w := enters_of Tryz.func161 (by kernel_rfl) rfl
theorem enmmul : ∀ (args : Array Value) (w : World), (callFunc 106 args).run Tryz.prog w = .ok (.enter 106 args) w := enters_of Tryz.func106 (by kernel_rfl) rfl
theorem enmcomb : ∀ (args : Array Value) (w : World), (callFunc 180 args).run Tryz.prog w = .ok (.enter 180 args) w := enters_of Tryz.func180 (by kernel_rfl) rfl
theorem enmpart : ∀ (args : Array Value) (w : World), (callFunc 97 args).run Tryz.prog w = .ok (.enter 97 args) w := enters_of Tryz.func97 (by kernel_rfl) rfl
/-- The dot product. -/
theorem mdotV (x y : List Rat) (n k : Nat) (hx : x.length = n) (hy : y.length = n) (hn : n ≤ 1000) (hk : n * (k + k + 1) ≤ 9000000) (hk2 : k + k ≤ 2000000) (sx : ∀ q ∈ x, Sz q k) (sy : ∀ q ∈ y, Sz q k) (va vb : Value) (w : World) (hv : RQ w va x) (hu : RQ w vb y) :
  Calls Tryz.prog 107 #[va, vb] w fun xe w' => xe = .returned (fracV (bsV n fun i => gv x i * gv y i)) ∧ Below w.heap.size w w' := by
 have HD := fun (w : World) (h : RQ w va x ∧ RQ w vb y) => mDotV x y n k hx hy hn hk hk2 sx sy va vb w h.1 h.2
 generalize bsV n (fun i => gv x i * gv y i) = q at HD ⊢
 obtain ⟨aa, ca, rfl⟩ := hv.form
 obtain ⟨ab, cb, rfl⟩ := hu.form
 have HD1 := Lib.hid HD
 clear HD
 have hL0 : GL w w [] := GL.start w
 obtain ⟨x1, hweq, hL0⟩ := GL.named (hL0.new rfl [.int .u64 0, .string ⟨#[]⟩, .bool false, .int .u64 0, .string ⟨#[]⟩] 36)
 have hv1 := Lib.hid (hv.below hL0.bl)
 have hu1 := Lib.hid (hu.below hL0.bl)
 clear hv hu hx hy sx sy hn hk hk2
 go_enter Tryz.func107, Tryz.ntmps107
 go_wp2_with fail
 with_reducible refine Calls.mono (HD1.out _ ⟨hv1.out, hu1.out⟩) ?_
 rintro e y1 ⟨rfl, hb⟩
 replace hL0 := hL0.call hb
 clear hb hweq hv1 hu1
 have hL1 := hL0.new rfl [.int .u64 0, .string ⟨#[]⟩, .bool false, .int .u64 0, .string ⟨#[]⟩] 36
 generalize hweq : y1.alloc (.cells #[.int .u64 0, .string ⟨#[]⟩, .bool false, .int .u64 0, .string ⟨#[]⟩] 36) = y2 at hL1
 have hP := hL1.put 0 (y1.heap.size) _ rfl [.int .u64 ((zl q.num : Nat) : Int), .string (zh q.num), .bool (zs q.num), .int .u64 ((lo (fe q) : Nat) : Int), .string (hs (fe q))] rfl
 simp only [setAll, List.set_cons_zero, List.set_cons_succ] at hP
 have hA := hL1.fc
 simp only [zF, Nat.reduceAdd] at hA
 generalize hput0 : (((((y2.setCell ⟨y1.heap.size, 0, none⟩ (.int .u64 ((zl q.num : Nat) : Int))).setCell ⟨y1.heap.size, 1, none⟩ (.string (zh q.num))).setCell ⟨y1.heap.size, 2, none⟩ (.bool (zs q.num))).setCell ⟨y1.heap.size, 3, none⟩ (.int .u64 ((lo (fe q) : Nat) : Int))).setCell ⟨y1.heap.size, 4, none⟩ (.string (hs (fe q)))) = y3 at hP
 clear hL0 hL1
 have hL0 := hP
 clear hP
 have hB0 := hL0.fc
 simp only [zF, Nat.reduceAdd] at hB0
 have hPt := hL0.put 1 (w.heap.size) _ rfl [.int .u64 ((zl q.num : Nat) : Int), .string (zh q.num), .bool (zs q.num), .int .u64 ((lo (fe q) : Nat) : Int), .string (hs (fe q))] rfl
 simp only [setAll, List.set_cons_zero, List.set_cons_succ] at hPt
 generalize hput1 : (((((y3.setCell ⟨w.heap.size, 0, none⟩ (.int .u64 ((zl q.num : Nat) : Int))).setCell ⟨w.heap.size, 1, none⟩ (.string (zh q.num))).setCell ⟨w.heap.size, 2, none⟩ (.bool (zs q.num))).setCell ⟨w.heap.size, 3, none⟩ (.int .u64 ((lo (fe q) : Nat) : Int))).setCell ⟨w.heap.size, 4, none⟩ (.string (hs (fe q)))) = y9 at hPt
 have hB1 := hPt.fc
 simp only [zF, Nat.reduceAdd] at hB1
 go_wp2_with fail
 exact bodyPost_ret (v := fracV q) (by simp [results, Tryz.results107, go_sem, hB1]) rfl ⟨rfl, hPt.bl⟩
theorem mturn_at (x : Mx) (hx : OKM x) (b1 : Nat) (u : Value) (i k : Nat) (hi : i < x.c) (hk : k < x.r) (w : World) (hw : BM w b1 u x) :
  Calls Tryz.prog 156 (#[.int .i64 (i : Int), .int .i64 (k : Int)] ++ #[.pointer (some ⟨b1, 0, none⟩)]) w fun xe w' => xe = .returned (fracV (ent x k i)) ∧ Below w.heap.size w w' := by
 obtain ⟨ao, d, rfl, -⟩ := hw.2.2.2.form
 exact mturn1_w i k x.r x.c x.l.length d b1 ao (ent x k i) (fun w => CQ w _ x.l) (CQ.keeps _ _) (fun w h => matV x hx k i hk hi _ w h) w hw.2.2.2 hw.1 hw.2.1 hw.2.2.1
theorem mapp_at (x : Mx) (v : List Rat) (K : Nat) (hx : OKM x) (hv : v.length = x.c) (h1 : x.c ≤ 1000) (h2 : x.c * (K + K + 1) ≤ 9000000) (h3 : K + K ≤ 2000000) (sx : ∀ q ∈ x.l, Sz q K) (sv : ∀ q ∈ v, Sz q K) (b1 b2 : Nat) (u s : Value) (i k : Nat) (hi : i < x.r) (w : World) (hw : BM w b1 u x ∧ RQ w s v ∧ w.cell? ⟨b2, 0, none⟩ = some s) :
  Calls Tryz.prog 161 (#[.int .i64 (i : Int), .int .i64 (k : Int)] ++ #[.pointer (some ⟨b1, 0, none⟩), .pointer (some ⟨b2, 0, none⟩)]) w fun xe w' => xe = .returned (fracV (bsV x.c fun t => ent x i t * gv v t)) ∧ Below w.heap.size w w' := by
 obtain ⟨hb, hs, hc⟩ := hw
 obtain ⟨a2, g1, g2⟩ := mrowV x hx i hi u w hb.2.2.2
 obtain ⟨ao, d, rfl, -⟩ := hb.2.2.2.form
 have HD := fun (w : World) (h : RQ w (.slice a2 x.c x.c) (rowL x i) ∧ RQ w s v) => mdotV (rowL x i) v x.c K (row_len x i) hv h1 h2 h3 (fun q hq => by
  obtain ⟨t, ht, rfl⟩ := tab_mem hq
  exact sx _ (gv_mem (by rw [hx.len]; exact ix_lt hi ht))) sv _ _ w h.1 h.2
 rw [bs_congr (g := fun t => ent x i t * gv v t) fun t ht => by rw [gv_row ht]] at HD
 exact mapp1_w i k x.r x.c x.l.length d b1 b2 ao _ s _ _ (Keeps.and (RQ.keeps _ _) (RQ.keeps _ _)) g1 HD w ⟨g2, hs⟩ hb.1 hb.2.1 hb.2.2.1 hc
theorem mmul_at (x y : Mx) (K : Nat) (hx : OKM x) (hy : OKM y) (hc : y.c = x.c) (h1 : x.c ≤ 1000) (h2 : x.c * (K + K + 1) ≤ 9000000) (h3 : K + K ≤ 2000000) (sx : ∀ q ∈ x.l, Sz q K) (sy : ∀ q ∈ y.l, Sz q K) (b1 b2 : Nat) (u s : Value) (i k : Nat) (hi : i < x.r) (hk : k < y.r) (w : World) (hw : BM w b1 u x ∧ BM w b2 s y) :
  Calls Tryz.prog 106 (#[.int .i64 (i : Int), .int .i64 (k : Int)] ++ #[.pointer (some ⟨b1, 0, none⟩), .pointer (some ⟨b2, 0, none⟩)]) w fun xe w' => xe = .returned (fracV (bsV x.c fun t => ent x i t * ent y k t)) ∧ Below w.heap.size w w' := by
 obtain ⟨hb, hs⟩ := hw
 obtain ⟨a2, g1, g2⟩ := mrowV x hx i hi u w hb.2.2.2
 obtain ⟨a3, g3, g4⟩ := mrowV y hy k hk s w hs.2.2.2
 obtain ⟨ao, d, rfl, -⟩ := hb.2.2.2.form
 obtain ⟨ao2, d2, rfl, -⟩ := hs.2.2.2.form
 have HD := fun (w : World) (h : RQ w (.slice a2 x.c x.c) (rowL x i) ∧ RQ w (.slice a3 y.c y.c) (rowL y k)) => mdotV (rowL x i) (rowL y k) x.c K (row_len x i) ((row_len y k).trans hc) h1 h2 h3 (fun q hq => by
  obtain ⟨t, ht, rfl⟩ := tab_mem hq
  exact sx _ (gv_mem (by rw [hx.len]; exact ix_lt hi ht))) (fun q hq => by
  obtain ⟨t, ht, rfl⟩ := tab_mem hq
  exact sy _ (gv_mem (by rw [hy.len]; exact ix_lt hk ht))) _ _ w h.1 h.2
 rw [bs_congr (g := fun t => ent x i t * ent y k t) fun t ht => by rw [gv_row ht, gv_row (by rw [hc]; exact ht)]] at HD
 exact mmul1_w i k x.r x.c x.l.length d y.r y.c y.l.length d2 b1 b2 ao ao2 _ _ _ _ (Keeps.and (RQ.keeps _ _) (RQ.keeps _ _)) g1 g3 HD w ⟨g2, g4⟩ hb.1 hb.2.1 hb.2.2.1 hs.1 hs.2.1 hs.2.2.1
theorem madd_at (x y : Mx) (K : Nat) (hx : OKM x) (hy : OKM y) (hr : y.r = x.r) (hc : y.c = x.c) (hK : K ≤ 1000000) (sx : ∀ q ∈ x.l, Sz q K) (sy : ∀ q ∈ y.l, Sz q K) (b1 b2 b3 : Nat) (u s : Value) (i k : Nat) (hi : i < x.r) (hk : k < x.c) (w : World) (hw : w.cell? ⟨b1, 0, none⟩ = some (.func (.func 14) #[] #[]) ∧ BM w b2 u x ∧ BM w b3 s y) :
  Calls Tryz.prog 180 (#[.int .i64 (i : Int), .int .i64 (k : Int)] ++ #[.pointer (some ⟨b1, 0, none⟩), .pointer (some ⟨b2, 0, none⟩), .pointer (some ⟨b3, 0, none⟩)]) w fun xe w' => xe = .returned (fracV (ent x i k + ent y i k)) ∧ Below w.heap.size w w' := by
 obtain ⟨hf, hb, hs⟩ := hw
 obtain ⟨ao, d, rfl, -⟩ := hb.2.2.2.form
 obtain ⟨ao2, d2, rfl, -⟩ := hs.2.2.2.form
 have z1 : Sz (ent x i k) K := sx _ (gv_mem (by rw [hx.len]; exact ix_lt hi hk))
 have z2 : Sz (ent y i k) K := sy _ (gv_mem (by rw [hy.len]; exact ix_lt (by omega) (by omega)))
 exact madd1_w i k x.r x.c x.l.length d y.r y.c y.l.length d2 b1 b2 b3 ao ao2 _ _ _ (fun w => CQ w _ x.l ∧ CQ w _ y.l) (Keeps.and (CQ.keeps _ _) (CQ.keeps _ _)) (fun w h => matV x hx i k hi hk _ w h.1) (fun w h => matV y hy i k (by omega) (by omega) _ w h.2) (fun w => addF _ _ K z1 z2 (by omega) w) w ⟨hb.2.2.2, hs.2.2.2⟩ hf hb.1 hb.2.1 hb.2.2.1 hs.1 hs.2.1 hs.2.2.1
theorem mpart_at (x : Mx) (hx : OKM x) (ps qs : List Nat) (hp : ∀ p ∈ ps, p < x.r) (hq : ∀ p ∈ qs, p < x.c) (b1 b2 b3 : Nat) (u va vb : Value) (i k : Nat) (hi : i < ps.length) (hk : k < qs.length) (w : World) (hw : BM w b1 u x ∧ ILs w va (ps.map Int.ofNat) ∧ ILs w vb (qs.map Int.ofNat) ∧ w.cell? ⟨b2, 0, none⟩ = some va ∧ w.cell? ⟨b3, 0, none⟩ = some vb) :
  Calls Tryz.prog 97 (#[.int .i64 (i : Int), .int .i64 (k : Int)] ++ #[.pointer (some ⟨b1, 0, none⟩), .pointer (some ⟨b2, 0, none⟩), .pointer (some ⟨b3, 0, none⟩)]) w fun xe w' => xe = .returned (fracV (ent x (ps.getD i 0) (qs.getD k 0))) ∧ Below w.heap.size w w' := by
 obtain ⟨hb, h1, h2, h3, h4⟩ := hw
 obtain ⟨ao, d, rfl, -⟩ := hb.2.2.2.form
 obtain ⟨ap, cp, gp, rfl, e1, e2⟩ := h1
 obtain ⟨aq, cr, gq, rfl, e3, e4⟩ := h2
 rw [List.length_map] at e1 e3 h3 h4
 obtain ⟨rfl, -⟩ := e1 (by omega)
 obtain ⟨rfl, -⟩ := e3 (by omega)
 have c1 := e2 i (by rw [List.length_map]; exact hi)
 have c2 := e4 k (by rw [List.length_map]; exact hk)
 rw [List.getElem_map] at c1 c2
 rw [getN hi, getN hk]
 exact mpart1_w i k x.r x.c x.l.length d b1 b2 b3 gp ps.length cp gq qs.length cr ps[i] qs[k] ao _ (fun w => CQ w _ x.l) (CQ.keeps _ _) (fun w h => matV x hx _ _ (hp _ (List.getElem_mem hi)) (hq _ (List.getElem_mem hk)) _ w h) hi hk w hb.2.2.2 hb.1 hb.2.1 hb.2.2.1 h3 h4 c1 c2
end Go.Proofs.YthffglapmkkohaaGreatDoor
namespace Go.Proofs.YthffglapmkkohaaGreatDoor
open Go.RowKit
attribute [local irreducible] lo hs sm s64 c64 d64 b64 mh ml pd pc qd qc val hiB str cmpI srD lz nb zl zh zs fe rowV tabV gv bsV tabM
theorem mfault_w (m c g : Nat) (ao : Option Addr) (hm : m ≤ 100000) (w : World) (hx : 0 < m → ao = some ⟨g, 0, none⟩)
  (hc : ∀ i, i < m → ∃ (r k n d : Nat) (a : Option Addr), r ≤ 2048 ∧ k ≤ 2048 ∧ n = r * k ∧ w.cell? ⟨g, i * 3, none⟩ = some (.int .i64 (r : Int)) ∧ w.cell? ⟨g, i * 3 + 1, none⟩ = some (.int .i64 (k : Int)) ∧ w.cell? ⟨g, i * 3 + 2, none⟩ = some (.slice a n d)) :
  Calls Tryz.prog 105 #[.slice ao m c] w fun xe w' => xe = .returned (.int .i64 0) ∧ Below w.heap.size w w' := by
 replace hm := Lib.hid hm
 replace hx := Lib.hid hx
 replace hc := Lib.hid hc
 go_enter Tryz.func105, Tryz.ntmps105
 go_wp2_with fail
 go_loopg [8] m (fun gk iv wr => ∃ (k : Nat) (zi : Int), k + gk = m ∧ iv = .int .i64 zi ∧ zi = (k : Int) ∧ Below w.heap.size w wr)
 case atStart => exact ⟨0, 0, Nat.zero_add m, by first | rfl | go_num, rfl, Below.refl _ _⟩
 case round =>
  obtain ⟨k, zi, hik, rfl, hzi, hbl⟩ := hrel
  have hmm := hm.out
  rcases Nat.lt_or_ge k m with hin | hin
  ·subst hzi
   have k1 : (k : Int) < (m : Int) := by omega
   have k0 : (0 : Int) ≤ (k : Int) := Int.natCast_nonneg _
   have kb : (k : Int) ≤ 100000 := by omega
   obtain ⟨r, q, n, d, a, h1, h2, h3, c0, c1, c3⟩ := hc.out k hin
   have e0 := hx.out (by omega)
   subst e0
   have HK := Lib.hid (mcheck_ok r q n d a h1 h2 h3)
   clear h1 h2 h3
   replace c0 := keepsC hbl c0
   replace c1 := keepsC hbl c1
   replace c3 := keepsC hbl c3
   have hL0 := (GL.start wr).new rfl [.int .i64 (r : Int), .int .i64 (q : Int), .slice a n d] 56
   generalize hweq : wr.alloc (.cells #[.int .i64 (r : Int), .int .i64 (q : Int), .slice a n d] 56) = y1 at hL0
   have hA := hL0.fc
   simp only [zF, Nat.reduceAdd] at hA
   go_wp2_with fail
   with_reducible refine Calls.mono (HK.out _) ?_
   rintro e y2 ⟨rfl, hb⟩
   have hb2 := hbl.trans ((hL0.call hb).bl.mono hbl.size)
   clear hb hL0 hbl hA hweq c0 c1 c3
   replace hb2 := Lib.hid hb2
   go_wp2_with fail
   go_roundg (m - (k + 1))
   case measure => omega
   case rel => exact ⟨k + 1, _, by omega, by first | rfl | go_num, by omega, hb2.out⟩
  ·obtain rfl : k = m := by omega
   subst hzi
   have k1 : ¬ (k : Int) < (k : Int) := by omega
   replace hbl := Lib.hid hbl
   go_wp2_with fail
   exact bodyPost_ret (v := .int .i64 0) (by simp [results, Tryz.results105, go_sem]) rfl ⟨rfl, hbl.out⟩
theorem mfault_two (x y : Mx) (hx : OKM x) (hy : OKM y) (g : Nat) (u s : Value) (w : World) (hu : CQ w u x.l) (hs : CQ w s y.l) (hd : Hd w g [.int .i64 (x.r : Int), .int .i64 (x.c : Int), u, .int .i64 (y.r : Int), .int .i64 (y.c : Int), s]) :
  Calls Tryz.prog 105 #[.slice (some ⟨g, 0, none⟩) 2 2] w fun xe w' => xe = .returned (.int .i64 0) ∧ Below w.heap.size w w' := by
 obtain ⟨ao, d, rfl, -⟩ := hu.form
 obtain ⟨ao2, d2, rfl, -⟩ := hs.form
 refine mfault_w 2 2 g _ (by omega) w (fun _ => rfl) fun i hi => ?_
 rcases (by omega : i = 0 ∨ i = 1) with rfl | rfl
 ·exact ⟨x.r, x.c, x.l.length, d, ao, hx.r, hx.c, hx.len, hd.cell 0 (by simp), hd.cell 1 (by simp), hd.cell 2 (by simp)⟩
 ·exact ⟨y.r, y.c, y.l.length, d2, ao2, hy.r, hy.c, hy.len, hd.cell 3 (by simp), hd.cell 4 (by simp), hd.cell 5 (by simp)⟩
theorem mfaultWith_w (r q n d m c g : Nat) (a ao : Option Addr) (ln : Nat → Nat) (h1 : r ≤ 2048) (h2 : q ≤ 2048) (h3 : n = r * q) (hm : m ≤ 100000) (hln : ∀ i, i < m → ln i ≤ 2048) (w : World)
  (hx : 0 < m → ao = some ⟨g, 0, none⟩) (hc : ∀ i, i < m → ∃ a d, w.cell? ⟨g, i, none⟩ = some (.slice a (ln i) d)) :
  Calls Tryz.prog 116 #[.agg #[.int .i64 (r : Int), .int .i64 (q : Int), .slice a n d], .slice ao m c] w fun xe w' => xe = .returned (.int .i64 0) ∧ Below w.heap.size w w' := by
 have HK := Lib.hid (mcheck_ok r q n d a h1 h2 h3)
 clear h1 h2 h3
 replace hm := Lib.hid hm
 replace hln := Lib.hid hln
 replace hx := Lib.hid hx
 have hL0 : GL w w [] := GL.start w
 obtain ⟨x1, hweq, hL0⟩ := GL.named (hL0.new rfl [.int .i64 (r : Int), .int .i64 (q : Int), .slice a n d] 56)
 have hA := hL0.fc
 simp only [zF, Nat.reduceAdd] at hA
 go_enter Tryz.func116, Tryz.ntmps116
 go_wp2_with fail
 with_reducible refine Calls.mono (HK.out _) ?_
 rintro e y1 ⟨rfl, hb⟩
 replace hL0 := hL0.call hb
 clear hb hA hweq
 have hbl := hL0.bl
 clear hL0
 replace hc := Lib.hid hc
 go_wp2_with fail
 go_loopg [15] m (fun gk iv wr => ∃ (k : Nat) (zi : Int), k + gk = m ∧ iv = .int .i64 zi ∧ zi = (k : Int) ∧ Below w.heap.size w wr)
 case atStart => exact ⟨0, 0, Nat.zero_add m, by first | rfl | go_num, rfl, hbl⟩
 case round =>
  clear hbl
  obtain ⟨k, zi, hik, rfl, hzi, hbl⟩ := hrel
  have hmm := hm.out
  rcases Nat.lt_or_ge k m with hin | hin
  ·subst hzi
   have k1 : (k : Int) < (m : Int) := by omega
   have k0 : (0 : Int) ≤ (k : Int) := Int.natCast_nonneg _
   have kb : (k : Int) ≤ 100000 := by omega
   obtain ⟨a2, d2, hcell⟩ := hc.out k hin
   replace hcell := keepsC hbl hcell
   have hl := hln.out k hin
   have e0 := hx.out (by omega)
   subst e0
   have l1 : ¬ (2048 : Int) < (ln k : Int) := by omega
   have l2 : ¬ 2048 < ln k := by omega
   generalize ln k = lk at *
   replace hbl := Lib.hid hbl
   go_wp2_with fail
   go_roundg (m - (k + 1))
   case measure => omega
   case rel => exact ⟨k + 1, _, by omega, by first | rfl | go_num, by omega, hbl.out⟩
  ·obtain rfl : k = m := by omega
   subst hzi
   have k1 : ¬ (k : Int) < (k : Int) := by omega
   replace hbl := Lib.hid hbl
   go_wp2_with fail
   exact bodyPost_ret (v := .int .i64 0) (by simp [results, Tryz.results116, go_sem]) rfl ⟨rfl, hbl.out⟩
theorem mfaultWith1 (x : Mx) (hx : OKM x) (v : List Rat) (hv : v.length ≤ 2048) (g : Nat) (u s : Value) (w : World) (hu : CQ w u x.l) (hs : SlQ w s v) (hd : Hd w g [s]) :
  Calls Tryz.prog 116 #[.agg #[.int .i64 (x.r : Int), .int .i64 (x.c : Int), u], .slice (some ⟨g, 0, none⟩) 1 1] w fun xe w' => xe = .returned (.int .i64 0) ∧ Below w.heap.size w w' := by
 obtain ⟨ao, d, rfl, -⟩ := hu.form
 obtain ⟨a2, d2, rfl⟩ := slq_form' hs
 refine mfaultWith_w x.r x.c x.l.length d 1 1 g ao _ (fun _ => v.length) hx.r hx.c hx.len (by omega) (fun i _ => hv) w (fun _ => rfl) fun i hi => ?_
 obtain rfl : i = 0 := by omega
 exact ⟨a2, d2, hd.cell 0 (by simp)⟩
theorem mfaultWith2 (x : Mx) (hx : OKM x) (v y : List Rat) (hv : v.length ≤ 2048) (hy : y.length ≤ 2048) (g : Nat) (u s t : Value) (w : World) (hu : CQ w u x.l) (hs : SlQ w s v) (ht : SlQ w t y) (hd : Hd w g [s, t]) :
  Calls Tryz.prog 116 #[.agg #[.int .i64 (x.r : Int), .int .i64 (x.c : Int), u], .slice (some ⟨g, 0, none⟩) 2 2] w fun xe w' => xe = .returned (.int .i64 0) ∧ Below w.heap.size w w' := by
 obtain ⟨ao, d, rfl, -⟩ := hu.form
 obtain ⟨a2, d2, rfl⟩ := slq_form' hs
 obtain ⟨a3, d3, rfl⟩ := slq_form' ht
 refine mfaultWith_w x.r x.c x.l.length d 2 2 g ao _ (fun i => if i = 0 then v.length else y.length) hx.r hx.c hx.len (by omega) (fun i _ => by show (if i = 0 then v.length else y.length) ≤ 2048; split <;> omega) w (fun _ => rfl) fun i hi => ?_
 rcases (by omega : i = 0 ∨ i = 1) with rfl | rfl
 ·exact ⟨a2, d2, hd.cell 0 (by simp)⟩
 ·exact ⟨a3, d3, hd.cell 1 (by simp)⟩
theorem mturnedV (x : Mx) (hx : OKM x) (hn : x.r * x.c ≤ 100000) (u : Value) (w : World) (hu : CQ w u x.l) :
  Calls Tryz.prog 104 #[.agg #[.int .i64 (x.r : Int), .int .i64 (x.c : Int), u]] w fun xe w' => ∃ v, xe = .returned (.agg #[.int .i64 (x.c : Int), .int .i64 (x.r : Int), v]) ∧ NV w.heap.size (tabM x.c x.r fun i k => ent x k i).l v w' ∧ Below w.heap.size w w' := by
 have hL0 : GL w w [] := GL.start w
 obtain ⟨x1, hweq, hL0⟩ := GL.named ((hL0.new rfl [.int .i64 (x.r : Int), .int .i64 (x.c : Int), u] 56).new (K := w.heap.size + 1) (szA _ _) [.int .i64 0, .int .i64 0, .slice none 0 0] 56)
 have hu1 := hu.below hL0.bl
 have hB := BM.of (hL0.get _ _ (mK mZ)) hu1
 have HC := mbuild_w 156 #[.pointer (some ⟨w.heap.size, 0, none⟩)] enmturn x.c x.r (fun i k => ent x k i) (fun w => BM w _ u x) (BM.keeps _ _ _) (fun i k hi hk w h => mturn_at x hx _ u i k hi hk w h) hx.c hx.r (by rw [Nat.mul_comm]; exact hn) x1 hB
 generalize (tabM x.c x.r fun i k => ent x k i).l = tl at HC ⊢
 obtain ⟨ao, d, rfl, -⟩ := hu.form
 replace HC := Lib.hid HC
 clear hu hu1 hB hx hn
 have hA := hL0.fc
 simp only [zF, Nat.reduceAdd] at hA
 go_enter Tryz.func104, Tryz.ntmps104
 have hx0 := Lib.hid hL0
 go_wp2_with fail
 with_reducible refine Calls.mono (HC.out) ?_
 rintro e y1 ⟨u, rfl, hnv, hb⟩
 replace hL0 := hL0.call hb
 clear hb hA hweq
 replace hx0 := hx0.out
 obtain ⟨gu, rfl, hge, hHd⟩ := hnv
 replace hL0 := GL.tnew (M := []) hL0 hx0 hHd hge (fun p hp => by cases hp)
 simp only [List.nil_append] at hL0
 have hge2 := Lib.hid (Nat.le_trans hx0.bl.size hge)
 clear hx0 hge hHd
 have hA := cells_of _ 0 [] rfl (hL0.get _ _ (mK mZ))
 simp only [zF, Nat.reduceAdd] at hA
 have zf := (hL0.get _ _ (mK mZ)).frz
 have hPt := hL0.put 1 (w.heap.size + 1) _ rfl [.int .i64 (x.c : Int), .int .i64 (x.r : Int), .slice (some ⟨gu, 0, none⟩) tl.length tl.length] rfl
 simp only [setAll, List.set_cons_zero, List.set_cons_succ] at hPt
 generalize hput1 : (((y1.setCell ⟨w.heap.size + 1, 0, none⟩ (.int .i64 (x.c : Int))).setCell ⟨w.heap.size + 1, 1, none⟩ (.int .i64 (x.r : Int))).setCell ⟨w.heap.size + 1, 2, none⟩ (.slice (some ⟨gu, 0, none⟩) tl.length tl.length)) = y2 at hPt
 have hB1 := cells_of _ 0 [] rfl (hPt.get _ _ (mK mZ))
 simp only [zF, Nat.reduceAdd] at hB1
 have hNV : NV w.heap.size tl (.slice (some ⟨gu, 0, none⟩) tl.length tl.length) y2 := ⟨gu, rfl, hge2.out, hPt.get _ _ mZ⟩
 replace hNV := Lib.hid hNV
 clear hL0 hge2
 go_wp2_with fail
 exact bodyPost_ret (v := .agg #[.int .i64 (x.c : Int), .int .i64 (x.r : Int), .slice (some ⟨gu, 0, none⟩) tl.length tl.length]) (by simp [results, Tryz.results104, go_sem, hB1]) rfl ⟨_, rfl, hNV.out, hPt.bl⟩
theorem m_field2 (r c : Int) (a : Option Addr) (n d : Nat) (w : World) : (Instr.field 56 (.agg #[.int .i64 r, .int .i64 c, .slice a n d]) 2).run Tryz.prog w = .ok (.slice a n d) w := by
 simp [go_sem, Instr.field, asAgg]
theorem tab_col (r : Nat) (f : Nat → Rat) : (tabM r 1 fun i _ => f i).l = tabV r f := by
 unfold tabM
 show tabV (r * 1) (fun p => f (p / 1)) = tabV r f
 rw [Nat.mul_one]
 exact tab_ext fun i _ => by rw [Nat.div_one]
theorem mappliedV (x : Mx) (v : List Rat) (K : Nat) (hx : OKM x) (hv : v.length = x.c) (h1 : x.c ≤ 1000) (h2 : x.c * (K + K + 1) ≤ 9000000) (h3 : K + K ≤ 2000000) (sx : ∀ q ∈ x.l, Sz q K) (sv : ∀ q ∈ v, Sz q K) (u s : Value) (w : World) (hu : CQ w u x.l) (hs : SlQ w s v) :
  Calls Tryz.prog 117 #[.agg #[.int .i64 (x.r : Int), .int .i64 (x.c : Int), u], s] w fun xe w' => ∃ t, xe = .returned t ∧ NV w.heap.size (tabV x.r fun i => bsV x.c fun t => ent x i t * gv v t) t w' ∧ Below w.heap.size w w' := by
 rw [← tab_col]
 have hL0 : GL w w [] := GL.start w
 obtain ⟨x1, hweq, hL0⟩ := GL.named ((hL0.new rfl [.int .i64 (x.r : Int), .int .i64 (x.c : Int), u] 56).new (K := w.heap.size + 1) (szA _ _) [s] 28)
 have hu1 := hu.below hL0.bl
 have hs1 := hs.below hL0.bl
 have hB := BM.of (hL0.get _ _ (mK mZ)) hu1
 have hc1 := (hL0.get _ _ mZ).cell 0 (by simp)
 simp only [List.getElem_cons_zero, List.getElem_cons_succ] at hc1
 have HC := mbuild_w 161 #[.pointer (some ⟨w.heap.size, 0, none⟩), .pointer (some ⟨w.heap.size + 1, 0, none⟩)] enmapp x.r 1 (fun i _ => bsV x.c fun t => ent x i t * gv v t) (fun w => BM w _ u x ∧ RQ w s v ∧ w.cell? ⟨_, 0, none⟩ = some s) (Keeps.and (BM.keeps _ _ _) (Keeps.and (RQ.keeps _ _) (keepsB _ _))) (fun i k hi hk w h => mapp_at x v K hx hv h1 h2 h3 sx sv _ _ u s i k hi w h) hx.r (by omega) (by have := hx.r; omega) x1 ⟨hB, hs1.rq, hc1⟩
 generalize (tabM x.r 1 fun i _ => bsV x.c fun t => ent x i t * gv v t).l = tl at HC ⊢
 obtain ⟨ao, d, rfl, -⟩ := hu.form
 obtain ⟨a5, d5, rfl⟩ := slq_form' hs
 replace HC := Lib.hid HC
 clear hu hu1 hB hs hs1 hc1 hx hv h1 h2 h3 sx sv
 have hA := hL0.fc
 simp only [zF, Nat.reduceAdd] at hA
 go_enter Tryz.func117, Tryz.ntmps117
 have hx0 := Lib.hid hL0
 go_wp2_with fail
 with_reducible refine Calls.mono (HC.out) ?_
 rintro e y1 ⟨u, rfl, hnv, hb⟩
 replace hL0 := hL0.call hb
 clear hb hA hweq
 have hNV := Lib.hid (hnv.mono hx0.out.bl.size)
 obtain ⟨gu, rfl, -, -⟩ := hnv
 clear hx0
 replace hL0 := Lib.hid hL0
 have hfd := fun W => m_field2 (x.r : Int) 1 (some ⟨gu, 0, none⟩) tl.length tl.length W
 go_wp2_with fail
 exact bodyPost_ret (v := .slice (some ⟨gu, 0, none⟩) tl.length tl.length) (by simp [results, Tryz.results117, go_sem]) rfl ⟨_, rfl, hNV.out, hL0.out.bl⟩
end Go.Proofs.YthffglapmkkohaaGreatDoor
namespace Go.Proofs.YthffglapmkkohaaGreatDoor
open Go.RowKit
attribute [local irreducible] lo hs sm s64 c64 d64 b64 mh ml pd pc qd qc val hiB str cmpI srD lz nb zl zh zs fe rowV tabV gv bsV tabM
theorem tabM_mk (r c : Nat) (f : Nat → Nat → Rat) : tabM r c f = (⟨r, c, (tabM r c f).l⟩ : Mx) := by unfold tabM; rfl
theorem mMulV (x y : Mx) (K : Nat) (hx : OKM x) (hy : OKM y) (hc : y.r = x.c) (n1 : x.r * y.c ≤ 100000) (n2 : y.r * y.c ≤ 100000) (h1 : x.c ≤ 1000) (h2 : x.c * (K + K + 1) ≤ 9000000) (h3 : K + K ≤ 2000000) (sx : ∀ q ∈ x.l, Sz q K) (sy : ∀ q ∈ y.l, Sz q K) (u s : Value) (w : World) (hu : CQ w u x.l) (hs : CQ w s y.l) :
  Calls Tryz.prog 42 #[.agg #[.int .i64 (x.r : Int), .int .i64 (x.c : Int), u], .agg #[.int .i64 (y.r : Int), .int .i64 (y.c : Int), s]] w fun xe w' => ∃ v, xe = .returned (.tuple #[.agg #[.int .i64 (x.r : Int), .int .i64 (y.c : Int), v], .int .i64 0]) ∧ NV w.heap.size (tabM x.r y.c fun i j => bsV x.c fun t => ent x i t * ent y t j).l v w' ∧ Below w.heap.size w w' := by
 obtain ⟨yr, yc, yl⟩ := y
 obtain rfl : yr = x.c := hc
 dsimp only at hs n1 n2 sy ⊢
 have hT := tabM_mk yc x.c (fun i k => ent (⟨x.c, yc, yl⟩ : Mx) k i)
 have hyt : OKM (tabM yc x.c fun i k => ent (⟨x.c, yc, yl⟩ : Mx) k i) := by rw [hT]; exact ⟨hy.c, hy.r, by unfold tabM; exact tabV_len _ _⟩
 have syt : ∀ q ∈ (tabM yc x.c fun i k => ent (⟨x.c, yc, yl⟩ : Mx) k i).l, Sz q K := by
  unfold tabM
  refine tab_all fun p hp => ?_
  obtain ⟨e1, e2⟩ := ix_row hp
  exact sy _ (gv_mem (by rw [hy.len]; exact ix_lt e2 e1))
 have het : ∀ i k, i < yc → k < x.c → ent (tabM yc x.c fun i k => ent (⟨x.c, yc, yl⟩ : Mx) k i) i k = ent (⟨x.c, yc, yl⟩ : Mx) k i := fun i k hi hk => ent_tab hi hk
 have HT := fun w h => mturnedV (⟨x.c, yc, yl⟩ : Mx) hy n2 s w h
 dsimp only at HT
 rw [hT] at hyt het
 generalize (tabM yc x.c fun i k => ent (⟨x.c, yc, yl⟩ : Mx) k i).l = tt at HT hyt syt het
 clear hT
 have HB : ∀ b1 b2 ut ux (w : World), BM w b1 ux x ∧ BM w b2 ut (⟨yc, x.c, tt⟩ : Mx) → Calls Tryz.prog 88 #[.int .i64 (x.r : Int), .int .i64 (yc : Int), .func (.func 106) #[] #[.pointer (some ⟨b1, 0, none⟩), .pointer (some ⟨b2, 0, none⟩)]] w fun xe w' => ∃ v, xe = .returned (.agg #[.int .i64 (x.r : Int), .int .i64 (yc : Int), v]) ∧ NV w.heap.size (tabM x.r yc fun i j => bsV x.c fun t => ent x i t * ent (⟨x.c, yc, yl⟩ : Mx) t j).l v w' ∧ Below w.heap.size w w' := fun b1 b2 ut ux w h =>
  mbuild_w 106 #[.pointer (some ⟨b1, 0, none⟩), .pointer (some ⟨b2, 0, none⟩)] enmmul x.r yc (fun i j => bsV x.c fun t => ent x i t * ent (⟨x.c, yc, yl⟩ : Mx) t j) (fun w => BM w b1 ux x ∧ BM w b2 ut (⟨yc, x.c, tt⟩ : Mx)) (Keeps.and (BM.keeps _ _ _) (BM.keeps _ _ _)) (fun i k hi hk w h => by
   have := mmul_at x (⟨yc, x.c, tt⟩ : Mx) K hx hyt rfl h1 h2 h3 sx syt b1 b2 ux ut i k hi hk w h
   rwa [bs_congr (g := fun t => ent x i t * ent (⟨x.c, yc, yl⟩ : Mx) t k) fun t ht => by rw [het k t hk ht]] at this) hx.r hy.c n1 w h
 have HF := fun (g : Nat) (w : World) (h1 : CQ w u x.l) (h2 : CQ w s yl) (hd : Hd w g [.int .i64 (x.r : Int), .int .i64 (x.c : Int), u, .int .i64 ((⟨x.c, yc, yl⟩ : Mx).r : Int), .int .i64 ((⟨x.c, yc, yl⟩ : Mx).c : Int), s]) => mfault_two x (⟨x.c, yc, yl⟩ : Mx) hx hy g u s w h1 h2 hd
 clear hyt het syt sx sy h1 h2 h3 n1 n2 hx hy
 generalize (tabM x.r yc fun i j => bsV x.c fun t => ent x i t * ent (⟨x.c, yc, yl⟩ : Mx) t j).l = tl at HB ⊢
 obtain ⟨ao, d, rfl, -⟩ := id hu.form
 obtain ⟨a5, d5, rfl, -⟩ := id hs.form
 replace HT := Lib.hid HT
 replace HB := Lib.hid HB
 have hL0 : GL w w [] := GL.start w
 obtain ⟨x1, hweq, hL0⟩ := GL.named (((hL0.new rfl [.int .i64 (x.r : Int), .int .i64 (x.c : Int), (.slice ao x.l.length d)] 56).new (K := w.heap.size + 1) (szA _ _) [.int .i64 (x.c : Int), .int .i64 (yc : Int), (.slice a5 yl.length d5)] 56).new (K := w.heap.size + 1 + 1) (by simp only [World.size_alloc]) [.int .i64 0, .int .i64 0, .slice none 0 0] 56)
 have hu1 := hu.below hL0.bl
 have hs1 := hs.below hL0.bl
 have hZ := hL0.fc
 simp only [zF, Nat.reduceAdd] at hZ
 replace hL0 := (hL0.new rfl [.int .i64 (x.r : Int), .int .i64 (x.c : Int), (.slice ao x.l.length d), .int .i64 (x.c : Int), .int .i64 (yc : Int), (.slice a5 yl.length d5)] 56)
 generalize hweq2 : (x1.alloc (.cells #[.int .i64 (x.r : Int), .int .i64 (x.c : Int), (.slice ao x.l.length d), .int .i64 (x.c : Int), .int .i64 (yc : Int), (.slice a5 yl.length d5)] 56)) = x2 at hL0
 have hb2 : Below x1.heap.size x1 x2 := hweq2 ▸ ((Below.refl _ _).alloc (Nat.le_refl _) _)
 have hu2 := Lib.hid (hu1.below hb2)
 have hs2 := Lib.hid (hs1.below hb2)
 replace HF := Lib.hid (HF x1.heap.size x2 hu2.out hs2.out (hL0.get _ _ mZ))
 clear hu hs hu1 hs1 hb2
 have hA := hL0.fc
 simp only [zF, Nat.reduceAdd] at hA
 go_enter Tryz.func42, Tryz.ntmps42
 go_wp2_with fail
 with_reducible refine Calls.mono (HF.out) ?_
 rintro e y1 ⟨rfl, hb⟩
 replace hu2 := Lib.hid (hu2.out.below hb)
 replace hs2 := Lib.hid (hs2.out.below hb)
 replace hL0 := hL0.call hb
 clear hb hA hZ hweq hweq2 HF
 have hA := hL0.fc
 simp only [zF, Nat.reduceAdd] at hA
 have hx0 := Lib.hid hL0
 go_wp2_with fail
 with_reducible refine Calls.mono (HT.out _ hs2.out) ?_
 rintro e y2 ⟨u3, rfl, hnv, hb⟩
 replace hu2 := Lib.hid (hu2.out.below hb)
 replace hL0 := hL0.call hb
 clear hb hA hs2 HT
 replace hx0 := hx0.out
 obtain ⟨gt, rfl, hge, hHd⟩ := hnv
 replace hL0 := GL.tnew (M := []) hL0 hx0 hHd hge (fun p hp => by cases hp)
 simp only [List.nil_append] at hL0
 clear hx0 hge hHd
 have hL1 := hL0.new rfl [.int .i64 (yc : Int), .int .i64 (x.c : Int), (.slice (some ⟨gt, 0, none⟩) tt.length tt.length)] 56
 generalize hweq : y2.alloc (.cells #[.int .i64 (yc : Int), .int .i64 (x.c : Int), (.slice (some ⟨gt, 0, none⟩) tt.length tt.length)] 56) = y3 at hL1
 have hb3 : Below y2.heap.size y2 y3 := hweq ▸ ((Below.refl _ _).alloc (Nat.le_refl _) _)
 replace hu2 := Lib.hid (hu2.out.below hb3)
 clear hb3 hL0
 have hL0 := hL1
 clear hL1
 have hB1 := BM.of (hL0.get _ _ (mK (mK (mK (mK (mK mZ)))))) hu2.out
 have hB2 := BM.of (x := (⟨yc, x.c, tt⟩ : Mx)) (hL0.get _ _ mZ) (show CQ y3 _ tt from ⟨.inr ⟨gt, _, rfl, hd_fs (hL0.get _ _ (mK mZ))⟩, _, _, _, rfl, Nat.le_refl _⟩)
 replace HB := Lib.hid (HB.out _ _ _ _ _ ⟨hB1, hB2⟩)
 clear hB1 hB2 hu2
 have hx0 := Lib.hid hL0
 have hA := cells_of _ 0 [] rfl (hL0.get _ _ (mK (mK (mK (mK (mK mZ))))))
 simp only [zF, Nat.reduceAdd] at hA
 have zA := (hL0.get _ _ (mK (mK (mK (mK (mK mZ)))))).frz
 have hC := cells_of _ 0 [] rfl (hL0.get _ _ (mK (mK (mK (mK mZ)))))
 simp only [zF, Nat.reduceAdd] at hC
 have zC := (hL0.get _ _ (mK (mK (mK (mK mZ))))).frz
 go_wp2_with fail
 with_reducible refine Calls.mono (HB.out) ?_
 rintro e y4 ⟨u, rfl, hnv, hb⟩
 replace hL0 := hL0.call hb
 clear hb hA hC zA zC hweq
 replace hx0 := hx0.out
 obtain ⟨gu, rfl, hge, hHd⟩ := hnv
 replace hL0 := GL.tnew (M := []) hL0 hx0 hHd hge (fun p hp => by cases hp)
 simp only [List.nil_append] at hL0
 have hge2 := Lib.hid (Nat.le_trans hx0.bl.size hge)
 clear hx0 hge hHd
 have hA := cells_of _ 0 [] rfl (hL0.get _ _ (mK (mK (mK (mK mZ)))))
 simp only [zF, Nat.reduceAdd] at hA
 have zf := (hL0.get _ _ (mK (mK (mK (mK mZ))))).frz
 have hPt := hL0.put 4 (w.heap.size + 1 + 1) _ rfl [.int .i64 (x.r : Int), .int .i64 (yc : Int), .slice (some ⟨gu, 0, none⟩) tl.length tl.length] rfl
 simp only [setAll, List.set_cons_zero, List.set_cons_succ] at hPt
 generalize hput1 : (((y4.setCell ⟨w.heap.size + 1 + 1, 0, none⟩ (.int .i64 (x.r : Int))).setCell ⟨w.heap.size + 1 + 1, 1, none⟩ (.int .i64 (yc : Int))).setCell ⟨w.heap.size + 1 + 1, 2, none⟩ (.slice (some ⟨gu, 0, none⟩) tl.length tl.length)) = y5 at hPt
 have hB1 := cells_of _ 0 [] rfl (hPt.get _ _ (mK (mK (mK (mK mZ)))))
 simp only [zF, Nat.reduceAdd] at hB1
 have hNV : NV w.heap.size tl (.slice (some ⟨gu, 0, none⟩) tl.length tl.length) y5 := ⟨gu, rfl, hge2.out, hPt.get _ _ mZ⟩
 replace hNV := Lib.hid hNV
 clear hL0 hge2
 go_wp2_with fail
 exact bodyPost_ret (v := .tuple #[.agg #[.int .i64 (x.r : Int), .int .i64 (yc : Int), .slice (some ⟨gu, 0, none⟩) tl.length tl.length], .int .i64 0]) (by simp [results, Tryz.results42, go_sem, hB1]) rfl ⟨_, rfl, hNV.out, hPt.bl⟩
theorem mcombAddV (x : Mx) (yl : List Rat) (K : Nat) (hx : OKM x) (hy : OKM (⟨x.r, x.c, yl⟩ : Mx)) (n1 : x.r * x.c ≤ 100000) (hK : K ≤ 1000000) (sx : ∀ q ∈ x.l, Sz q K) (sy : ∀ q ∈ yl, Sz q K) (u s : Value) (w : World) (hu : CQ w u x.l) (hs : CQ w s yl) :
  Calls Tryz.prog 152 #[.agg #[.int .i64 (x.r : Int), .int .i64 (x.c : Int), u], .agg #[.int .i64 (x.r : Int), .int .i64 (x.c : Int), s], .func (.func 14) #[] #[]] w fun xe w' => ∃ v, xe = .returned (.tuple #[.agg #[.int .i64 (x.r : Int), .int .i64 (x.c : Int), v], .int .i64 0]) ∧ NV w.heap.size (tabM x.r x.c fun i j => ent x i j + ent (⟨x.r, x.c, yl⟩ : Mx) i j).l v w' ∧ Below w.heap.size w w' := by
 have HB : ∀ b1 b2 b3 ux us (w : World), (w.cell? ⟨b1, 0, none⟩ = some (.func (.func 14) #[] #[]) ∧ BM w b2 ux x ∧ BM w b3 us (⟨x.r, x.c, yl⟩ : Mx)) → Calls Tryz.prog 88 #[.int .i64 (x.r : Int), .int .i64 (x.c : Int), .func (.func 180) #[] #[.pointer (some ⟨b1, 0, none⟩), .pointer (some ⟨b2, 0, none⟩), .pointer (some ⟨b3, 0, none⟩)]] w fun xe w' => ∃ v, xe = .returned (.agg #[.int .i64 (x.r : Int), .int .i64 (x.c : Int), v]) ∧ NV w.heap.size (tabM x.r x.c fun i j => ent x i j + ent (⟨x.r, x.c, yl⟩ : Mx) i j).l v w' ∧ Below w.heap.size w w' := fun b1 b2 b3 ux us w h =>
  mbuild_w 180 #[.pointer (some ⟨b1, 0, none⟩), .pointer (some ⟨b2, 0, none⟩), .pointer (some ⟨b3, 0, none⟩)] enmcomb x.r x.c (fun i j => ent x i j + ent (⟨x.r, x.c, yl⟩ : Mx) i j) (fun w => w.cell? ⟨b1, 0, none⟩ = some (.func (.func 14) #[] #[]) ∧ BM w b2 ux x ∧ BM w b3 us (⟨x.r, x.c, yl⟩ : Mx)) (Keeps.and (keepsB _ _) (Keeps.and (BM.keeps _ _ _) (BM.keeps _ _ _))) (fun i k hi hk w h => madd_at x (⟨x.r, x.c, yl⟩ : Mx) K hx hy rfl rfl hK sx sy b1 b2 b3 ux us i k hi hk w h) hx.r hx.c n1 w h
 have HF := fun (g : Nat) (w : World) (h1 : CQ w u x.l) (h2 : CQ w s yl) (hd : Hd w g [.int .i64 (x.r : Int), .int .i64 (x.c : Int), u, .int .i64 ((⟨x.r, x.c, yl⟩ : Mx).r : Int), .int .i64 ((⟨x.r, x.c, yl⟩ : Mx).c : Int), s]) => mfault_two x (⟨x.r, x.c, yl⟩ : Mx) hx hy g u s w h1 h2 hd
 clear sx sy n1 hx hy hK
 generalize (tabM x.r x.c fun i j => ent x i j + ent (⟨x.r, x.c, yl⟩ : Mx) i j).l = tl at HB ⊢
 obtain ⟨ao, d, rfl, -⟩ := id hu.form
 obtain ⟨a5, d5, rfl, -⟩ := id hs.form
 replace HB := Lib.hid HB
 have hL0 : GL w w [] := GL.start w
 obtain ⟨x1, hweq, hL0⟩ := GL.named ((((hL0.new rfl [.int .i64 (x.r : Int), .int .i64 (x.c : Int), (.slice ao x.l.length d)] 56).new (K := w.heap.size + 1) (szA _ _) [.int .i64 (x.r : Int), .int .i64 (x.c : Int), (.slice a5 yl.length d5)] 56).new (K := w.heap.size + 1 + 1) (by simp only [World.size_alloc]) [.func (.func 14) #[] #[]] 42).new (K := w.heap.size + 1 + 1 + 1) (by simp only [World.size_alloc]) [.int .i64 0, .int .i64 0, .slice none 0 0] 56)
 have hu1 := hu.below hL0.bl
 have hs1 := hs.below hL0.bl
 have hZ := hL0.fc
 simp only [zF, Nat.reduceAdd] at hZ
 replace hL0 := (hL0.new rfl [.int .i64 (x.r : Int), .int .i64 (x.c : Int), (.slice ao x.l.length d), .int .i64 (x.r : Int), .int .i64 (x.c : Int), (.slice a5 yl.length d5)] 56)
 generalize hweq2 : (x1.alloc (.cells #[.int .i64 (x.r : Int), .int .i64 (x.c : Int), (.slice ao x.l.length d), .int .i64 (x.r : Int), .int .i64 (x.c : Int), (.slice a5 yl.length d5)] 56)) = x2 at hL0
 have hb2 : Below x1.heap.size x1 x2 := hweq2 ▸ ((Below.refl _ _).alloc (Nat.le_refl _) _)
 have hu2 := Lib.hid (hu1.below hb2)
 have hs2 := Lib.hid (hs1.below hb2)
 replace HF := Lib.hid (HF x1.heap.size x2 hu2.out hs2.out (hL0.get _ _ mZ))
 clear hu hs hu1 hs1 hb2
 have hA := hL0.fc
 simp only [zF, Nat.reduceAdd] at hA
 go_enter Tryz.func152, Tryz.ntmps152
 go_wp2_with fail
 with_reducible refine Calls.mono (HF.out) ?_
 rintro e y1 ⟨rfl, hb⟩
 replace hu2 := Lib.hid (hu2.out.below hb)
 replace hs2 := Lib.hid (hs2.out.below hb)
 replace hL0 := hL0.call hb
 clear hb hA hZ hweq hweq2 HF
 have hB1 := BM.of (hL0.get _ _ (mK (mK (mK (mK mZ))))) hu2.out
 have hB2 := BM.of (x := (⟨x.r, x.c, yl⟩ : Mx)) (hL0.get _ _ (mK (mK (mK mZ)))) hs2.out
 have hc1 := (hL0.get _ _ (mK (mK mZ))).cell 0 (by simp)
 simp only [List.getElem_cons_zero, List.getElem_cons_succ] at hc1
 replace HB := Lib.hid (HB.out _ _ _ _ _ _ ⟨hc1, hB1, hB2⟩)
 clear hc1 hB1 hB2 hu2 hs2
 have hx0 := Lib.hid hL0
 have hA := cells_of _ 0 [] rfl (hL0.get _ _ (mK (mK (mK (mK mZ)))))
 simp only [zF, Nat.reduceAdd] at hA
 have zA := (hL0.get _ _ (mK (mK (mK (mK mZ))))).frz
 have hC := cells_of _ 0 [] rfl (hL0.get _ _ (mK (mK (mK mZ))))
 simp only [zF, Nat.reduceAdd] at hC
 have zC := (hL0.get _ _ (mK (mK (mK mZ)))).frz
 go_wp2_with fail
 with_reducible refine Calls.mono (HB.out) ?_
 rintro e y4 ⟨u, rfl, hnv, hb⟩
 replace hL0 := hL0.call hb
 clear hb hA hC zA zC
 replace hx0 := hx0.out
 obtain ⟨gu, rfl, hge, hHd⟩ := hnv
 replace hL0 := GL.tnew (M := []) hL0 hx0 hHd hge (fun p hp => by cases hp)
 simp only [List.nil_append] at hL0
 have hge2 := Lib.hid (Nat.le_trans hx0.bl.size hge)
 clear hx0 hge hHd
 have hA := cells_of _ 0 [] rfl (hL0.get _ _ (mK (mK mZ)))
 simp only [zF, Nat.reduceAdd] at hA
 have zf := (hL0.get _ _ (mK (mK mZ))).frz
 have hPt := hL0.put 2 (w.heap.size + 1 + 1 + 1) _ rfl [.int .i64 (x.r : Int), .int .i64 (x.c : Int), .slice (some ⟨gu, 0, none⟩) tl.length tl.length] rfl
 simp only [setAll, List.set_cons_zero, List.set_cons_succ] at hPt
 generalize hput1 : (((y4.setCell ⟨w.heap.size + 1 + 1 + 1, 0, none⟩ (.int .i64 (x.r : Int))).setCell ⟨w.heap.size + 1 + 1 + 1, 1, none⟩ (.int .i64 (x.c : Int))).setCell ⟨w.heap.size + 1 + 1 + 1, 2, none⟩ (.slice (some ⟨gu, 0, none⟩) tl.length tl.length)) = y5 at hPt
 have hB1 := cells_of _ 0 [] rfl (hPt.get _ _ (mK (mK mZ)))
 simp only [zF, Nat.reduceAdd] at hB1
 have hNV : NV w.heap.size tl (.slice (some ⟨gu, 0, none⟩) tl.length tl.length) y5 := ⟨gu, rfl, hge2.out, hPt.get _ _ mZ⟩
 replace hNV := Lib.hid hNV
 clear hL0 hge2
 go_wp2_with fail
 exact bodyPost_ret (v := .tuple #[.agg #[.int .i64 (x.r : Int), .int .i64 (x.c : Int), .slice (some ⟨gu, 0, none⟩) tl.length tl.length], .int .i64 0]) (by simp [results, Tryz.results152, go_sem, hB1]) rfl ⟨_, rfl, hNV.out, hPt.bl⟩
theorem mAddV (x y : Mx) (K : Nat) (hx : OKM x) (hy : OKM y) (hr : y.r = x.r) (hc : y.c = x.c) (n1 : x.r * x.c ≤ 100000) (hK : K ≤ 1000000) (sx : ∀ q ∈ x.l, Sz q K) (sy : ∀ q ∈ y.l, Sz q K) (u s : Value) (w : World) (hu : CQ w u x.l) (hs : CQ w s y.l) :
  Calls Tryz.prog 94 #[.agg #[.int .i64 (x.r : Int), .int .i64 (x.c : Int), u], .agg #[.int .i64 (y.r : Int), .int .i64 (y.c : Int), s]] w fun xe w' => ∃ v, xe = .returned (.tuple #[.agg #[.int .i64 (x.r : Int), .int .i64 (x.c : Int), v], .int .i64 0]) ∧ NV w.heap.size (tabM x.r x.c fun i j => ent x i j + ent y i j).l v w' ∧ Below w.heap.size w w' := by
 obtain ⟨yr, yc, yl⟩ := y
 obtain rfl : yr = x.r := hr
 obtain rfl : yc = x.c := hc
 dsimp only at hs sy ⊢
 have HC := fun w h1 h2 => mcombAddV x yl K hx hy n1 hK sx sy u s w h1 h2
 clear sx sy n1 hx hy hK
 generalize (tabM x.r x.c fun i j => ent x i j + ent (⟨x.r, x.c, yl⟩ : Mx) i j).l = tl at HC ⊢
 obtain ⟨ao, d, rfl, -⟩ := id hu.form
 obtain ⟨a5, d5, rfl, -⟩ := id hs.form
 replace HC := Lib.hid HC
 have hL0 : GL w w [] := GL.start w
 obtain ⟨x1, hweq, hL0⟩ := GL.named (((hL0.new rfl [.int .i64 (x.r : Int), .int .i64 (x.c : Int), (.slice ao x.l.length d)] 56).new (K := w.heap.size + 1) (szA _ _) [.int .i64 (x.r : Int), .int .i64 (x.c : Int), (.slice a5 yl.length d5)] 56).new (K := w.heap.size + 1 + 1) (by simp only [World.size_alloc]) [.int .i64 0, .int .i64 0, .slice none 0 0] 56)
 have hu1 := Lib.hid (hu.below hL0.bl)
 have hs1 := Lib.hid (hs.below hL0.bl)
 clear hu hs
 have hA := hL0.fc
 simp only [zF, Nat.reduceAdd] at hA
 go_enter Tryz.func94, Tryz.ntmps94
 have hx0 := Lib.hid hL0
 go_wp2_with fail
 with_reducible refine Calls.mono (HC.out _ hu1.out hs1.out) ?_
 rintro e y4 ⟨u, rfl, hnv, hb⟩
 replace hL0 := hL0.call hb
 clear hb hA hu1 hs1 hweq HC
 replace hx0 := hx0.out
 obtain ⟨gu, rfl, hge, hHd⟩ := hnv
 replace hL0 := GL.tnew (M := []) hL0 hx0 hHd hge (fun p hp => by cases hp)
 simp only [List.nil_append] at hL0
 have hge2 := Lib.hid (Nat.le_trans hx0.bl.size hge)
 clear hx0 hge hHd
 have hA := cells_of _ 0 [] rfl (hL0.get _ _ (mK mZ))
 simp only [zF, Nat.reduceAdd] at hA
 have zf := (hL0.get _ _ (mK mZ)).frz
 have hPt := hL0.put 1 (w.heap.size + 1 + 1) _ rfl [.int .i64 (x.r : Int), .int .i64 (x.c : Int), .slice (some ⟨gu, 0, none⟩) tl.length tl.length] rfl
 simp only [setAll, List.set_cons_zero, List.set_cons_succ] at hPt
 generalize hput1 : (((y4.setCell ⟨w.heap.size + 1 + 1, 0, none⟩ (.int .i64 (x.r : Int))).setCell ⟨w.heap.size + 1 + 1, 1, none⟩ (.int .i64 (x.c : Int))).setCell ⟨w.heap.size + 1 + 1, 2, none⟩ (.slice (some ⟨gu, 0, none⟩) tl.length tl.length)) = y5 at hPt
 have hB1 := cells_of _ 0 [] rfl (hPt.get _ _ (mK mZ))
 simp only [zF, Nat.reduceAdd] at hB1
 have hNV : NV w.heap.size tl (.slice (some ⟨gu, 0, none⟩) tl.length tl.length) y5 := ⟨gu, rfl, hge2.out, hPt.get _ _ mZ⟩
 replace hNV := Lib.hid hNV
 clear hL0 hge2
 go_wp2_with fail
 exact bodyPost_ret (v := .tuple #[.agg #[.int .i64 (x.r : Int), .int .i64 (x.c : Int), .slice (some ⟨gu, 0, none⟩) tl.length tl.length], .int .i64 0]) (by simp [results, Tryz.results94, go_sem, hB1]) rfl ⟨_, rfl, hNV.out, hPt.bl⟩
theorem mTurnV (x : Mx) (hx : OKM x) (n1 : x.r * x.c ≤ 100000) (u : Value) (w : World) (hu : CQ w u x.l) :
  Calls Tryz.prog 41 #[.agg #[.int .i64 (x.r : Int), .int .i64 (x.c : Int), u]] w fun xe w' => ∃ v, xe = .returned (.tuple #[.agg #[.int .i64 (x.c : Int), .int .i64 (x.r : Int), v], .int .i64 0]) ∧ NV w.heap.size (tabM x.c x.r fun i k => ent x k i).l v w' ∧ Below w.heap.size w w' := by
 have HC := fun w h => mturnedV x hx n1 u w h
 have HK := fun (n d : Nat) (ao : Option Addr) (hn : n = x.r * x.c) => mcheck_ok x.r x.c n d ao hx.r hx.c hn
 have hlen := hx.len
 clear n1 hx
 generalize (tabM x.c x.r fun i k => ent x k i).l = tl at HC ⊢
 obtain ⟨ao, d, rfl, -⟩ := id hu.form
 replace HK := Lib.hid (HK x.l.length d ao hlen)
 clear hlen
 replace HC := Lib.hid HC
 have hL0 : GL w w [] := GL.start w
 obtain ⟨x1, hweq, hL0⟩ := GL.named ((hL0.new rfl [.int .i64 (x.r : Int), .int .i64 (x.c : Int), (.slice ao x.l.length d)] 56).new (K := w.heap.size + 1) (szA _ _) [.int .i64 0, .int .i64 0, .slice none 0 0] 56)
 have hu1 := Lib.hid (hu.below hL0.bl)
 clear hu
 have hA := hL0.fc
 simp only [zF, Nat.reduceAdd] at hA
 go_enter Tryz.func41, Tryz.ntmps41
 go_wp2_with fail
 with_reducible refine Calls.mono (HK.out _) ?_
 rintro e y1 ⟨rfl, hb⟩
 replace hu1 := Lib.hid (hu1.out.below hb)
 replace hL0 := hL0.call hb
 clear hb hA hweq HK
 have hx0 := Lib.hid hL0
 have hA := cells_of _ 0 [] rfl (hL0.get _ _ (mK mZ))
 simp only [zF, Nat.reduceAdd] at hA
 have zA := (hL0.get _ _ (mK mZ)).frz
 go_wp2_with fail
 with_reducible refine Calls.mono (HC.out _ hu1.out) ?_
 rintro e y4 ⟨u, rfl, hnv, hb⟩
 replace hL0 := hL0.call hb
 clear hb hA zA hu1 HC
 replace hx0 := hx0.out
 obtain ⟨gu, rfl, hge, hHd⟩ := hnv
 replace hL0 := GL.tnew (M := []) hL0 hx0 hHd hge (fun p hp => by cases hp)
 simp only [List.nil_append] at hL0
 have hge2 := Lib.hid (Nat.le_trans hx0.bl.size hge)
 clear hx0 hge hHd
 have hA := cells_of _ 0 [] rfl (hL0.get _ _ (mK mZ))
 simp only [zF, Nat.reduceAdd] at hA
 have zf := (hL0.get _ _ (mK mZ)).frz
 have hPt := hL0.put 1 (w.heap.size + 1) _ rfl [.int .i64 (x.c : Int), .int .i64 (x.r : Int), .slice (some ⟨gu, 0, none⟩) tl.length tl.length] rfl
 simp only [setAll, List.set_cons_zero, List.set_cons_succ] at hPt
 generalize hput1 : (((y4.setCell ⟨w.heap.size + 1, 0, none⟩ (.int .i64 (x.c : Int))).setCell ⟨w.heap.size + 1, 1, none⟩ (.int .i64 (x.r : Int))).setCell ⟨w.heap.size + 1, 2, none⟩ (.slice (some ⟨gu, 0, none⟩) tl.length tl.length)) = y5 at hPt
 have hB1 := cells_of _ 0 [] rfl (hPt.get _ _ (mK mZ))
 simp only [zF, Nat.reduceAdd] at hB1
 have hNV : NV w.heap.size tl (.slice (some ⟨gu, 0, none⟩) tl.length tl.length) y5 := ⟨gu, rfl, hge2.out, hPt.get _ _ mZ⟩
 replace hNV := Lib.hid hNV
 clear hL0 hge2
 go_wp2_with fail
 exact bodyPost_ret (v := .tuple #[.agg #[.int .i64 (x.c : Int), .int .i64 (x.r : Int), .slice (some ⟨gu, 0, none⟩) tl.length tl.length], .int .i64 0]) (by simp [results, Tryz.results41, go_sem, hB1]) rfl ⟨_, rfl, hNV.out, hPt.bl⟩
theorem mApplyV (x : Mx) (v : List Rat) (K : Nat) (hx : OKM x) (hv : v.length = x.c) (h1 : x.c ≤ 1000) (h2 : x.c * (K + K + 1) ≤ 9000000) (h3 : K + K ≤ 2000000) (sx : ∀ q ∈ x.l, Sz q K) (sv : ∀ q ∈ v, Sz q K) (u s : Value) (w : World) (hu : CQ w u x.l) (hs : SlQ w s v) :
  Calls Tryz.prog 48 #[.agg #[.int .i64 (x.r : Int), .int .i64 (x.c : Int), u], s] w fun xe w' => ∃ t, xe = .returned (.tuple #[t, .int .i64 0]) ∧ NV w.heap.size (tabV x.r fun i => bsV x.c fun t => ent x i t * gv v t) t w' ∧ Below w.heap.size w w' := by
 have HC := fun w h g => mappliedV x v K hx hv h1 h2 h3 sx sv u s w h g
 have HF := fun (g : Nat) (w : World) (a : CQ w u x.l) (b : SlQ w s v) (hd : Hd w g [s]) => mfaultWith1 x hx v (by rw [hv]; exact hx.c) g u s w a b hd
 clear h1 h2 h3 hx sx sv
 generalize (tabV x.r fun i => bsV x.c fun t => ent x i t * gv v t) = tl at HC ⊢
 obtain ⟨ao, d, rfl, -⟩ := id hu.form
 obtain ⟨a5, d5, rfl⟩ := slq_form' hs
 replace HC := Lib.hid HC
 rw [hv] at HC HF hs ⊢
 clear hv
 have hL0 : GL w w [] := GL.start w
 obtain ⟨x1, hweq, hL0⟩ := GL.named (hL0.new rfl [.int .i64 (x.r : Int), .int .i64 (x.c : Int), (.slice ao x.l.length d)] 56)
 have hu1 := hu.below hL0.bl
 have hs1 := hs.below hL0.bl
 have hZ := hL0.fc
 simp only [zF, Nat.reduceAdd] at hZ
 replace hL0 := (hL0.new rfl [.slice a5 x.c d5] 28)
 generalize hweq2 : (x1.alloc (.cells #[.slice a5 x.c d5] 28)) = x2 at hL0
 have hb2 : Below x1.heap.size x1 x2 := hweq2 ▸ ((Below.refl _ _).alloc (Nat.le_refl _) _)
 have hu2 := Lib.hid (hu1.below hb2)
 have hs2 := Lib.hid (hs1.below hb2)
 replace HF := Lib.hid (HF x1.heap.size x2 hu2.out hs2.out (hL0.get _ _ mZ))
 clear hu hs hu1 hs1 hb2
 have hA := hL0.fc
 simp only [zF, Nat.reduceAdd] at hA
 go_enter Tryz.func48, Tryz.ntmps48
 go_wp2_with fail
 with_reducible refine Calls.mono (HF.out) ?_
 rintro e y1 ⟨rfl, hb⟩
 replace hu2 := Lib.hid (hu2.out.below hb)
 replace hs2 := Lib.hid (hs2.out.below hb)
 replace hL0 := hL0.call hb
 clear hb hA hZ hweq hweq2 HF
 have hA := cells_of _ 0 [] rfl (hL0.get _ _ (mK mZ))
 simp only [zF, Nat.reduceAdd] at hA
 have hx0 := Lib.hid hL0
 go_wp2_with fail
 with_reducible refine Calls.mono (HC.out _ hu2.out hs2.out) ?_
 rintro e y4 ⟨u, rfl, hnv, hb⟩
 replace hL0 := hL0.call hb
 clear hb hA hu2 hs2 HC
 have hNV := Lib.hid (hnv.mono hx0.out.bl.size)
 obtain ⟨gu, rfl, -, -⟩ := hnv
 clear hx0
 replace hL0 := Lib.hid hL0
 go_wp2_with fail
 exact bodyPost_ret (v := .tuple #[.slice (some ⟨gu, 0, none⟩) tl.length tl.length, .int .i64 0]) (by simp [results, Tryz.results48, go_sem]) rfl ⟨_, rfl, hNV.out, hL0.out.bl⟩
theorem mFormV (x : Mx) (v y : List Rat) (K M : Nat) (hx : OKM x) (hv : y.length = x.c) (hw : v.length = x.r) (h0 : x.r ≤ 1000) (h1 : x.c ≤ 1000) (h2 : x.c * (K + K + 1) ≤ 9000000) (h3 : K + K ≤ 2000000) (sx : ∀ q ∈ x.l, Sz q K) (sy : ∀ q ∈ y, Sz q K) (g2 : x.r * (M + M + 1) ≤ 9000000) (g3 : M + M ≤ 2000000) (hM : x.c * (K + K + 1) + 1 ≤ M) (sv : ∀ q ∈ v, Sz q M) (u s t : Value) (w : World) (hu : CQ w u x.l) (hs : SlQ w s v) (ht : SlQ w t y) :
  Calls Tryz.prog 82 #[.agg #[.int .i64 (x.r : Int), .int .i64 (x.c : Int), u], s, t] w fun xe w' => xe = .returned (.tuple #[fracV (bsV x.r fun i => gv v i * gv (tabV x.r fun i => bsV x.c fun t => ent x i t * gv y t) i), .int .i64 0]) ∧ Below w.heap.size w w' := by
 have HC := fun w h g => mappliedV x y K hx hv h1 h2 h3 sx sy u t w h g
 have sA : ∀ q ∈ (tabV x.r fun i => bsV x.c fun t => ent x i t * gv y t), Sz q M := tab_all fun i hi => (bs_sz (k := K + K) fun k hk => (sx _ (gv_mem (by rw [hx.len]; exact ix_lt hi hk))).mul (qsk y sy k (by rw [hv]; exact hk))).mono hM
 have HD := fun va vb (w : World) h g => mdotV v (tabV x.r fun i => bsV x.c fun t => ent x i t * gv y t) x.r M hw (tabV_len _ _) h0 g2 g3 sv sA va vb w h g
 have HF := fun (g : Nat) (w : World) (a : CQ w u x.l) (b : SlQ w s v) (c : SlQ w t y) (hd : Hd w g [s, t]) => mfaultWith2 x hx v y (by rw [hw]; exact hx.r) (by rw [hv]; exact hx.c) g u s t w a b c hd
 clear h0 h1 h2 h3 hx sx sy sv g2 g3 hM sA
 generalize (bsV x.r fun i => gv v i * gv (tabV x.r fun i => bsV x.c fun t => ent x i t * gv y t) i) = q at HD ⊢
 generalize (tabV x.r fun i => bsV x.c fun t => ent x i t * gv y t) = tl at HC HD
 obtain ⟨ao, d, rfl, -⟩ := id hu.form
 obtain ⟨a5, d5, rfl⟩ := slq_form' hs
 obtain ⟨a6, d6, rfl⟩ := slq_form' ht
 replace HC := Lib.hid HC
 replace HD := Lib.hid HD
 rw [hw] at HF hs ⊢
 rw [hv] at HC HF ht ⊢
 clear hv hw
 have hL0 : GL w w [] := GL.start w
 obtain ⟨x1, hweq, hL0⟩ := GL.named ((hL0.new rfl [.int .i64 (x.r : Int), .int .i64 (x.c : Int), (.slice ao x.l.length d)] 56).new (K := w.heap.size + 1) (szA _ _) [.int .u64 0, .string ⟨#[]⟩, .bool false, .int .u64 0, .string ⟨#[]⟩] 36)
 have hu1 := hu.below hL0.bl
 have hs1 := hs.below hL0.bl
 have ht1 := ht.below hL0.bl
 have hZ := hL0.fc
 simp only [zF, Nat.reduceAdd] at hZ
 replace hL0 := (hL0.new rfl [.slice a5 x.r d5, .slice a6 x.c d6] 28)
 generalize hweq2 : (x1.alloc (.cells #[.slice a5 x.r d5, .slice a6 x.c d6] 28)) = x2 at hL0
 have hb2 : Below x1.heap.size x1 x2 := hweq2 ▸ ((Below.refl _ _).alloc (Nat.le_refl _) _)
 have hu2 := Lib.hid (hu1.below hb2)
 have hs2 := Lib.hid (hs1.below hb2)
 have ht2 := Lib.hid (ht1.below hb2)
 replace HF := Lib.hid (HF x1.heap.size x2 hu2.out hs2.out ht2.out (hL0.get _ _ mZ))
 clear hu hs ht hu1 hs1 ht1 hb2
 have hA := hL0.fc
 simp only [zF, Nat.reduceAdd] at hA
 go_enter Tryz.func82, Tryz.ntmps82
 go_wp2_with fail
 with_reducible refine Calls.mono (HF.out) ?_
 rintro e y1 ⟨rfl, hb⟩
 replace hu2 := Lib.hid (hu2.out.below hb)
 replace hs2 := Lib.hid (hs2.out.below hb)
 replace ht2 := Lib.hid (ht2.out.below hb)
 replace hL0 := hL0.call hb
 clear hb hA hZ hweq hweq2 HF
 have hA := cells_of _ 0 [] rfl (hL0.get _ _ (mK (mK mZ)))
 simp only [zF, Nat.reduceAdd] at hA
 go_wp2_with fail
 with_reducible refine Calls.mono (HC.out _ hu2.out ht2.out) ?_
 rintro e y4 ⟨u, rfl, hnv, hb⟩
 replace hs2 := Lib.hid (hs2.out.below hb)
 replace hL0 := hL0.call hb
 clear hb hA hu2 ht2 HC
 have hsl := Lib.hid hnv.slq
 obtain ⟨gu, rfl, -, -⟩ := hnv
 go_wp2_with fail
 with_reducible refine Calls.mono (HD.out _ _ _ hs2.out.rq hsl.out.rq) ?_
 rintro e y5 ⟨rfl, hb⟩
 replace hL0 := hL0.call hb
 clear hb hs2 hsl HD
 have hA := hL0.fc
 simp only [zF, Nat.reduceAdd] at hA
 have hPt := hL0.put 1 (w.heap.size + 1) _ rfl [.int .u64 ((zl q.num : Nat) : Int), .string (zh q.num), .bool (zs q.num), .int .u64 ((lo (fe q) : Nat) : Int), .string (hs (fe q))] rfl
 simp only [setAll, List.set_cons_zero, List.set_cons_succ] at hPt
 generalize hput1 : (((((y5.setCell ⟨w.heap.size + 1, 0, none⟩ (.int .u64 ((zl q.num : Nat) : Int))).setCell ⟨w.heap.size + 1, 1, none⟩ (.string (zh q.num))).setCell ⟨w.heap.size + 1, 2, none⟩ (.bool (zs q.num))).setCell ⟨w.heap.size + 1, 3, none⟩ (.int .u64 ((lo (fe q) : Nat) : Int))).setCell ⟨w.heap.size + 1, 4, none⟩ (.string (hs (fe q)))) = y6 at hPt
 have hB1 := hPt.fc
 simp only [zF, Nat.reduceAdd] at hB1
 go_wp2_with fail
 exact bodyPost_ret (v := .tuple #[fracV q, .int .i64 0]) (by simp [results, Tryz.results82, go_sem, hB1]) rfl ⟨rfl, hPt.bl⟩
end Go.Proofs.YthffglapmkkohaaGreatDoor
namespace Go.Proofs.YthffglapmkkohaaGreatDoor
open Go.RowKit
attribute [local irreducible] lo hs sm s64 c64 d64 b64 mh ml pd pc qd qc val hiB str cmpI srD lz nb zl zh zs fe rowV tabV gv bsV tabM
theorem rtextV (x : List Rat) (n k : Nat) (Jt : List UInt8) (hx : x.length = n) (hn : n ≤ 10000) (hk : k ≤ 1000) (sx : ∀ q ∈ x, Sz q k) (hJ : Lib.join ((x.map qtxt).map (·.data.toList)) [32] = Jt) (hJl : Jt.length ≤ 1000000) (va : Value) (w : World) (ht : Tab w) (hv : RQ w va x) :
  Calls Tryz.prog 60 #[va] w fun xe w' => xe = .returned (.string ⟨([91] ++ Jt ++ [93]).toArray⟩) ∧ Below w.heap.size w w' := by
 obtain ⟨ao, c, rfl, hf⟩ := id hv
 rw [hx] at hv hf ⊢
 have HT := Lib.hid (fun i (hi : i < n) w ht => textF (gv x i) k (qsk x sx i (by omega)) (by omega) w ht)
 obtain ⟨tx, htx⟩ : ∃ tx, tx = x.map qtxt := ⟨_, rfl⟩
 have hti : ∀ i, i < n → tx.take (i + 1) = tx.take i ++ [qtxt (gv x i)] := fun i hi => by
  rw [htx, List.take_succ_eq_append_getElem (by rw [List.length_map]; omega), List.getElem_map, gv_get (by omega)]
 have htl : tx.length = n := by rw [htx, List.length_map, hx]
 rw [← htx] at hJ
 replace hti := Lib.hid hti
 replace htl := Lib.hid htl
 replace hJ := Lib.hid hJ
 replace hJl := Lib.hid hJl
 replace hf := Lib.hid hf
 replace ht := Lib.hid ht
 replace hn := Lib.hid hn
 clear sx hv htx
 go_enter Tryz.func60, Tryz.ntmps60
 go_wp2_with fail
 go_loopg [3, 8] n (fun gk sv iv wr => ∃ (k : Nat) (zi : Int) (vs : Value), k + gk = n ∧ vs = sv ∧ iv = .int .i64 zi ∧ zi = (k : Int) ∧ OwnS wr w.heap.size vs k (tx.take k) ∧ Below w.heap.size w wr)
 case atStart => exact ⟨0, 0, _, Nat.zero_add n, rfl, by first | rfl | go_num, rfl, World.ownsRow_nil _ _ _ _, Below.refl _ _⟩
 case round =>
  obtain ⟨k, zi, vs, hik, rfl, rfl, hzi, hown, hB⟩ := hrel
  replace hown := Lib.hid hown
  have hnn := hn.out
  rcases Nat.lt_or_ge k n with hin | hin
  ·subst hzi
   have k1 : (k : Int) < (n : Int) := by omega
   have k0 : (0 : Int) ≤ (k : Int) := Int.natCast_nonneg _
   have kb : (k : Int) ≤ 10000 := by omega
   obtain ⟨g, o, rfl, hfs⟩ := hf.out (by omega)
   have hcs := (hfs.below hB) k (by omega)
   have HT1 := HT.out k hin
   have hti1 := hti.out k hin
   generalize gv x k = q at hcs HT1 hti1
   obtain ⟨S, hS⟩ : ∃ S, S = qtxt q := ⟨_, rfl⟩
   rw [← hS] at HT1 hti1
   replace HT1 := Lib.hid HT1
   replace hti1 := Lib.hid hti1
   clear hS hfs
   obtain ⟨f0, f1, f2, f3, f4⟩ := hcs
   have hL0 : GL wr wr [] := GL.start wr
   replace hL0 := hL0.new rfl [.int .u64 ((zl q.num : Nat) : Int), .string (zh q.num), .bool (zs q.num), .int .u64 ((lo (fe q) : Nat) : Int), .string (hs (fe q))] 36
   generalize hweq : wr.alloc (.cells #[.int .u64 ((zl q.num : Nat) : Int), .string (zh q.num), .bool (zs q.num), .int .u64 ((lo (fe q) : Nat) : Int), .string (hs (fe q))] 36) = y2 at hL0
   have hN0 := cells_of _ 0 [] rfl (hL0.get _ _ mZ)
   simp only [zF, Nat.reduceAdd] at hN0
   have hB2 := Lib.hid (hB.trans (hL0.bl.mono hB.size))
   go_wp2_with fail
   with_reducible refine Calls.mono (HT1.out _ (ht.out.below hB2.out)) ?_
   rintro e y3 ⟨rfl, hb3⟩
   replace hL0 := hL0.call hb3
   have hown3 := Lib.hid (ownS_below hown.out hL0.bl)
   have hB3 := Lib.hid (hB.trans (hL0.bl.mono hB.size))
   clear hb3 hN0 hweq f0 f1 f2 f3 f4 hL0 hB2 hB hown
   have hL1 : GL y3 y3 [] := GL.start y3
   replace hL1 := hL1.new rfl [.string S] 9
   generalize hweq : y3.alloc (.cells #[.string S] 9) = y4 at hL1
   have hown4 := Lib.hid (ownS_below hown3.out hL1.bl)
   have hB4 := Lib.hid (hB3.out.trans (hL1.bl.mono hB3.out.size))
   have hH := Lib.hid (hL1.get _ _ mZ)
   go_wp2_with (at_builtin; refine wp_appendS rfl _ _ rfl _ _ _ _ rfl hown4.out _ S rfl hH.out (by omega) hB4.out.size ?_)
   intro v' w5 hown5 hgrow _
   have hB5 := hB4.out.grown hgrow hB4.out.size (fun j hj => (hown4.out.lt j hj).1)
   rw [← hti1.out] at hown5
   replace hown5 := Lib.hid hown5
   clear hgrow hown4 hB4 hown3 hB3 hH hweq
   go_wp2_with fail
   go_roundg (gk - 1)
   case measure => omega
   case rel => exact ⟨k + 1, _, _, by omega, rfl, by first | rfl | go_num, by omega, hown5.out, hB5⟩
  ·obtain rfl : k = n := by omega
   subst hzi
   have k1 : ¬ (k : Int) < (k : Int) := by omega
   rw [List.take_of_length_le (Nat.le_of_eq htl.out)] at hown
   have hJ2 : Calls Tryz.prog 128 #[vs, .string ⟨#[32]⟩] wr fun e w' => e = .returned (.string ⟨Jt.toArray⟩) ∧ Below wr.heap.size wr w' := by
    by_cases h0 : k = 0
    ·have e0 : tx = [] := List.eq_nil_of_length_eq_zero (by rw [htl.out, h0])
     obtain ⟨a, c2, hvs⟩ := ownS_form hown.out
     rw [hvs, h0]
     rw [e0] at hJ
     refine (Tryz.strings_Join_none a c2 ⟨#[32]⟩ wr).mono ?_
     rintro e w' ⟨rfl, rfl⟩
     exact ⟨by rw [← hJ.out]; rfl, Below.refl _ _⟩
    ·obtain ⟨g9, c9, hvs, hc9, hg9, hce9⟩ := ownS_cells hown.out (by rw [htl.out]; omega)
     rw [hvs]
     have := Tryz.strings_Join g9 0 c9 tx ⟨#[32]⟩ wr hce9 hg9 (by rw [htl.out]; omega) hc9 (by
      have h1 := hJl.out
      rw [← hJ.out] at h1
      exact Nat.le_trans h1 (by decide))
     rw [show (⟨#[32]⟩ : ByteArray).data.toList = [32] from rfl, hJ.out] at this
     exact this
   replace hJ2 := Lib.hid hJ2
   have j1 : (Jt.length : Int) ≤ 1000000 := by have := hJl.out; omega
   have j2 : ¬ (9223372036854775807 : Int) < 1 + (Jt.length : Int) := by omega
   have j3 : ¬ (9223372036854775806 : Int) < (Jt.length : Int) := by omega
   have j4 : 1 + (Jt.length : Int) ≤ 9223372036854775807 := by omega
   have j5 : ¬ (9223372036854775807 : Int) < 1 + (Jt.length : Int) + 1 := by omega
   have j6 : ¬ (9223372036854775806 : Int) < 1 + (Jt.length : Int) := by omega
   replace hB := Lib.hid hB
   obtain ⟨a9, c9, hvs⟩ := ownS_form hown.out
   subst hvs
   clear hown
   go_wp2_with fail
   refine hJ2.out.mono ?_
   rintro e y9 ⟨rfl, hb9⟩
   replace hb9 := Lib.hid (hB.out.trans (hb9.mono hB.out.size))
   go_wp2_with fail
   exact bodyPost_ret (v := .string ⟨([91] ++ Jt ++ [93]).toArray⟩) (by simp [results, Tryz.results60, go_sem]; apply ByteArray.ext; simp) rfl ⟨rfl, hb9.out⟩
theorem mequal_w (x y : List Rat) (n m c d : Nat) (ao bo : Option Addr) (hx : x.length = n) (hy : y.length = m) (hn : n ≤ 100000) (w : World) (h1 : 0 < n → ∃ g, ao = some ⟨g, 0, none⟩ ∧ FS w g x) (h2 : 0 < m → ∃ g, bo = some ⟨g, 0, none⟩ ∧ FS w g y) (b : Bool) (hb : b = decide (x = y)) :
  Calls Tryz.prog 95 #[.slice ao n c, .slice bo m d] w fun xe w' => xe = .returned (.bool b) ∧ Below w.heap.size w w' := by
 replace h1 := Lib.hid h1
 replace h2 := Lib.hid h2
 replace hb := Lib.hid hb
 replace hx := Lib.hid hx
 replace hy := Lib.hid hy
 by_cases hnm : n = m
 ·subst hnm
  go_enter Tryz.func95, Tryz.ntmps95
  go_wp2_with fail
  go_loopg [13] n (fun gk iv wr => ∃ (i : Nat) (zi : Int), i + gk = n ∧ iv = .int .i64 zi ∧ zi = (i : Int) ∧ (∀ j, j < i → gv x j = gv y j) ∧ Below w.heap.size w wr)
  case atStart => exact ⟨0, 0, Nat.zero_add n, by first | rfl | go_num, rfl, fun j h => absurd h (Nat.not_lt_zero _), Below.refl _ _⟩
  case round =>
   obtain ⟨i, zi, hik, rfl, hzi, hall, hB⟩ := hrel
   replace hall := Lib.hid hall
   rcases Nat.lt_or_ge i n with hin | hin
   ·subst hzi
    obtain ⟨g, rfl, f1⟩ := h1.out (by omega)
    obtain ⟨g2, rfl, f2⟩ := h2.out (by omega)
    have k1 : (i : Int) < (n : Int) := by omega
    have k0 : (0 : Int) ≤ (i : Int) := Int.natCast_nonneg _
    have kb : (i : Int) ≤ 100000 := by omega
    obtain ⟨p, hp⟩ : ∃ p, p = gv x i := ⟨_, rfl⟩
    obtain ⟨q, hq⟩ : ∃ q, q = gv y i := ⟨_, rfl⟩
    have hp9 := fsc (f1.below hB) i (by rw [hx.out]; exact hin)
    have hq9 := fsc (f2.below hB) i (by rw [hy.out]; exact hin)
    rw [← hp] at hp9
    rw [← hq] at hq9
    obtain ⟨t, ht⟩ : ∃ t, t = decide (p = q) := ⟨_, rfl⟩
    have hne := fun W => run_neqF p q t ht W
    replace ht := Lib.hid ht
    replace hp := Lib.hid hp
    replace hq := Lib.hid hq
    go_upto_region 6 with fail
    obtain ⟨α, iα, F, hF1, hF2⟩ := cls wr
    obtain ⟨a0, a1, a2, a3, a4⟩ := hp9
    obtain ⟨b0, b1, b2, b3, b4⟩ := hq9
    have p0 := fun yz => keepsC (hF1 yz) a0
    have r0 := fun yz => keepsC (hF1 yz) b0
    have p1 := fun yz => keepsC (hF1 yz) a1
    have r1 := fun yz => keepsC (hF1 yz) b1
    have p2 := fun yz => keepsC (hF1 yz) a2
    have r2 := fun yz => keepsC (hF1 yz) b2
    have p3 := fun yz => keepsC (hF1 yz) a3
    have r3 := fun yz => keepsC (hF1 yz) b3
    have p4 := fun yz => keepsC (hF1 yz) a4
    have r4 := fun yz => keepsC (hF1 yz) b4
    clear a0 a1 a2 a3 a4 b0 b1 b2 b3 b4
    cases t with
    | true =>
     refine region_cls (F := F) (by kernel_rfl) (lexB_of_fast (by kernel_rfl)) (cls_drew hF2) ?_
     repeat (go_big_quiet_step (first | fail))
     refine wpQuiet_nil ?_
     rintro wq ⟨xq, rfl⟩
     have hB2 := hB.trans ((hF1 xq).mono hB.size)
     clear p0 p1 p2 p3 p4 r0 r1 r2 r3 r4 hF2 hne
     generalize F xq = y2 at hB2 ⊢
     clear hF1 xq iα F α
     have hall2 := Lib.hid (show ∀ j, j < i + 1 → gv x j = gv y j from fun j h3 => by
      rcases Nat.lt_or_ge j i with h | h
      ·exact hall.out j h
      ·obtain rfl : j = i := by omega
       rw [← hp.out, ← hq.out]; exact of_decide_eq_true ht.out.symm)
     go_wp2_with fail
     go_roundg (gk - 1)
     case measure => omega
     case rel => exact ⟨i + 1, _, by omega, by first | rfl | go_num, by omega, hall2.out, hB2⟩
    | false =>
     have hbf : b = false := by
      rw [hb.out]
      refine decide_eq_false fun e => ?_
      have h1 := of_decide_eq_false ht.out.symm
      exact h1 (by rw [hp.out, hq.out, e])
     replace hbf := Lib.hid hbf
     refine region_cls (F := F) (by kernel_rfl) (lexB_of_fast (by kernel_rfl)) (cls_drew hF2) ?_
     repeat (go_big_quiet_step (first | fail))
     refine wpQuiet_nil ?_
     rintro wq ⟨xq, rfl⟩
     have hB2 := hB.trans ((hF1 xq).mono hB.size)
     clear p0 p1 p2 p3 p4 r0 r1 r2 r3 r4 hF2 hne
     generalize F xq = y2 at hB2 ⊢
     clear hF1 xq iα F α
     go_wp2_with fail
     go_ret
     exact ⟨by rw [hbf.out]; rfl, hB2⟩
   ·obtain rfl : i = n := by omega
    subst hzi
    have k1 : ¬ (i : Int) < (i : Int) := by omega
    have hbt : b = true := by
     rw [hb.out]
     refine decide_eq_true (List.ext_getElem (by rw [hx.out, hy.out]) fun j g1 g2 => ?_)
     rw [← gv_get g1, ← gv_get g2]
     exact hall.out j (by rw [hx.out] at g1; exact g1)
    replace hbt := Lib.hid hbt
    go_wp2_with fail
    go_ret
    exact ⟨by rw [hbt.out]; rfl, hB⟩
 ·have b1 : (((n : Nat) : Int) != ((m : Nat) : Int)) = true := by simp; omega
  have b2 : ¬ ((n : Nat) : Int) = ((m : Nat) : Int) := by omega
  have hbf : b = false := by
   rw [hb.out]
   exact decide_eq_false fun e => hnm (by rw [← hx.out, ← hy.out, e])
  replace hbf := Lib.hid hbf
  go_enter Tryz.func95, Tryz.ntmps95
  go_wp2_with fail
  go_ret
  exact ⟨by rw [hbf.out]; rfl, Below.refl _ _⟩
theorem mSameV (x y : Mx) (hr : y.r = x.r) (hc : y.c = x.c) (hn : x.l.length ≤ 100000) (u s : Value) (w : World) (hu : CQ w u x.l) (hs : CQ w s y.l) :
  Calls Tryz.prog 30 #[.agg #[.int .i64 (x.r : Int), .int .i64 (x.c : Int), u], .agg #[.int .i64 (y.r : Int), .int .i64 (y.c : Int), s]] w fun xe w' => xe = .returned (.bool (decide (x.l = y.l))) ∧ Below w.heap.size w w' := by
 obtain ⟨ao, d, rfl, -⟩ := hu.form
 obtain ⟨a5, d5, rfl, -⟩ := hs.form
 have HE := fun (w : World) (h1 : SlQ w (.slice ao x.l.length d) x.l) (h2 : SlQ w (.slice a5 y.l.length d5) y.l) => mequal_w x.l y.l x.l.length y.l.length d d5 ao a5 rfl rfl hn w (by obtain ⟨a, c, e, h⟩ := slq_len h1; injection e with e1; rw [e1]; exact h) (by obtain ⟨a, c, e, h⟩ := slq_len h2; injection e with e1; rw [e1]; exact h) _ rfl
 have hL0 : GL w w [] := GL.start w
 rw [hr, hc]
 generalize decide (x.l = y.l) = b at *
 obtain ⟨x1, hweq, hL0⟩ := GL.named ((hL0.new rfl [.int .i64 (x.r : Int), .int .i64 (x.c : Int), (.slice ao x.l.length d)] 56).new (K := w.heap.size + 1) (szA _ _) [.int .i64 (x.r : Int), .int .i64 (x.c : Int), (.slice a5 y.l.length d5)] 56)
 replace HE := Lib.hid (HE x1 (hu.1.below hL0.bl) (hs.1.below hL0.bl))
 clear hu hs hr hc hn
 have hA := hL0.fc
 simp only [zF, Nat.reduceAdd] at hA
 have e1 : ((x.r : Int) == (x.r : Int)) = true := by simp
 have e2 : ((x.c : Int) == (x.c : Int)) = true := by simp
 go_enter Tryz.func30, Tryz.ntmps30
 go_wp2_with fail
 with_reducible refine Calls.mono (HE.out) ?_
 rintro e y1 ⟨rfl, hb⟩
 replace hL0 := hL0.call hb
 clear hb hA hweq HE
 replace hL0 := Lib.hid hL0
 go_wp2_with fail
 exact bodyPost_ret (v := .bool b) (by simp [results, Tryz.results30, go_sem]) rfl ⟨rfl, hL0.out.bl⟩
theorem mSumV (x : Mx) (k : Nat) (hx : OKM x) (hk : x.l.length * (k + 1) ≤ 9000000) (hk2 : k ≤ 2000000) (hl : x.l.length ≤ 1000) (sx : ∀ q ∈ x.l, Sz q k) (u : Value) (w : World) (hu : CQ w u x.l) :
  Calls Tryz.prog 37 #[.agg #[.int .i64 (x.r : Int), .int .i64 (x.c : Int), u]] w fun xe w' => xe = .returned (fracV (qsum x.l)) ∧ Below w.heap.size w w' := by
 obtain ⟨ao, d, rfl, -⟩ := hu.form
 have HS := Lib.hid fun w h => sumF2 ao x.l.length d x.l k hk hk2 hl sx w h
 have HK := Lib.hid (mcheck_ok x.r x.c x.l.length d ao hx.r hx.c hx.len)
 generalize qsum x.l = q at HS ⊢
 clear hk hk2 hl sx hx
 have hL0 : GL w w [] := GL.start w
 obtain ⟨x1, hweq, hL0⟩ := GL.named ((hL0.new rfl [.int .i64 (x.r : Int), .int .i64 (x.c : Int), (.slice ao x.l.length d)] 56).new (K := w.heap.size + 1) (szA _ _) [.int .u64 0, .string ⟨#[]⟩, .bool false, .int .u64 0, .string ⟨#[]⟩] 36)
 have hu1 := Lib.hid (hu.1.below hL0.bl)
 clear hu
 have hA := hL0.fc
 simp only [zF, Nat.reduceAdd] at hA
 go_enter Tryz.func37, Tryz.ntmps37
 go_wp2_with fail
 with_reducible refine Calls.mono (HK.out _) ?_
 rintro e y1 ⟨rfl, hb⟩
 replace hu1 := Lib.hid (hu1.out.below hb)
 replace hL0 := hL0.call hb
 clear hb hA hweq HK
 have hA := cells_of _ 0 [] rfl (hL0.get _ _ (mK mZ))
 simp only [zF, Nat.reduceAdd] at hA
 go_wp2_with fail
 with_reducible refine Calls.mono (HS.out _ hu1.out) ?_
 rintro e y2 ⟨rfl, hb⟩
 replace hL0 := hL0.call hb
 clear hb hA hu1 HS
 have hA := hL0.fc
 simp only [zF, Nat.reduceAdd] at hA
 have hPt := hL0.put 0 (w.heap.size + 1) _ rfl [.int .u64 ((zl q.num : Nat) : Int), .string (zh q.num), .bool (zs q.num), .int .u64 ((lo (fe q) : Nat) : Int), .string (hs (fe q))] rfl
 simp only [setAll, List.set_cons_zero, List.set_cons_succ] at hPt
 generalize hput1 : (((((y2.setCell ⟨w.heap.size + 1, 0, none⟩ (.int .u64 ((zl q.num : Nat) : Int))).setCell ⟨w.heap.size + 1, 1, none⟩ (.string (zh q.num))).setCell ⟨w.heap.size + 1, 2, none⟩ (.bool (zs q.num))).setCell ⟨w.heap.size + 1, 3, none⟩ (.int .u64 ((lo (fe q) : Nat) : Int))).setCell ⟨w.heap.size + 1, 4, none⟩ (.string (hs (fe q)))) = y9 at hPt
 have hB1 := hPt.fc
 simp only [zF, Nat.reduceAdd] at hB1
 go_wp2_with fail
 exact bodyPost_ret (v := fracV q) (by simp [results, Tryz.results37, go_sem, hB1]) rfl ⟨rfl, hPt.bl⟩
theorem mcheck_err (r c : Int) (e : Int) (n d : Nat) (ao : Option Addr) (he : e ≠ 0) (HS : ∀ w, Calls Tryz.prog 85 #[.int .i64 r, .int .i64 c] w fun xe w' => xe = .returned (.int .i64 e) ∧ Below w.heap.size w w') (w : World) : Calls Tryz.prog 89 #[.agg #[.int .i64 r, .int .i64 c, .slice ao n d]] w fun xe w' => xe = .returned (.int .i64 e) ∧ Below w.heap.size w w' := by
 replace HS := Lib.hid HS
 have h1 : (e != 0) = true := by simpa using he
 have h2 : (e == 0) = false := by simpa using he
 clear he
 have hL0 : GL w w [] := GL.start w
 obtain ⟨x1, hweq, hL0⟩ := GL.named (hL0.new rfl [.int .i64 r, .int .i64 c, .slice ao n d] 56)
 have hA := hL0.fc
 simp only [zF, Nat.reduceAdd] at hA
 go_enter Tryz.func89, Tryz.ntmps89
 go_wp2_with fail
 with_reducible refine Calls.mono (HS.out _) ?_
 rintro e y1 ⟨rfl, hb⟩
 replace hL0 := hL0.call hb
 clear hb hA hweq HS
 replace hL0 := Lib.hid hL0
 go_wp2_with fail
 exact bodyPost_ret (v := .int .i64 e) (by simp [results, Tryz.results89, go_sem]) rfl ⟨rfl, hL0.out.bl⟩
theorem mcheck_len (r c n d m : Nat) (ao : Option Addr) (hr : r ≤ 2048) (hc : c ≤ 2048) (hm : m = r * c) (hn : n ≠ m) (w : World) : Calls Tryz.prog 89 #[.agg #[.int .i64 (r : Int), .int .i64 (c : Int), .slice ao n d]] w fun xe w' => xe = .returned (.int .i64 1) ∧ Below w.heap.size w w' := by
 have HS := Lib.hid (msize_ok r c hr hc)
 have hmul : (r : Int) * (c : Int) = (m : Int) := by rw [hm, Int.natCast_mul]
 have hle : m ≤ 2048 * 2048 := by rw [hm]; exact Nat.mul_le_mul hr hc
 have hb1 : (m : Int) ≤ 5000000 := by omega
 have hb0 : (0 : Int) ≤ (m : Int) := Int.natCast_nonneg _
 have h1 : ((n : Int) != (m : Int)) = true := by simp; omega
 have h2 : ((n : Int) == (m : Int)) = false := by simp; omega
 have h3 : (n == m) = false := by simp; omega
 have h4 : ¬ (n : Int) = (m : Int) := by omega
 clear hr hc hm hle hn
 have hL0 : GL w w [] := GL.start w
 obtain ⟨x1, hweq, hL0⟩ := GL.named (hL0.new rfl [.int .i64 (r : Int), .int .i64 (c : Int), .slice ao n d] 56)
 have hA := hL0.fc
 simp only [zF, Nat.reduceAdd] at hA
 go_enter Tryz.func89, Tryz.ntmps89
 go_wp2_with fail
 with_reducible refine Calls.mono (HS.out _) ?_
 rintro e y1 ⟨rfl, hb⟩
 replace hL0 := hL0.call hb
 clear hb hA hweq HS
 have hA := hL0.fc
 simp only [zF, Nat.reduceAdd] at hA
 go_wp2_with fail
 exact bodyPost_ret (v := .int .i64 1) (by simp [results, Tryz.results89, go_sem]) rfl ⟨rfl, hL0.bl⟩
theorem mOf_ok (r c : Nat) (zs : List Int) (hm : zs.length ≤ 100000) (hz : ∀ z ∈ zs, -9223372036854775808 ≤ z ∧ z < 9223372036854775808) (hr : r ≤ 2048) (hc : c ≤ 2048) (hl : zs.length = r * c) (s : Value) (w : World) (hs : ILs w s zs) :
  Calls Tryz.prog 81 #[.int .i64 (r : Int), .int .i64 (c : Int), s] w fun xe w' => ∃ v, xe = .returned (.tuple #[.agg #[.int .i64 (r : Int), .int .i64 (c : Int), v], .int .i64 0]) ∧ NV w.heap.size (tabV zs.length (ofV zs)) v w' ∧ Below w.heap.size w w' := by
 have HV := Lib.hid fun w h => vofV zs hm hz s w h
 have HK := fun d ao => mcheck_ok r c zs.length d ao hr hc hl
 clear hr hc hl hm hz
 have hle : (tabV zs.length (ofV zs)).length = zs.length := tabV_len _ _
 rw [← hle] at HK
 clear hle
 generalize tabV zs.length (ofV zs) = tl at HV HK ⊢
 replace HK := Lib.hid HK
 obtain ⟨ao, c1, -, rfl, -⟩ := id hs
 have hL0 : GL w w [] := GL.start w
 obtain ⟨x1, hweq, hL0⟩ := GL.named (hL0.new rfl [.int .i64 0, .int .i64 0, .slice none 0 0] 56)
 have hs1 := Lib.hid (hs.below hL0.bl)
 clear hs
 go_enter Tryz.func81, Tryz.ntmps81
 have hx0 := Lib.hid hL0
 go_wp2_with fail
 with_reducible refine Calls.mono (HV.out _ hs1.out) ?_
 rintro e y1 ⟨u, rfl, hnv, hb⟩
 replace hL0 := hL0.call hb
 clear hb hweq hs1 HV
 replace hx0 := hx0.out
 obtain ⟨gu, rfl, hge, hHd⟩ := hnv
 replace hL0 := GL.tnew (M := []) hL0 hx0 hHd hge (fun p hp => by cases hp)
 simp only [List.nil_append] at hL0
 have hge2 := Lib.hid (Nat.le_trans hx0.bl.size hge)
 clear hx0 hge hHd
 have hL1 := hL0.new rfl [.int .i64 (r : Int), .int .i64 (c : Int), .slice (some ⟨gu, 0, none⟩) tl.length tl.length] 56
 generalize hweq : y1.alloc (.cells #[.int .i64 (r : Int), .int .i64 (c : Int), .slice (some ⟨gu, 0, none⟩) tl.length tl.length] 56) = y2 at hL1
 clear hL0
 have hL0 := hL1
 clear hL1
 have hA := cells_of _ 0 [] rfl (hL0.get _ _ mZ)
 simp only [zF, Nat.reduceAdd] at hA
 go_wp2_with fail
 with_reducible refine Calls.mono (HK.out _ _ _) ?_
 rintro e y3 ⟨rfl, hb⟩
 replace hL0 := hL0.call hb
 clear hb hA hweq HK
 have hC := cells_of _ 0 [] rfl (hL0.get _ _ mZ)
 simp only [zF, Nat.reduceAdd] at hC
 have hA := cells_of _ 0 [] rfl (hL0.get _ _ (mK (mK mZ)))
 simp only [zF, Nat.reduceAdd] at hA
 have zf := (hL0.get _ _ (mK (mK mZ))).frz
 have hPt := hL0.put 2 (w.heap.size) _ rfl [.int .i64 (r : Int), .int .i64 (c : Int), .slice (some ⟨gu, 0, none⟩) tl.length tl.length] rfl
 simp only [setAll, List.set_cons_zero, List.set_cons_succ] at hPt
 generalize hput1 : (((y3.setCell ⟨w.heap.size, 0, none⟩ (.int .i64 (r : Int))).setCell ⟨w.heap.size, 1, none⟩ (.int .i64 (c : Int))).setCell ⟨w.heap.size, 2, none⟩ (.slice (some ⟨gu, 0, none⟩) tl.length tl.length)) = y4 at hPt
 have hB1 := cells_of _ 0 [] rfl (hPt.get _ _ (mK (mK mZ)))
 simp only [zF, Nat.reduceAdd] at hB1
 have hNV : NV w.heap.size tl (.slice (some ⟨gu, 0, none⟩) tl.length tl.length) y4 := ⟨gu, rfl, hge2.out, hPt.get _ _ (mK mZ)⟩
 replace hNV := Lib.hid hNV
 clear hL0 hge2
 go_wp2_with fail
 exact bodyPost_ret (v := .tuple #[.agg #[.int .i64 (r : Int), .int .i64 (c : Int), .slice (some ⟨gu, 0, none⟩) tl.length tl.length], .int .i64 0]) (by simp [results, Tryz.results81, go_sem, hB1]) rfl ⟨_, rfl, hNV.out, hPt.bl⟩
theorem mOf_err (r c e : Int) (zs : List Int) (hm : zs.length ≤ 100000) (hz : ∀ z ∈ zs, -9223372036854775808 ≤ z ∧ z < 9223372036854775808) (he : e ≠ 0) (HK : ∀ d ao w, Calls Tryz.prog 89 #[.agg #[.int .i64 r, .int .i64 c, .slice ao zs.length d]] w fun xe w' => xe = .returned (.int .i64 e) ∧ Below w.heap.size w w') (s : Value) (w : World) (hs : ILs w s zs) :
  Calls Tryz.prog 81 #[.int .i64 r, .int .i64 c, s] w fun xe w' => xe = .returned (.tuple #[.agg #[.int .i64 0, .int .i64 0, .slice none 0 0], .int .i64 e]) ∧ Below w.heap.size w w' := by
 have HV := Lib.hid fun w h => vofV zs hm hz s w h
 clear hm hz
 have hle : (tabV zs.length (ofV zs)).length = zs.length := tabV_len _ _
 rw [← hle] at HK
 clear hle
 generalize tabV zs.length (ofV zs) = tl at HV HK ⊢
 replace HK := Lib.hid HK
 have h1 : (e != 0) = true := by simpa using he
 have h2 : (e == 0) = false := by simpa using he
 clear he
 obtain ⟨ao, c1, -, rfl, -⟩ := id hs
 have hL0 : GL w w [] := GL.start w
 obtain ⟨x1, hweq, hL0⟩ := GL.named (hL0.new rfl [.int .i64 0, .int .i64 0, .slice none 0 0] 56)
 have hs1 := Lib.hid (hs.below hL0.bl)
 clear hs
 go_enter Tryz.func81, Tryz.ntmps81
 have hx0 := Lib.hid hL0
 go_wp2_with fail
 with_reducible refine Calls.mono (HV.out _ hs1.out) ?_
 rintro e y1 ⟨u, rfl, hnv, hb⟩
 replace hL0 := hL0.call hb
 clear hb hweq hs1 HV
 replace hx0 := hx0.out
 obtain ⟨gu, rfl, hge, hHd⟩ := hnv
 replace hL0 := GL.tnew (M := []) hL0 hx0 hHd hge (fun p hp => by cases hp)
 simp only [List.nil_append] at hL0
 have hge2 := Lib.hid (Nat.le_trans hx0.bl.size hge)
 clear hx0 hge hHd
 have hL1 := hL0.new rfl [.int .i64 r, .int .i64 c, .slice (some ⟨gu, 0, none⟩) tl.length tl.length] 56
 generalize hweq : y1.alloc (.cells #[.int .i64 r, .int .i64 c, .slice (some ⟨gu, 0, none⟩) tl.length tl.length] 56) = y2 at hL1
 clear hL0
 have hL0 := hL1
 clear hL1
 have hA := cells_of _ 0 [] rfl (hL0.get _ _ mZ)
 simp only [zF, Nat.reduceAdd] at hA
 go_wp2_with fail
 with_reducible refine Calls.mono (HK.out _ _ _) ?_
 rintro e y3 ⟨rfl, hb⟩
 replace hL0 := hL0.call hb
 clear hb hA hweq HK
 have hA := cells_of _ 0 [] rfl (hL0.get _ _ (mK (mK mZ)))
 simp only [zF, Nat.reduceAdd] at hA
 have zf := (hL0.get _ _ (mK (mK mZ))).frz
 have hPt := hL0.put 2 (w.heap.size) _ rfl [.int .i64 0, .int .i64 0, .slice none 0 0] rfl
 simp only [setAll, List.set_cons_zero, List.set_cons_succ] at hPt
 generalize hput1 : (((y3.setCell ⟨w.heap.size, 0, none⟩ (.int .i64 0)).setCell ⟨w.heap.size, 1, none⟩ (.int .i64 0)).setCell ⟨w.heap.size, 2, none⟩ (.slice none 0 0)) = y4 at hPt
 have hB1 := cells_of _ 0 [] rfl (hPt.get _ _ (mK (mK mZ)))
 simp only [zF, Nat.reduceAdd] at hB1
 clear hL0 hge2
 go_wp2_with fail
 exact bodyPost_ret (v := .tuple #[.agg #[.int .i64 0, .int .i64 0, .slice none 0 0], .int .i64 e]) (by simp [results, Tryz.results81, go_sem, hB1]) rfl ⟨rfl, hPt.bl⟩
theorem mindex_in (i n : Int) (h0 : 0 ≤ i) (h1 : i < n) (w : World) : Calls Tryz.prog 90 #[.int .i64 i, .int .i64 n] w fun xe w' => xe = .returned (.bool true) ∧ Below w.heap.size w w' := by
 go_enter Tryz.func90, Tryz.ntmps90
 go_wp2_with fail
 exact bodyPost_ret (v := .bool true) (by simp [results, Tryz.results90, go_sem]) rfl ⟨rfl, Below.refl _ _⟩
theorem mindices_ok (ps : List Nat) (n : Nat) (hm : ps.length ≤ 100000) (hp : ∀ p ∈ ps, p < n) (v : Value) (w : World) (hv : ILs w v (ps.map Int.ofNat)) : Calls Tryz.prog 96 #[v, .int .i64 (n : Int)] w fun xe w' => xe = .returned (.bool true) ∧ Below w.heap.size w w' := by
 obtain ⟨ao, c, g, rfl, h2, h3⟩ := hv
 rw [List.length_map] at h2 ⊢
 obtain ⟨m, hme⟩ : ∃ m, m = ps.length := ⟨_, rfl⟩
 rw [← hme] at h2 hm ⊢
 have h4 : ∀ i, i < m → ∃ p : Nat, p < n ∧ w.cell? ⟨g, i, none⟩ = some (.int .i64 (p : Int)) := fun i hi => by
  have e := h3 i (by rw [List.length_map, ← hme]; exact hi)
  rw [List.getElem_map] at e
  exact ⟨_, hp _ (List.getElem_mem (by rw [← hme]; exact hi)), e⟩
 clear hp h3 hme
 replace h2 := Lib.hid h2
 replace h4 := Lib.hid h4
 replace hm := Lib.hid hm
 go_enter Tryz.func96, Tryz.ntmps96
 go_wp2_with fail
 go_loopg [9] m (fun gk iv wr => ∃ (k : Nat) (zi : Int), k + gk = m ∧ iv = .int .i64 zi ∧ zi = (k : Int) ∧ Below w.heap.size w wr)
 case atStart => exact ⟨0, 0, Nat.zero_add m, by first | rfl | go_num, rfl, Below.refl _ _⟩
 case round =>
  obtain ⟨k, zi, hik, rfl, hzi, hbl⟩ := hrel
  have hmm := hm.out
  rcases Nat.lt_or_ge k m with hin | hin
  ·subst hzi
   have k1 : (k : Int) < (m : Int) := by omega
   have k0 : (0 : Int) ≤ (k : Int) := Int.natCast_nonneg _
   have kb : (k : Int) ≤ 100000 := by omega
   obtain ⟨p, hp, hcell⟩ := h4.out k hin
   replace hcell := keepsC hbl hcell
   obtain ⟨rfl, -⟩ := h2.out (by omega)
   have HI := Lib.hid (mindex_in (p : Int) (n : Int) (Int.natCast_nonneg _) (by omega))
   replace hbl := Lib.hid hbl
   clear hp
   go_wp2_with fail
   with_reducible refine Calls.mono (HI.out _) ?_
   rintro e y2 ⟨rfl, hb⟩
   have hb2 := Lib.hid (hbl.out.trans (hb.mono hbl.out.size))
   clear hb hbl hcell
   go_wp2_with fail
   go_roundg (m - (k + 1))
   case measure => omega
   case rel => exact ⟨k + 1, _, by omega, by first | rfl | go_num, by omega, hb2.out⟩
  ·obtain rfl : k = m := by omega
   subst hzi
   have k1 : ¬ (k : Int) < (k : Int) := by omega
   replace hbl := Lib.hid hbl
   go_wp2_with fail
   exact bodyPost_ret (v := .bool true) (by simp [results, Tryz.results96, go_sem]) rfl ⟨rfl, hbl.out⟩
theorem mPartV (x : Mx) (ps qs : List Nat) (hx : OKM x) (hm : ps.length ≤ 100) (hq : qs.length ≤ 100) (hp : ∀ p ∈ ps, p < x.r) (hr : ∀ p ∈ qs, p < x.c) (u s t : Value) (w : World) (hu : CQ w u x.l) (hs : ILs w s (ps.map Int.ofNat)) (ht : ILs w t (qs.map Int.ofNat)) :
  Calls Tryz.prog 31 #[.agg #[.int .i64 (x.r : Int), .int .i64 (x.c : Int), u], s, t] w fun xe w' => ∃ v, xe = .returned (.tuple #[.agg #[.int .i64 (ps.length : Int), .int .i64 (qs.length : Int), v], .int .i64 0]) ∧ NV w.heap.size (tabM ps.length qs.length fun i j => ent x (ps.getD i 0) (qs.getD j 0)).l v w' ∧ Below w.heap.size w w' := by
 have HB : ∀ b1 b2 b3 ux va vb (w : World), (BM w b1 ux x ∧ ILs w va (ps.map Int.ofNat) ∧ ILs w vb (qs.map Int.ofNat) ∧ w.cell? ⟨b2, 0, none⟩ = some va ∧ w.cell? ⟨b3, 0, none⟩ = some vb) → Calls Tryz.prog 88 #[.int .i64 (ps.length : Int), .int .i64 (qs.length : Int), .func (.func 97) #[] #[.pointer (some ⟨b1, 0, none⟩), .pointer (some ⟨b2, 0, none⟩), .pointer (some ⟨b3, 0, none⟩)]] w fun xe w' => ∃ v, xe = .returned (.agg #[.int .i64 (ps.length : Int), .int .i64 (qs.length : Int), v]) ∧ NV w.heap.size (tabM ps.length qs.length fun i j => ent x (ps.getD i 0) (qs.getD j 0)).l v w' ∧ Below w.heap.size w w' := fun b1 b2 b3 ux va vb w h =>
  mbuild_w 97 #[.pointer (some ⟨b1, 0, none⟩), .pointer (some ⟨b2, 0, none⟩), .pointer (some ⟨b3, 0, none⟩)] enmpart ps.length qs.length (fun i j => ent x (ps.getD i 0) (qs.getD j 0)) (fun w => BM w b1 ux x ∧ ILs w va (ps.map Int.ofNat) ∧ ILs w vb (qs.map Int.ofNat) ∧ w.cell? ⟨b2, 0, none⟩ = some va ∧ w.cell? ⟨b3, 0, none⟩ = some vb) (Keeps.and (BM.keeps _ _ _) (Keeps.and (ILs.keeps _ _) (Keeps.and (ILs.keeps _ _) (Keeps.and (keepsB _ _) (keepsB _ _))))) (fun i k hi hk w h => mpart_at x hx ps qs hp hr b1 b2 b3 ux va vb i k hi hk w h) (by omega) (by omega) (by have := Nat.mul_le_mul hm hq; omega) w h
 have HK := fun (d : Nat) (ao : Option Addr) => mcheck_ok x.r x.c x.l.length d ao hx.r hx.c hx.len
 have HS := Lib.hid (msize_ok ps.length qs.length (by omega) (by omega))
 have HI := Lib.hid fun w h => mindices_ok ps x.r (by omega) hp s w h
 have HJ := Lib.hid fun w h => mindices_ok qs x.c (by omega) hr t w h
 clear hp hr hx hm hq
 generalize (tabM ps.length qs.length fun i j => ent x (ps.getD i 0) (qs.getD j 0)).l = tl at HB ⊢
 obtain ⟨ao, d, rfl, -⟩ := id hu.form
 obtain ⟨a5, d5, g5, rfl, -⟩ := id hs
 obtain ⟨a6, d6, g6, rfl, -⟩ := id ht
 rw [List.length_map] at hs ht HI HJ ⊢
 replace HK := Lib.hid (HK d ao)
 replace HB := Lib.hid HB
 have hL0 : GL w w [] := GL.start w
 obtain ⟨x1, hweq, hL0⟩ := GL.named ((((hL0.new rfl [.int .i64 (x.r : Int), .int .i64 (x.c : Int), (.slice ao x.l.length d)] 56).new (K := w.heap.size + 1) (szA _ _) [.slice a5 ps.length d5] 24).new (K := w.heap.size + 1 + 1) (by simp only [World.size_alloc]) [.slice a6 qs.length d6] 24).new (K := w.heap.size + 1 + 1 + 1) (by simp only [World.size_alloc]) [.int .i64 0, .int .i64 0, .slice none 0 0] 56)
 have hu1 := Lib.hid (hu.below hL0.bl)
 have hs1 := Lib.hid (hs.below hL0.bl)
 have ht1 := Lib.hid (ht.below hL0.bl)
 clear hu hs ht
 have hA := hL0.fc
 simp only [zF, Nat.reduceAdd] at hA
 go_enter Tryz.func31, Tryz.ntmps31
 go_wp2_with fail
 with_reducible refine Calls.mono (HK.out _) ?_
 rintro e y1 ⟨rfl, hb⟩
 replace hu1 := Lib.hid (hu1.out.below hb)
 replace hs1 := Lib.hid (hs1.out.below hb)
 replace ht1 := Lib.hid (ht1.out.below hb)
 replace hL0 := hL0.call hb
 clear hb hA hweq HK
 have hA := hL0.fc
 simp only [zF, Nat.reduceAdd] at hA
 go_wp2_with fail
 with_reducible refine Calls.mono (HS.out _) ?_
 rintro e y2 ⟨rfl, hb⟩
 replace hu1 := Lib.hid (hu1.out.below hb)
 replace hs1 := Lib.hid (hs1.out.below hb)
 replace ht1 := Lib.hid (ht1.out.below hb)
 replace hL0 := hL0.call hb
 clear hb hA HS
 have hA := hL0.fc
 simp only [zF, Nat.reduceAdd] at hA
 go_wp2_with fail
 with_reducible refine Calls.mono (HI.out _ hs1.out) ?_
 rintro e y3 ⟨rfl, hb⟩
 replace hu1 := Lib.hid (hu1.out.below hb)
 replace hs1 := Lib.hid (hs1.out.below hb)
 replace ht1 := Lib.hid (ht1.out.below hb)
 replace hL0 := hL0.call hb
 clear hb hA HI
 have hA := hL0.fc
 simp only [zF, Nat.reduceAdd] at hA
 go_wp2_with fail
 with_reducible refine Calls.mono (HJ.out _ ht1.out) ?_
 rintro e y4 ⟨rfl, hb⟩
 replace hu1 := Lib.hid (hu1.out.below hb)
 replace hs1 := Lib.hid (hs1.out.below hb)
 replace ht1 := Lib.hid (ht1.out.below hb)
 replace hL0 := hL0.call hb
 clear hb hA HJ
 have hB1 := BM.of (hL0.get _ _ (mK (mK (mK mZ)))) hu1.out
 have hc1 := (hL0.get _ _ (mK (mK mZ))).cell 0 (by simp)
 simp only [List.getElem_cons_zero, List.getElem_cons_succ] at hc1
 have hc2 := (hL0.get _ _ (mK mZ)).cell 0 (by simp)
 simp only [List.getElem_cons_zero, List.getElem_cons_succ] at hc2
 replace HB := Lib.hid (HB.out _ _ _ _ _ _ _ ⟨hB1, hs1.out, ht1.out, hc1, hc2⟩)
 clear hc1 hc2 hB1 hu1 hs1 ht1
 have hx0 := Lib.hid hL0
 have hA := cells_of _ 0 [] rfl (hL0.get _ _ (mK (mK mZ)))
 simp only [zF, Nat.reduceAdd] at hA
 have zA := (hL0.get _ _ (mK (mK mZ))).frz
 have hC := cells_of _ 0 [] rfl (hL0.get _ _ (mK mZ))
 simp only [zF, Nat.reduceAdd] at hC
 have zC := (hL0.get _ _ (mK mZ)).frz
 go_wp2_with fail
 with_reducible refine Calls.mono (HB.out) ?_
 rintro e y5 ⟨u, rfl, hnv, hb⟩
 replace hL0 := hL0.call hb
 clear hb hA hC zA zC
 replace hx0 := hx0.out
 obtain ⟨gu, rfl, hge, hHd⟩ := hnv
 replace hL0 := GL.tnew (M := []) hL0 hx0 hHd hge (fun p hp => by cases hp)
 simp only [List.nil_append] at hL0
 have hge2 := Lib.hid (Nat.le_trans hx0.bl.size hge)
 clear hx0 hge hHd
 have hA := cells_of _ 0 [] rfl (hL0.get _ _ (mK mZ))
 simp only [zF, Nat.reduceAdd] at hA
 have zf := (hL0.get _ _ (mK mZ)).frz
 have hPt := hL0.put 1 (w.heap.size + 1 + 1 + 1) _ rfl [.int .i64 (ps.length : Int), .int .i64 (qs.length : Int), .slice (some ⟨gu, 0, none⟩) tl.length tl.length] rfl
 simp only [setAll, List.set_cons_zero, List.set_cons_succ] at hPt
 generalize hput1 : (((y5.setCell ⟨w.heap.size + 1 + 1 + 1, 0, none⟩ (.int .i64 (ps.length : Int))).setCell ⟨w.heap.size + 1 + 1 + 1, 1, none⟩ (.int .i64 (qs.length : Int))).setCell ⟨w.heap.size + 1 + 1 + 1, 2, none⟩ (.slice (some ⟨gu, 0, none⟩) tl.length tl.length)) = y6 at hPt
 have hB1 := cells_of _ 0 [] rfl (hPt.get _ _ (mK mZ))
 simp only [zF, Nat.reduceAdd] at hB1
 have hNV : NV w.heap.size tl (.slice (some ⟨gu, 0, none⟩) tl.length tl.length) y6 := ⟨gu, rfl, hge2.out, hPt.get _ _ mZ⟩
 replace hNV := Lib.hid hNV
 clear hL0 hge2
 go_wp2_with fail
 exact bodyPost_ret (v := .tuple #[.agg #[.int .i64 (ps.length : Int), .int .i64 (qs.length : Int), .slice (some ⟨gu, 0, none⟩) tl.length tl.length], .int .i64 0]) (by simp [results, Tryz.results31, go_sem, hB1]) rfl ⟨_, rfl, hNV.out, hPt.bl⟩
theorem mTextV (x : Mx) (S : Nat → ByteArray) (Jt : List UInt8) (hx : OKM x) (HT : ∀ i, i < x.r → ∀ (v : Value) (w : World), Tab w → RQ w v (rowL x i) → Calls Tryz.prog 60 #[v] w fun xe w' => xe = .returned (.string (S i)) ∧ Below w.heap.size w w') (hJ : Lib.join (((List.range x.r).map S).map (·.data.toList)) [32] = Jt) (hJl : Jt.length ≤ 1000000) (u : Value) (w : World) (ht : Tab w) (hu : CQ w u x.l) :
  Calls Tryz.prog 83 #[.agg #[.int .i64 (x.r : Int), .int .i64 (x.c : Int), u]] w fun xe w' => xe = .returned (.string ⟨Jt.toArray⟩) ∧ Below w.heap.size w w' := by
 have HR := Lib.hid fun i (hi : i < x.r) w0 (h : CQ w0 u x.l) => mrowV x hx i hi u w0 h
 obtain ⟨ao, d, rfl, -⟩ := id hu.form
 have HK := Lib.hid (mcheck_ok x.r x.c x.l.length d ao hx.r hx.c hx.len)
 have hn := Lib.hid hx.r
 obtain ⟨n, hne⟩ : ∃ n, n = x.r := ⟨_, rfl⟩
 rw [← hne] at HR HK hn hJ HT ⊢
 obtain ⟨tx, htx⟩ : ∃ tx, tx = (List.range n).map S := ⟨_, rfl⟩
 have hti : ∀ i, i < n → tx.take (i + 1) = tx.take i ++ [S i] := fun i hi => by
  rw [htx, List.take_succ_eq_append_getElem (by rw [List.length_map, List.length_range]; omega), List.getElem_map, List.getElem_range]
 have htl : tx.length = n := by rw [htx, List.length_map, List.length_range]
 rw [← htx] at hJ
 replace hti := Lib.hid hti
 replace htl := Lib.hid htl
 replace hJ := Lib.hid hJ
 replace hJl := Lib.hid hJl
 replace ht := Lib.hid ht
 replace HT := Lib.hid HT
 clear htx hx hne
 have hL0 : GL w w [] := GL.start w
 obtain ⟨x1, hweq, hL0⟩ := GL.named (hL0.new rfl [.int .i64 (n : Int), .int .i64 (x.c : Int), .slice ao x.l.length d] 56)
 have hu1 := Lib.hid (hu.below hL0.bl)
 clear hu
 have hA := hL0.fc
 simp only [zF, Nat.reduceAdd] at hA
 go_enter Tryz.func83, Tryz.ntmps83
 go_wp2_with fail
 with_reducible refine Calls.mono (HK.out _) ?_
 rintro e y1 ⟨rfl, hb⟩
 replace hu1 := Lib.hid (hu1.out.below hb)
 replace hL0 := hL0.call hb
 clear hb hA hweq HK
 have hA := hL0.fc
 simp only [zF, Nat.reduceAdd] at hA
 go_wp2_with fail
 clear hA
 obtain ⟨x1, hx1⟩ : ∃ x1, x1 = y1 := ⟨_, rfl⟩
 rw [← hx1] at hL0 hu1 ⊢
 replace hx1 := hx1.symm
 obtain ⟨b, hbw⟩ : ∃ b, b = w.heap.size := ⟨_, rfl⟩
 rw [← hbw] at hL0 ⊢
 replace hbw := Lib.hid hbw
 have hbx := Lib.hid (show b < x1.heap.size from (hL0.get _ _ mZ).lt)
 have hbc := Lib.hid (hL0.get _ _ mZ)
 have hwx := Lib.hid hL0.bl
 clear hL0 hx1
 go_loopg [3, 10] n (fun gk sv iv wr => ∃ (k : Nat) (zi : Int) (vs : Value), k + gk = n ∧ vs = sv ∧ iv = .int .i64 zi ∧ zi = (k : Int) ∧ OwnS wr x1.heap.size vs k (tx.take k) ∧ Below x1.heap.size x1 wr)
 case atStart => exact ⟨0, 0, _, Nat.zero_add n, rfl, by first | rfl | go_num, rfl, World.ownsRow_nil _ _ _ _, Below.refl _ _⟩
 case round =>
  obtain ⟨k, zi, vs, hik, rfl, rfl, hzi, hown, hB⟩ := hrel
  replace hown := Lib.hid hown
  have hnn := hn.out
  rcases Nat.lt_or_ge k n with hin | hin
  ·subst hzi
   have k1 : (k : Int) < (n : Int) := by omega
   have k0 : (0 : Int) ≤ (k : Int) := Int.natCast_nonneg _
   have kb : (k : Int) ≤ 10000 := by omega
   have hcu := hu1.out.below hB
   obtain ⟨a2, g1, g2⟩ := HR.out k hin wr hcu
   have hcb := cells_of _ 0 [] rfl (hbc.out.below hB)
   simp only [zF, Nat.reduceAdd] at hcb
   have HT1 := Lib.hid fun w => HT.out k hin (.slice a2 x.c x.c) w
   have hti1 := hti.out k hin
   obtain ⟨St, hS⟩ : ∃ St, St = S k := ⟨_, rfl⟩
   rw [← hS] at HT1 hti1
   replace hti1 := Lib.hid hti1
   replace g1 := Lib.hid g1
   replace g2 := Lib.hid g2
   clear hS hcu
   go_wp2_with fail
   with_reducible refine Calls.mono (g1.out _) ?_
   rintro e y2 ⟨rfl, hb2⟩
   have hB2 := hB.trans (hb2.mono hB.size)
   have g3 := Lib.hid (g2.out.below hb2)
   have hown2 := Lib.hid (ownS_below hown.out hb2)
   clear hb2 g1 g2 hown hcb
   have ht2 := Lib.hid (ht.out.below (hwx.out.trans (hB2.mono hwx.out.size)))
   clear hB
   replace hB2 := Lib.hid hB2
   go_wp2_with fail
   with_reducible refine Calls.mono (HT1.out _ ht2.out g3.out) ?_
   rintro e y3 ⟨rfl, hb3⟩
   have hown3 := Lib.hid (ownS_below hown2.out hb3)
   have hB3 := Lib.hid (hB2.out.trans (hb3.mono hB2.out.size))
   clear hb3 hown2 hB2 ht2 g3 HT1
   have hL1 : GL y3 y3 [] := GL.start y3
   replace hL1 := hL1.new rfl [.string St] 9
   generalize hweq : y3.alloc (.cells #[.string St] 9) = y4 at hL1
   have hown4 := Lib.hid (ownS_below hown3.out hL1.bl)
   have hB4 := Lib.hid (hB3.out.trans (hL1.bl.mono hB3.out.size))
   have hH := Lib.hid (hL1.get _ _ mZ)
   go_wp2_with (at_builtin; refine wp_appendS rfl _ _ rfl _ _ _ _ rfl hown4.out _ St rfl hH.out (by omega) hB4.out.size ?_)
   intro v' w5 hown5 hgrow _
   have hB5 := hB4.out.grown hgrow hB4.out.size (fun j hj => (hown4.out.lt j hj).1)
   rw [← hti1.out] at hown5
   replace hown5 := Lib.hid hown5
   clear hgrow hown4 hB4 hown3 hB3 hH hweq
   go_wp2_with fail
   go_roundg (gk - 1)
   case measure => omega
   case rel => exact ⟨k + 1, _, _, by omega, rfl, by first | rfl | go_num, by omega, hown5.out, hB5⟩
  ·obtain rfl : k = n := by omega
   subst hzi
   have k1 : ¬ (k : Int) < (k : Int) := by omega
   rw [List.take_of_length_le (Nat.le_of_eq htl.out)] at hown
   have hJ2 : Calls Tryz.prog 128 #[vs, .string ⟨#[32]⟩] wr fun e w' => e = .returned (.string ⟨Jt.toArray⟩) ∧ Below wr.heap.size wr w' := by
    by_cases h0 : k = 0
    ·have e0 : tx = [] := List.eq_nil_of_length_eq_zero (by rw [htl.out, h0])
     obtain ⟨a, c2, hvs⟩ := ownS_form hown.out
     rw [hvs, h0]
     rw [e0] at hJ
     refine (Tryz.strings_Join_none a c2 ⟨#[32]⟩ wr).mono ?_
     rintro e w' ⟨rfl, rfl⟩
     exact ⟨by rw [← hJ.out]; rfl, Below.refl _ _⟩
    ·obtain ⟨g9, c9, hvs, hc9, hg9, hce9⟩ := ownS_cells hown.out (by rw [htl.out]; omega)
     rw [hvs]
     have := Tryz.strings_Join g9 0 c9 tx ⟨#[32]⟩ wr hce9 hg9 (by rw [htl.out]; omega) hc9 (by
      have h1 := hJl.out
      rw [← hJ.out] at h1
      exact Nat.le_trans h1 (by decide))
     rw [show (⟨#[32]⟩ : ByteArray).data.toList = [32] from rfl, hJ.out] at this
     exact this
   replace hJ2 := Lib.hid hJ2
   replace hB := Lib.hid hB
   obtain ⟨a9, c9, hvs⟩ := ownS_form hown.out
   subst hvs
   go_wp2_with fail
   with_reducible refine Calls.mono hJ2.out ?_
   rintro e y9 ⟨rfl, hb9⟩
   have hB9 := Lib.hid (hwx.out.trans ((hB.out.trans (hb9.mono hB.out.size)).mono hwx.out.size))
   clear hb9
   go_wp2_with fail
   exact bodyPost_ret (v := .string ⟨Jt.toArray⟩) (by simp [results, Tryz.results83, go_sem]) rfl ⟨rfl, hB9.out⟩
/-- Equal to the transpose, below the diagonal. -/
def LowM (x : Mx) (n : Nat) : Prop := ∀ i k, k < i → i < n → ent x i k = ent x k i
theorem mSymm_w (x : Mx) (n m d : Nat) (ao : Option Addr) (hr : n ≤ 2048) (hm : m = n * n) (KC : World → Prop) (hKC : Keeps KC)
  (HA : ∀ i k, i < n → k < n → ∀ w, KC w → Calls Tryz.prog 92 #[.agg #[.int .i64 (n : Int), .int .i64 (n : Int), .slice ao m d], .int .i64 (i : Int), .int .i64 (k : Int)] w fun xe w' => xe = .returned (fracV (ent x i k)) ∧ Below w.heap.size w w') (b : Bool) (hb : b = true ↔ LowM x n) (w : World) (kC : KC w) :
  Calls Tryz.prog 84 #[.agg #[.int .i64 (n : Int), .int .i64 (n : Int), .slice ao m d]] w fun xe w' => xe = .returned (.bool b) ∧ Below w.heap.size w w' := by
 have HK := Lib.hid (mcheck_ok n n m d ao hr hr hm)
 have hn := Lib.hid hr
 clear hr hm
 replace HA := Lib.hid HA
 replace hKC := Lib.hid hKC
 replace hb := Lib.hid hb
 have hL0 : GL w w [] := GL.start w
 obtain ⟨x0, hweq, hL0⟩ := GL.named (hL0.new rfl [.int .i64 (n : Int), .int .i64 (n : Int), .slice ao m d] 56)
 replace kC := Lib.hid (hKC.out.at hL0.bl kC)
 have hA := hL0.fc
 simp only [zF, Nat.reduceAdd] at hA
 go_enter Tryz.func84, Tryz.ntmps84
 go_wp2_with fail
 with_reducible refine Calls.mono (HK.out _) ?_
 rintro e x1 ⟨rfl, hb1⟩
 replace kC := Lib.hid (hKC.out.at hb1 kC.out)
 replace hL0 := hL0.call hb1
 clear hb1 hA hweq HK
 have hA := hL0.fc
 simp only [zF, Nat.reduceAdd] at hA
 have e1 : ((n : Int) != (n : Int)) = false := by simp
 go_wp2_with fail
 clear hA e1
 have hbc := Lib.hid (hL0.get _ _ mZ)
 have hwx := Lib.hid hL0.bl
 clear hL0
 go_loopg [17] n (fun gk iv wr => ∃ (i : Nat) (zi : Int), i + gk = n ∧ iv = .int .i64 zi ∧ zi = (i : Int) ∧ LowM x i ∧ Below x1.heap.size x1 wr)
 case atStart => exact ⟨0, 0, Nat.zero_add n, by first | rfl | go_num, rfl, fun i k h1 h2 => by omega, Below.refl _ _⟩
 case round =>
  obtain ⟨i, zi, hik, rfl, hzi, hlow, hB⟩ := hrel
  have hnn := hn.out
  replace hlow := Lib.hid hlow
  rcases Nat.lt_or_ge i n with hin | hin
  ·subst hzi
   have k1 : (i : Int) < (n : Int) := by omega
   have k0 : (0 : Int) ≤ (i : Int) := Int.natCast_nonneg _
   have kb : (i : Int) ≤ 10000 := by omega
   replace hB := Lib.hid hB
   go_wp2_with fail
   obtain ⟨wo, hwo⟩ : ∃ wo, wo = wr := ⟨_, rfl⟩
   subst hwo
   go_loopg [21] i (fun gk kv wr2 => ∃ (k : Nat) (zk : Int), k + gk = i ∧ kv = .int .i64 zk ∧ zk = (k : Int) ∧ (∀ b, b < k → ent x i b = ent x b i) ∧ Below x1.heap.size x1 wr2)
   case atStart => exact ⟨0, 0, Nat.zero_add i, by first | rfl | go_num, rfl, fun b h => by omega, hB.out⟩
   case round =>
    clear hB
    obtain ⟨k, zk, hkk, rfl, hzk, hrow, hB⟩ := hrel
    replace hrow := Lib.hid hrow
    rcases Nat.lt_or_ge k i with hkn | hkn
    ·subst hzk
     have m1 : (k : Int) < (i : Int) := by omega
     have m0 : (0 : Int) ≤ (k : Int) := Int.natCast_nonneg _
     have mb : (k : Int) ≤ 10000 := by omega
     have HA1 := HA.out i k hin (by omega)
     have HA2 := HA.out k i (by omega) hin
     obtain ⟨p, hp⟩ : ∃ p, p = ent x i k := ⟨_, rfl⟩
     obtain ⟨q, hq⟩ : ∃ q, q = ent x k i := ⟨_, rfl⟩
     rw [← hp] at HA1
     rw [← hq] at HA2
     replace HA1 := Lib.hid HA1
     replace HA2 := Lib.hid HA2
     replace hp := Lib.hid hp
     replace hq := Lib.hid hq
     have kC1 := hKC.out.at hB kC.out
     have hcb := cells_of _ 0 [] rfl (hbc.out.below hB)
     simp only [zF, Nat.reduceAdd] at hcb
     obtain ⟨c0, c1, c9⟩ := hcb
     obtain ⟨t, ht⟩ : ∃ t, t = decide (p = q) := ⟨_, rfl⟩
     have heq := fun W => run_neqF p q t ht W
     replace ht := Lib.hid ht
     replace hB := Lib.hid hB
     go_upto_region 9 with fail
     obtain ⟨wz, hwz⟩ : ∃ wz, wz = wr := ⟨_, rfl⟩
     rw [← hwz] at hB kC1 c0 c1 c9 ⊢
     clear hwz
     obtain ⟨α, iα, F, hF1, hF2⟩ := cls wz
     have q0 := fun yz => keepsC (hF1 yz) c0
     have q1 := fun yz => keepsC (hF1 yz) c1
     have q2 := fun yz => keepsC (hF1 yz) c9
     clear c0 c1 c9
     refine region_cls (F := F) (by kernel_rfl) (lexB_of_fast (by kernel_rfl)) (cls_drew hF2) ?_
     repeat (go_big_quiet_step (first | fail | (go_at_call 92; with_reducible exact cls_callK hKC.out hF1 hF2 kC1 HA1.out _) | (go_at_call 92; with_reducible exact cls_callK hKC.out hF1 hF2 kC1 HA2.out _)))
     refine wpQuiet_nil ?_
     rintro wq ⟨xq, rfl⟩
     replace hB := Lib.hid (hB.out.trans ((hF1 xq).mono hB.out.size))
     clear q0 q1 q2 hF2 heq kC1
     generalize F xq = wy at hB ⊢
     clear hF1 xq iα F α
     cases t with
     | true =>
      have hpq := Lib.hid (show ent x i k = ent x k i by rw [← hp.out, ← hq.out]; exact of_decide_eq_true ht.out.symm)
      clear hp hq HA1 HA2
      go_wp2_with fail
      go_roundg (i - (k + 1))
      case measure => omega
      case rel => exact ⟨k + 1, _, by omega, by first | rfl | go_num, by omega, fun b h => by
       rcases Nat.lt_or_ge b k with g | g
       ·exact hrow.out b g
       ·rw [show b = k by omega]; exact hpq.out, hB.out⟩
     | false =>
      obtain rfl : b = false := by
       cases b with
       | false => rfl
       | true =>
        have := hb.out.1 rfl i k hkn hin
        rw [← hp.out, ← hq.out] at this
        exact absurd this (of_decide_eq_false ht.out.symm)
      clear hp hq HA1 HA2
      have hB9 := Lib.hid (hwx.out.trans (hB.out.mono hwx.out.size))
      go_wp2_with fail
      exact bodyPost_ret (v := .bool false) (by simp [results, Tryz.results84, go_sem]) rfl ⟨rfl, hB9.out⟩
    ·obtain rfl : i = k := by omega
     subst hzk
     have m1 : ¬ (i : Int) < (i : Int) := by omega
     have hl2 : LowM x (i + 1) := fun a b h1 h2 => by
      rcases Nat.lt_or_ge a i with g | g
      ·exact hlow.out a b h1 g
      ·obtain rfl : a = i := by omega
       exact hrow.out b h1
     replace hl2 := Lib.hid hl2
     replace hB := Lib.hid hB
     go_wp2_with fail
     go_roundg (n - (i + 1))
     case measure => omega
     case rel => exact ⟨i + 1, _, by omega, by first | rfl | go_num, by omega, hl2.out, hB.out⟩
  ·obtain rfl : n = i := by omega
   subst hzi
   have k1 : ¬ (n : Int) < (n : Int) := by omega
   obtain rfl : b = true := hb.out.2 hlow.out
   have hB9 := Lib.hid (hwx.out.trans (hB.mono hwx.out.size))
   clear hB
   go_wp2_with fail
   exact bodyPost_ret (v := .bool true) (by simp [results, Tryz.results84, go_sem]) rfl ⟨rfl, hB9.out⟩
theorem mSymm_ns (r c n d : Nat) (ao : Option Addr) (hr : r ≤ 2048) (hc : c ≤ 2048) (hm : n = r * c) (hne : r ≠ c) (w : World) : Calls Tryz.prog 84 #[.agg #[.int .i64 (r : Int), .int .i64 (c : Int), .slice ao n d]] w fun xe w' => xe = .returned (.bool false) ∧ Below w.heap.size w w' := by
 have HK := Lib.hid (mcheck_ok r c n d ao hr hc hm)
 have h1 : ((r : Int) != (c : Int)) = true := by simp; omega
 have h2 : ((r : Int) == (c : Int)) = false := by simp; omega
 have h3 : (r == c) = false := by simp; omega
 have h4 : ¬ (r : Int) = (c : Int) := by omega
 clear hr hc hm hne
 have hL0 : GL w w [] := GL.start w
 obtain ⟨x1, hweq, hL0⟩ := GL.named (hL0.new rfl [.int .i64 (r : Int), .int .i64 (c : Int), .slice ao n d] 56)
 have hA := hL0.fc
 simp only [zF, Nat.reduceAdd] at hA
 go_enter Tryz.func84, Tryz.ntmps84
 go_wp2_with fail
 with_reducible refine Calls.mono (HK.out _) ?_
 rintro e y1 ⟨rfl, hb⟩
 replace hL0 := hL0.call hb
 clear hb hA hweq HK
 have hA := hL0.fc
 simp only [zF, Nat.reduceAdd] at hA
 go_wp2_with fail
 exact bodyPost_ret (v := .bool false) (by simp [results, Tryz.results84, go_sem]) rfl ⟨rfl, hL0.bl⟩
end Go.Proofs.YthffglapmkkohaaGreatDoor
namespace Go.Proofs.YthffglapmkkohaaGreatDoor
open Go.RowKit
attribute [local irreducible] lo hs sm s64 c64 d64 b64 mh ml pd pc qd qc val hiB str cmpI srD lz nb zl zh zs fe qmade
section
variable {x y : Mx} {n k p K M : Nat}
theorem sqM {a b c : Nat} (h1 : a ≤ 12) (h2 : b ≤ 12) : a * b ≤ 144 := Nat.mul_le_mul h1 h2
theorem mul9 {a b c d : Nat} (h1 : a ≤ c) (h2 : b ≤ d) (h3 : c * d ≤ 9000000) : a * b ≤ 9000000 := Nat.le_trans (Nat.mul_le_mul h1 h2) h3
theorem MulG (hx : GM x n k K) (hy : GM y k p M) (hn : n ≤ 12) (hk : k ≤ 12) (hp : p ≤ 12) (hK : K ≤ 700) (hM : M ≤ 700) (u v : Value) (w : World) (hu : MT w u x) (hv : MT w v y) :
  Calls Tryz.prog 42 #[u, v] w fun e w' => ∃ pv, e = .returned (.tuple #[pv, .int .i64 0]) ∧ MT w' pv (mulM n k p x y) ∧ Below w.heap.size w w' := by
 have ox := hx.ok (by omega) (by omega)
 have oy := hy.ok (by omega) (by omega)
 have sx := (hx.mono (Nat.le_max_left K M)).sz
 have sy := (hy.mono (Nat.le_max_right K M)).sz
 obtain ⟨rfl, rfl, -, -⟩ := hx
 obtain ⟨hr, rfl, -, -⟩ := hy
 obtain ⟨u1, rfl, hu⟩ := hu
 obtain ⟨v1, rfl, hv⟩ := hv
 refine (mMulV x y (max K M) ox oy hr (by have := sqM (c := 0) hn hp; omega) (by rw [hr]; have := sqM (c := 0) hk hp; omega) (by omega) (mul9 hk (show max K M + max K M + 1 ≤ 1401 by omega) (by omega)) (by omega) sx sy u1 v1 w hu hv).mono ?_
 rintro e w' ⟨t, rfl, h1, hb⟩
 exact ⟨_, rfl, ⟨t, rfl, h1.cq⟩, hb⟩
theorem MAddG (hx : GM x n k K) (hy : GM y n k M) (hn : n ≤ 12) (hk : k ≤ 12) (hK : K ≤ 100000) (hM : M ≤ 100000) (u v : Value) (w : World) (hu : MT w u x) (hv : MT w v y) :
  Calls Tryz.prog 94 #[u, v] w fun e w' => ∃ pv, e = .returned (.tuple #[pv, .int .i64 0]) ∧ MT w' pv (sumM n k x y) ∧ Below w.heap.size w w' := by
 have ox := hx.ok (by omega) (by omega)
 have oy := hy.ok (by omega) (by omega)
 have sx := (hx.mono (Nat.le_max_left K M)).sz
 have sy := (hy.mono (Nat.le_max_right K M)).sz
 obtain ⟨rfl, rfl, -, -⟩ := hx
 obtain ⟨hr, hc, -, -⟩ := hy
 obtain ⟨u1, rfl, hu⟩ := hu
 obtain ⟨v1, rfl, hv⟩ := hv
 refine (mAddV x y (max K M) ox oy hr hc (by have := sqM (c := 0) hn hk; omega) (by omega) sx sy u1 v1 w hu hv).mono ?_
 rintro e w' ⟨t, rfl, h1, hb⟩
 exact ⟨_, rfl, ⟨t, rfl, h1.cq⟩, hb⟩
theorem MTurnG (hx : GM x n k K) (hn : n ≤ 12) (hk : k ≤ 12) (u : Value) (w : World) (hu : MT w u x) :
  Calls Tryz.prog 41 #[u] w fun e w' => ∃ pv, e = .returned (.tuple #[pv, .int .i64 0]) ∧ MT w' pv (turM n k x) ∧ Below w.heap.size w w' := by
 have ox := hx.ok (by omega) (by omega)
 obtain ⟨rfl, rfl, -, -⟩ := hx
 obtain ⟨u1, rfl, hu⟩ := hu
 refine (mTurnV x ox (by have := sqM (c := 0) hn hk; omega) u1 w hu).mono ?_
 rintro e w' ⟨t, rfl, h1, hb⟩
 exact ⟨_, rfl, ⟨t, rfl, h1.cq⟩, hb⟩
theorem MApplyG {v : List Rat} (hx : GM x n k K) (hv : GV v k M) (hn : n ≤ 12) (hk : k ≤ 12) (hK : K ≤ 700) (hM : M ≤ 700) (u s : Value) (w : World) (hu : MT w u x) (hs : PT w s v) :
  Calls Tryz.prog 48 #[u, s] w fun e w' => ∃ pv, e = .returned (.tuple #[pv, .int .i64 0]) ∧ PT w' pv (appV n k x v) ∧ Below w.heap.size w w' := by
 have ox := hx.ok (by omega) (by omega)
 have sx := (hx.mono (Nat.le_max_left K M)).sz
 have sv := (hv.mono (Nat.le_max_right K M)).sz
 have hl := hv.len
 obtain ⟨rfl, rfl, -, -⟩ := hx
 obtain ⟨u1, rfl, hu⟩ := hu
 refine (mApplyV x v (max K M) ox hl (by omega) (mul9 hk (show max K M + max K M + 1 ≤ 1401 by omega) (by omega)) (by omega) sx sv u1 s w hu hs).mono ?_
 rintro e w' ⟨t, rfl, h1, hb⟩
 exact ⟨_, rfl, h1.slq, hb⟩
theorem MFormG {v y : List Rat} {N : Nat} (hx : GM x n k K) (hv : GV v n M) (hy : GV y k M) (hn : n ≤ 12) (hk : k ≤ 12) (hN : k * (max K M + max K M + 1) + 1 ≤ N) (hM : M ≤ N) (hN2 : N ≤ 700) (hK : K ≤ 700) (u s t : Value) (w : World) (hu : MT w u x) (hs : PT w s v) (ht : PT w t y) :
  Calls Tryz.prog 82 #[u, s, t] w fun e w' => e = .returned (.tuple #[fracV (formM n k x v y), .int .i64 0]) ∧ Below w.heap.size w w' := by
 have ox := hx.ok (by omega) (by omega)
 have sx := (hx.mono (Nat.le_max_left K M)).sz
 have sy := (hy.mono (Nat.le_max_right K M)).sz
 have sv := (hv.mono hM).sz
 have hl := hy.len
 have hw := hv.len
 obtain ⟨rfl, rfl, -, -⟩ := hx
 obtain ⟨u1, rfl, hu⟩ := hu
 exact mFormV x v y (max K M) N ox hl hw (by omega) (by omega) (mul9 hk (show max K M + max K M + 1 ≤ 1401 by omega) (by omega)) (by omega) sx sy (mul9 hn (show N + N + 1 ≤ 1401 by omega) (by omega)) (by omega) hN sv u1 s t w hu hs ht
theorem MSameG (hx : GM x n k K) (hy : GM y n k M) (hn : n ≤ 12) (hk : k ≤ 12) (u v : Value) (w : World) (hu : MT w u x) (hv : MT w v y) :
  Calls Tryz.prog 30 #[u, v] w fun e w' => e = .returned (.bool (decide (x.l = y.l))) ∧ Below w.heap.size w w' := by
 have hl := hx.len
 obtain ⟨rfl, rfl, -, -⟩ := hx
 obtain ⟨hr, hc, -, -⟩ := hy
 obtain ⟨u1, rfl, hu⟩ := hu
 obtain ⟨v1, rfl, hv⟩ := hv
 exact mSameV x y hr hc (by rw [hl]; have := sqM (c := 0) hn hk; omega) u1 v1 w hu hv
theorem MSameT (hx : GM x n k K) (hn : n ≤ 12) (hk : k ≤ 12) (u v : Value) (w : World) (hu : MT w u x) (hv : MT w v x) :
  Calls Tryz.prog 30 #[u, v] w fun e w' => e = .returned (.bool true) ∧ Below w.heap.size w w' := by
 have := MSameG hx hx hn hk u v w hu hv
 rwa [decide_eq_true rfl] at this
theorem MSymG (hx : GM x n n K) (hn : n ≤ 12) (b : Bool) (hb : b = true ↔ SymM n x) (u : Value) (w : World) (hu : MT w u x) :
  Calls Tryz.prog 84 #[u] w fun e w' => e = .returned (.bool b) ∧ Below w.heap.size w w' := by
 have ox := hx.ok (by omega) (by omega)
 have hl := hx.len
 obtain ⟨hr, hc, -, -⟩ := hx
 obtain ⟨u1, rfl, hu⟩ := hu
 rw [hr, hc]
 obtain ⟨ao, d, rfl, -⟩ := id hu.form
 exact mSymm_w x n x.l.length d ao (by omega) hl (fun w => CQ w _ x.l) (CQ.keeps _ _) (fun i k hi hk w h => by have := matV x ox i k (by omega) (by omega) _ w h; rwa [hr, hc] at this) b (hb.trans ⟨fun h i k h1 h2 => h i k h2 (by omega), fun h i k hi hk => by
  rcases Nat.lt_trichotomy i k with g | g | g
  ·exact (h k i g hk).symm
  ·rw [g]
  ·exact h i k g hi⟩) w hu
theorem MSymN (hx : GM x n k K) (hn : n ≤ 12) (hk : k ≤ 12) (hne : n ≠ k) (u : Value) (w : World) (hu : MT w u x) :
  Calls Tryz.prog 84 #[u] w fun e w' => e = .returned (.bool false) ∧ Below w.heap.size w w' := by
 have hl := hx.len
 obtain ⟨hr, hc, -, -⟩ := hx
 obtain ⟨u1, rfl, hu⟩ := hu
 rw [hr, hc]
 obtain ⟨ao, d, rfl, -⟩ := id hu.form
 exact mSymm_ns n k x.l.length d ao (by omega) (by omega) hl hne w
end
end Go.Proofs.YthffglapmkkohaaGreatDoor
namespace Go.Proofs.YthffglapmkkohaaGreatDoor
open Go.RowKit
attribute [local irreducible] lo hs sm s64 c64 d64 b64 mh ml pd pc qd qc val hiB str cmpI srD lz nb zl zh zs fe rowV tabV gv bsV
theorem slq_upd {W W' : World} {v : Value} {l : List Rat} {k : Nat} (h : SlQ W v l) (hu : Upd k W W') (hk : ∀ g c, v = .slice (some ⟨g, 0, none⟩) l.length c → FS W g l → l ≠ [] → g ≠ k) : SlQ W' v l := by
 by_cases h0 : l = []
 ·subst h0
  rcases h with h1 | ⟨g, c, h1, h2⟩
  ·exact .inl h1
  ·exact .inl ⟨_, c, h1, rfl⟩
 ·rcases h with ⟨_, _, _, h1⟩ | ⟨g, c, h1, h2⟩
  ·exact absurd h1 h0
  ·have hbl := hu.block g (hk g c h1 h2 h0)
   have cc : ∀ j, W'.cell? ⟨g, j, none⟩ = W.cell? ⟨g, j, none⟩ := fun j => World.cell?_of_block (a := ⟨g, j, none⟩) hbl
   exact .inr ⟨g, c, h1, fun i hi => by rw [cc, cc, cc, cc, cc]; exact h2.cell i hi, by rw [hu.size]; exact h2.lt⟩
/-- .. a box whose first cell begins no fraction. -/
theorem PTs.putM {W W' : World} {S : List (Value × List Rat)} (h : PTs W S) {k : Nat} {x : Value} {cs : List Value} (hu : Upd k W W') (hd : Hd W k (x :: cs)) (hx : ∀ n, x ≠ .int .u64 n) : PTs W' S := fun p hp =>
 slq_upd (h p hp) hu fun g c _ hf h0 e => by
  subst e
  have h1 := (hf.cell 0 (List.length_pos_iff.2 h0)).1
  rw [Nat.zero_mul, hd.cell 0 (by simp)] at h1
  exact hx _ (Option.some.inj h1)
/-- .. a box that was made behind the slices. -/
theorem PTs.putN {W0 W W' : World} {S : List (Value × List Rat)} (h : PTs W S) (h0 : PTs W0 S) {k : Nat} (hk : W0.heap.size ≤ k) (hu : Upd k W W') : PTs W' S := fun p hp =>
 slq_upd (h p hp) hu fun g c hv hf hl e => by
  subst e
  rcases h0 p hp with ⟨_, _, _, h1⟩ | ⟨g2, c2, h1, h2⟩
  ·exact hl h1
  ·rw [h1] at hv
   injection hv with e1
   obtain rfl : g2 = g := by simpa using e1
   have := h2.lt
   omega
theorem new_mat (w : World) : (Instr.alloc 56 true (.tuple #[])).run Tryz.prog w = .ok (.pointer (some ⟨w.heap.size, 0, none⟩)) (w.alloc (.cells #[.int .i64 0, .int .i64 0, .slice none 0 0] 56)) := by
 simp [go_sem, Instr.alloc]
/-- A slice of matrices as the laws take them: the lengths of their rows of elements. -/
def FWs (w : World) (v : Value) (ls : List Nat) : Prop := ∃ ao c g, v = .slice ao ls.length c ∧ (0 < ls.length → ao = some ⟨g, 0, none⟩) ∧ ∀ i (h : i < ls.length), ∃ a d, w.cell? ⟨g, i * 3 + 2, none⟩ = some (.slice a (ls[i]'h) d)
theorem fws_one {w : World} {g c n d : Nat} {x y : Value} {a : Option Addr} (h : Hd w g [x, y, .slice a n d]) : FWs w (.slice (some ⟨g, 0, none⟩) 1 c) [n] := by
 refine ⟨_, c, g, rfl, fun _ => rfl, fun i hi => ?_⟩
 obtain rfl : i = 0 := by simpa using hi
 exact ⟨a, d, h.cell 2 (by simp)⟩
end Go.Proofs.YthffglapmkkohaaGreatDoor
namespace Go.Proofs.YthffglapmkkohaaGreatDoor
open Go.RowKit
attribute [local irreducible] lo hs sm s64 c64 d64 b64 mh ml pd pc qd qc val hiB str cmpI srD lz nb zl zh zs fe rowV tabV gv bsV turM mulM sumM oneM appV formM tabM dotL sumL mulL
theorem mworks_w (ma mt mp mn mq : Mx) (v1 v2 v3 va : List Rat) (c2 c10 : Rat) (HO1 : ∀ (p2 : Value) (w : World), ILs w p2 ([1, 2, 3, 4]) → Calls Tryz.prog 81 #[.int .i64 2, .int .i64 2, p2] w fun e w' => ∃ pv, e = .returned (.tuple #[pv, .int .i64 0]) ∧ MT w' pv ma ∧ Below w.heap.size w w') (HT1 : ∀ (p0 : Value) (w : World), MT w p0 ma → Calls Tryz.prog 41 #[p0] w fun e w' => ∃ pv, e = .returned (.tuple #[pv, .int .i64 0]) ∧ MT w' pv mt ∧ Below w.heap.size w w') (HM1 : ∀ (p0 p1 : Value) (w : World), MT w p0 ma → MT w p1 ma → Calls Tryz.prog 42 #[p0, p1] w fun e w' => ∃ pv, e = .returned (.tuple #[pv, .int .i64 0]) ∧ MT w' pv mp ∧ Below w.heap.size w w') (HV1 : ∀ (p0 : Value) (w : World), ILs w p0 ([1, (-1)]) → Calls Tryz.prog 58 #[p0] w fun e w' => ∃ pv, e = .returned pv ∧ PT w' pv v1 ∧ Below w.heap.size w w') (HV2 : ∀ (p0 : Value) (w : World), ILs w p0 ([1, 0]) → Calls Tryz.prog 58 #[p0] w fun e w' => ∃ pv, e = .returned pv ∧ PT w' pv v2 ∧ Below w.heap.size w w') (HV3 : ∀ (p0 : Value) (w : World), ILs w p0 ([0, 1]) → Calls Tryz.prog 58 #[p0] w fun e w' => ∃ pv, e = .returned pv ∧ PT w' pv v3 ∧ Below w.heap.size w w') (HA1 : ∀ (p0 p1 : Value) (w : World), MT w p0 ma → PT w p1 v1 → Calls Tryz.prog 48 #[p0, p1] w fun e w' => ∃ pv, e = .returned (.tuple #[pv, .int .i64 0]) ∧ PT w' pv va ∧ Below w.heap.size w w') (HF1 : ∀ (p0 p1 p2 : Value) (w : World), MT w p0 ma → PT w p1 v2 → PT w p2 v3 → Calls Tryz.prog 82 #[p0, p1, p2] w fun e w' => e = .returned (.tuple #[fracV c2, .int .i64 0]) ∧ Below w.heap.size w w') (HI2 : ∀ w, Calls Tryz.prog 12 #[.int .i64 2] w fun xe w' => xe = .returned (fracV c2) ∧ Below w.heap.size w w') (HI10 : ∀ w, Calls Tryz.prog 12 #[.int .i64 10] w fun xe w' => xe = .returned (fracV c10) ∧ Below w.heap.size w w') (HO2 : ∀ (p2 : Value) (w : World), ILs w p2 ([1]) → Calls Tryz.prog 81 #[.int .i64 2, .int .i64 2, p2] w fun e w' => e = .returned (.tuple #[.agg #[.int .i64 0, .int .i64 0, .slice none 0 0], .int .i64 1]) ∧ Below w.heap.size w w') (HO3 : ∀ w, Calls Tryz.prog 81 #[.int .i64 (-1), .int .i64 2049, .slice none 0 0] w fun xe w' => xe = .returned (.tuple #[.agg #[.int .i64 0, .int .i64 0, .slice none 0 0], .int .i64 1]) ∧ Below w.heap.size w w') (HO4 : ∀ w, Calls Tryz.prog 81 #[.int .i64 2049, .int .i64 0, .slice none 0 0] w fun xe w' => xe = .returned (.tuple #[.agg #[.int .i64 0, .int .i64 0, .slice none 0 0], .int .i64 3]) ∧ Below w.heap.size w w') (HO5 : ∀ (w : World), Calls Tryz.prog 81 #[.int .i64 0, .int .i64 3, .slice none 0 0] w fun e w' => ∃ pv, e = .returned (.tuple #[pv, .int .i64 0]) ∧ MT w' pv mn ∧ Below w.heap.size w w') (HP1 : ∀ (p0 p1 p2 : Value) (w : World), MT w p0 ma → ILs w p1 ([1, 0]) → ILs w p2 ([1]) → Calls Tryz.prog 31 #[p0, p1, p2] w fun e w' => ∃ pv, e = .returned (.tuple #[pv, .int .i64 0]) ∧ MT w' pv mq ∧ Below w.heap.size w w') (HS1 : ∀ (p0 : Value) (w : World), MT w p0 ma → Calls Tryz.prog 37 #[p0] w fun e w' => e = .returned (fracV c10) ∧ Below w.heap.size w w') (HY1 : ∀ (p0 : Value) (w : World), MT w p0 ma → Calls Tryz.prog 84 #[p0] w fun e w' => e = .returned (.bool false) ∧ Below w.heap.size w w') (HY2 : ∀ (p0 : Value) (w : World), MT w p0 mn → Calls Tryz.prog 84 #[p0] w fun e w' => e = .returned (.bool false) ∧ Below w.heap.size w w') (KT : World → Prop) (hKT : Keeps KT) (HXma : ∀ (p0 : Value) (w : World), KT w → MT w p0 ma → Calls Tryz.prog 83 #[p0] w fun e w' => e = .returned (.string (ByteArray.mk #[91, 49, 32, 50, 93, 32, 91, 51, 32, 52, 93])) ∧ Below w.heap.size w w') (HXmt : ∀ (p0 : Value) (w : World), KT w → MT w p0 mt → Calls Tryz.prog 83 #[p0] w fun e w' => e = .returned (.string (ByteArray.mk #[91, 49, 32, 51, 93, 32, 91, 50, 32, 52, 93])) ∧ Below w.heap.size w w') (HXmp : ∀ (p0 : Value) (w : World), KT w → MT w p0 mp → Calls Tryz.prog 83 #[p0] w fun e w' => e = .returned (.string (ByteArray.mk #[91, 55, 32, 49, 48, 93, 32, 91, 49, 53, 32, 50, 50, 93])) ∧ Below w.heap.size w w') (HXmq : ∀ (p0 : Value) (w : World), KT w → MT w p0 mq → Calls Tryz.prog 83 #[p0] w fun e w' => e = .returned (.string (ByteArray.mk #[91, 52, 93, 32, 91, 50, 93])) ∧ Below w.heap.size w w') (HXv : ∀ (p0 : Value) (w : World), KT w → PT w p0 va → Calls Tryz.prog 60 #[p0] w fun e w' => e = .returned (.string (ByteArray.mk #[91, 45, 49, 32, 45, 49, 93])) ∧ Below w.heap.size w w') (hma1 : (ma.r : Int) = 2) (hmt1 : (mt.r : Int) = 2) (hmp1 : (mp.r : Int) = 2) (hmn1 : (mn.r : Int) = 0) (hmq1 : (mq.r : Int) = 2) (hma2 : (ma.c : Int) = 2) (hmt2 : (mt.c : Int) = 2) (hmp2 : (mp.c : Int) = 2) (hmn2 : (mn.c : Int) = 3) (hmq2 : (mq.c : Int) = 1) (w : World) (kKT : KT w) :
  Calls Tryz.prog 21 #[] w fun e w' => e = .returned (.bool true) ∧ Below w.heap.size w w' := by
 replace HO1 := Lib.hid HO1
 replace HT1 := Lib.hid HT1
 replace HM1 := Lib.hid HM1
 replace HV1 := Lib.hid HV1
 replace HV2 := Lib.hid HV2
 replace HV3 := Lib.hid HV3
 replace HA1 := Lib.hid HA1
 replace HF1 := Lib.hid HF1
 replace HI2 := Lib.hid HI2
 replace HI10 := Lib.hid HI10
 replace HO2 := Lib.hid HO2
 replace HO3 := Lib.hid HO3
 replace HO4 := Lib.hid HO4
 replace HO5 := Lib.hid HO5
 replace HP1 := Lib.hid HP1
 replace HS1 := Lib.hid HS1
 replace HY1 := Lib.hid HY1
 replace HY2 := Lib.hid HY2
 replace hKT := Lib.hid hKT
 replace HXma := Lib.hid HXma
 replace HXmt := Lib.hid HXmt
 replace HXmp := Lib.hid HXmp
 replace HXmq := Lib.hid HXmq
 replace HXv := Lib.hid HXv
 have hL0 : GL w w [] := GL.start w
 have hT : PTs w [] := PTs.nil w
 replace hma1 := Lib.hid hma1
 replace hma2 := Lib.hid hma2
 replace hmt1 := Lib.hid hmt1
 replace hmt2 := Lib.hid hmt2
 replace hmp1 := Lib.hid hmp1
 replace hmp2 := Lib.hid hmp2
 replace hmn1 := Lib.hid hmn1
 replace hmn2 := Lib.hid hmn2
 replace hmq1 := Lib.hid hmq1
 replace hmq2 := Lib.hid hmq2
 replace hT := (hT.new (.cells #[.int .i64 1, .int .i64 2, .int .i64 3, .int .i64 4] 2))
 replace hL0 := (hL0.new rfl [.int .i64 1, .int .i64 2, .int .i64 3, .int .i64 4] 2)
 generalize hweq : (w.alloc (.cells #[.int .i64 1, .int .i64 2, .int .i64 3, .int .i64 4] 2)) = x1 at hL0 hT
 go_enter Tryz.func21, Tryz.ntmps21
 have hbv1 : ILs x1 (.slice (some ⟨w.heap.size, 0, none⟩) 4 4) [1, 2, 3, 4] := ils_at (hL0.get _ _ mZ) rfl rfl
 replace hbv1 := Lib.hid hbv1
 go_wp2_with fail
 with_reducible refine Calls.mono (HO1.out (.slice (some ⟨w.heap.size, 0, none⟩) 4 4) _ hbv1.out) ?_
 rintro e x2 ⟨v0, rfl, q0, hb⟩
 replace hL0 := hL0.call hb
 replace hT := hT.call hb
 clear hb hweq
 obtain ⟨g1, d1, g1c, rfl, hm1, hcp1⟩ := mt_form q0 hma1.out hma2.out
 replace hcp1 := Lib.hid hcp1
 replace hT := hT.cons hm1
 clear hm1
 clear q0
 replace hT := (hT.new (.cells #[.int .i64 2, .int .i64 2, .slice g1 d1 g1c] 56))
 replace hL0 := (hL0.new rfl [.int .i64 2, .int .i64 2, .slice g1 d1 g1c] 56)
 generalize hweq : (x2.alloc (.cells #[.int .i64 2, .int .i64 2, .slice g1 d1 g1c] 56)) = x3 at hL0 hT
 go_upto_region 2 with fail
 have hN0 := cells_of _ 0 [] rfl (hL0.get _ _ mZ)
 simp only [zF, Nat.reduceAdd] at hN0
 go_wp2_with fail
 clear hN0
 with_reducible refine Calls.mono (HT1.out (.agg #[.int .i64 2, .int .i64 2, .slice g1 d1 g1c]) _ (mt_of (hT.get mZ) hcp1.out hma1.out hma2.out)) ?_
 rintro e x4 ⟨v0, rfl, q0, hb⟩
 replace hL0 := hL0.call hb
 replace hT := hT.call hb
 clear hb hweq
 obtain ⟨g2, d2, g2c, rfl, hm2, hcp2⟩ := mt_form q0 hmt1.out hmt2.out
 replace hcp2 := Lib.hid hcp2
 replace hT := hT.cons hm2
 clear hm2
 clear q0
 replace hT := (hT.new (.cells #[.int .i64 2, .int .i64 2, .slice g2 d2 g2c] 56))
 replace hL0 := (hL0.new rfl [.int .i64 2, .int .i64 2, .slice g2 d2 g2c] 56)
 generalize hweq : (x4.alloc (.cells #[.int .i64 2, .int .i64 2, .slice g2 d2 g2c] 56)) = x5 at hL0 hT
 go_upto_region 3 with fail
 have hN0 := cells_of _ 0 [] rfl (hL0.get _ _ (mK mZ))
 simp only [zF, Nat.reduceAdd] at hN0
 go_wp2_with fail
 clear hN0
 with_reducible refine Calls.mono (HM1.out (.agg #[.int .i64 2, .int .i64 2, .slice g1 d1 g1c]) (.agg #[.int .i64 2, .int .i64 2, .slice g1 d1 g1c]) _ (mt_of (hT.get (mK mZ)) hcp1.out hma1.out hma2.out) (mt_of (hT.get (mK mZ)) hcp1.out hma1.out hma2.out)) ?_
 rintro e x6 ⟨v0, rfl, q0, hb⟩
 replace hL0 := hL0.call hb
 replace hT := hT.call hb
 clear hb hweq
 obtain ⟨g3, d3, g3c, rfl, hm3, hcp3⟩ := mt_form q0 hmp1.out hmp2.out
 replace hcp3 := Lib.hid hcp3
 replace hT := hT.cons hm3
 clear hm3
 clear q0
 replace hT := (hT.new (.cells #[.int .i64 2, .int .i64 2, .slice g3 d3 g3c] 56))
 replace hL0 := (hL0.new rfl [.int .i64 2, .int .i64 2, .slice g3 d3 g3c] 56)
 generalize hweq : (x6.alloc (.cells #[.int .i64 2, .int .i64 2, .slice g3 d3 g3c] 56)) = x7 at hL0 hT
 go_upto_region 4 with fail
 clear hweq
 refine region_tl 9 [EV (.agg #[.int .i64 2, .int .i64 2, .slice g1 d1 g1c]), PI [1, (-1)], PP v1, PE va 0, PE va 0, PP va, EV (.int .i64 0), PP va, EV (.int .i64 0)] (by kernel_rfl) (by kernel_rfl) ?_ ?_ ?_
 ·repeat' first | exact stays_nil | apply stays_cons | exact stays_eq _ | exact stays_pt _ | exact stays_pe _ _ | exact stays_pi _
 ·simp only [List.take_succ_cons, List.take_zero, hopsR, and_true]
  refine ⟨?_, ?_, ?_, ?_, ?_, ?_, ?_, ?_, ?_⟩ <;> intro fv w1 hb1 hp
  all_goals (have hc := (hL0.call (below_drew hb1)).fc; simp only [zF, Nat.reduceAdd] at hc; simp only [putsV, Act.put, zP, Nat.zero_add, Nat.reduceAdd])
  ·refine tyAt_none rfl ?_
   simp [tyUpon, execOp, go_sem, Act.eval, hc, Below.refl]
  ·refine tyAt_none rfl ?_
   refine ty_val8 (u := .slice (some ⟨w1.heap.size, 0, none⟩) 2 2) (w' := w1.alloc (.cells #[.int .i64 1, .int .i64 (-1)] 2)) (by simp [execOp, go_sem, Act.eval]) ((Below.refl _ _).alloc (Nat.le_refl _) _) (ils_at (hd_new w1 [.int .i64 1, .int .i64 (-1)] _) rfl rfl)
  ·have h1 : (PI [1, (-1)]) (fv 1) w1 := hp 1 (LC (by kernel_rfl))
   refine tyAt_none rfl ?_
   refine ty_call (f := 58) (args := #[fv 1]) (by simp [execOp, go_sem, Act.eval]) ?_
   exact (HV1.out (fv 1) w1 h1).mono fun e w2 ⟨pv, h1, h2, h3⟩ => ⟨pv, h1, h2, h3⟩
  ·have h0 : EV _ (fv 0) w1 := hp 0 (LC (by kernel_rfl))
   have h2 : (PP v1) (fv 2) w1 := hp 2 (LC (by kernel_rfl))
   refine tyAt_none rfl ?_
   refine ty_call (f := 48) (args := #[.agg #[.int .i64 2, .int .i64 2, .slice g1 d1 g1c], fv 2]) (by simp [execOp, go_sem, Act.eval, h0]) ?_
   exact (HA1.out (.agg #[.int .i64 2, .int .i64 2, .slice g1 d1 g1c]) (fv 2) w1 (mt_of (PT.below (hT.get (mK (mK mZ))) (below_drew hb1)) hcp1.out hma1.out hma2.out) h2).mono fun e w2 ⟨pv, h1, h2, h3⟩ => ⟨_, h1, ⟨pv, rfl, h2⟩, h3⟩
  ·have h3 : (PE va 0) (fv 3) w1 := hp 3 (LC (by kernel_rfl))
   refine tyAt_none rfl ?_
   simp [tyUpon, execOp, go_sem, Act.eval, Below.refl]
   exact h3
  ·have h4 : (PE va 0) (fv 4) w1 := hp 4 (LC (by kernel_rfl))
   refine tyAt_none rfl ?_
   obtain ⟨pa, pe, pz⟩ := h4
   simp [tyUpon, execOp, go_sem, Act.eval, pe, Below.refl]
   exact pz
  ·have h4 : (PE va 0) (fv 4) w1 := hp 4 (LC (by kernel_rfl))
   refine tyAt_none rfl ?_
   obtain ⟨pa, pe, pz⟩ := h4
   simp [tyUpon, execOp, go_sem, Act.eval, pe, Below.refl]
  ·have h5 : (PP va) (fv 5) w1 := hp 5 (LC (by kernel_rfl))
   refine tyAt_none rfl ?_
   simp [tyUpon, execOp, go_sem, Act.eval, Below.refl]
   exact h5
  ·have h6 : EV _ (fv 6) w1 := hp 6 (LC (by kernel_rfl))
   refine tyAt_none rfl ?_
   simp [tyUpon, execOp, go_sem, Act.eval, h6, Below.refl]
 ·intro fv x8 hb1 hv
  have e0 : fv 0 = _ := hv 0 (by omega)
  have q1 : ILs x8 (fv 1) ([1, (-1)]) := hv 1 (by omega)
  obtain ⟨g4, d4, g4c, e1⟩ := ils_form q1
  rw [e1] at q1
  have q2 : PT x8 (fv 2) v1 := hv 2 (by omega)
  obtain ⟨g5, d5, g5c, e2, -⟩ := pt_form q2
  rw [e2] at q2
  obtain ⟨pa3, e3, q3⟩ := hv 3 (by omega)
  obtain ⟨pa4, e4, q4⟩ := hv 4 (by omega)
  have q5 : PT x8 (fv 5) va := hv 5 (by omega)
  obtain ⟨g6, d6, g6c, e5, -⟩ := pt_form q5
  rw [e5] at q5
  have e6 : fv 6 = _ := hv 6 (by omega)
  have q7 : PT x8 (fv 7) va := hv 7 (by omega)
  obtain ⟨g7, d7, g7c, e7, -⟩ := pt_form q7
  rw [e7] at q7
  have e8 : fv 8 = _ := hv 8 (by omega)
  simp only [List.take_succ_cons, List.take_zero, putsV, Act.put, zP, List.drop_succ_cons, List.drop_zero, Nat.zero_add, Nat.reduceAdd, e0, e1, e2, e3, e4, e5, e6, e7, e8]
  replace hL0 := hL0.call (below_drew hb1)
  replace hT := hT.call (below_drew hb1)
  replace hT := hT.cons q2
  replace hT := hT.cons q5
  replace hT := hT.cons q7
  clear e0 e1 e2 e3 e4 e5 e6 e7 e8 hb1 hv q1 q2 q3 q4 q5 q7 fv
  go_upto_region 5 with fail
  have hSo := Lib.hid hT
  refine region_tbl 10 8 [EV (.agg #[.int .i64 2, .int .i64 2, .slice g1 d1 g1c]), PI [1, 0], PP v2, PI [0, 1], PP v3, EV (.tuple #[.agg #[.int .u64 ((zl c2.num : Nat) : Int), .string (zh c2.num), .bool (zs c2.num), .int .u64 ((lo (fe c2) : Nat) : Int), .string (hs (fe c2))], .int .i64 0]), EV (.tuple #[.agg #[.int .u64 ((zl c2.num : Nat) : Int), .string (zh c2.num), .bool (zs c2.num), .int .u64 ((lo (fe c2) : Nat) : Int), .string (hs (fe c2))], .int .i64 0]), EV (.agg #[.int .u64 ((zl c2.num : Nat) : Int), .string (zh c2.num), .bool (zs c2.num), .int .u64 ((lo (fe c2) : Nat) : Int), .string (hs (fe c2))]), EV (.int .i64 0), NewB x8.heap.size [.int .u64 0, .string ⟨#[]⟩, .bool false, .int .u64 0, .string ⟨#[]⟩]] [9] (by kernel_rfl) (by kernel_rfl) ?_ ?_ ?_ ?_ ?_ (by rfl) ?_
  ·repeat' first | exact stays_nil | apply stays_cons | exact stays_eq _ | exact stays_new _ _ | exact stays_pt _ | exact stays_pi _
  ·simp only [List.take_succ_cons, List.take_zero, hopsR, and_true]
   refine ⟨?_, ?_, ?_, ?_, ?_, ?_, ?_, ?_, ?_, ?_⟩ <;> intro fv w1 hb1 hp
   all_goals (have hc := (hL0.call (below_drew hb1)).fc; simp only [zF, Nat.reduceAdd] at hc; simp only [putsV, Act.put, zP, Nat.zero_add, Nat.reduceAdd])
   ·refine tyAt_none rfl ?_
    simp [tyUpon, execOp, go_sem, Act.eval, hc, Below.refl]
   ·refine tyAt_none rfl ?_
    refine ty_val8 (u := .slice (some ⟨w1.heap.size, 0, none⟩) 2 2) (w' := w1.alloc (.cells #[.int .i64 1, .int .i64 0] 2)) (by simp [execOp, go_sem, Act.eval]) ((Below.refl _ _).alloc (Nat.le_refl _) _) (ils_at (hd_new w1 [.int .i64 1, .int .i64 0] _) rfl rfl)
   ·have h1 : (PI [1, 0]) (fv 1) w1 := hp 1 (LC (by kernel_rfl))
    refine tyAt_none rfl ?_
    refine ty_call (f := 58) (args := #[fv 1]) (by simp [execOp, go_sem, Act.eval]) ?_
    exact (HV2.out (fv 1) w1 h1).mono fun e w2 ⟨pv, h1, h2, h3⟩ => ⟨pv, h1, h2, h3⟩
   ·refine tyAt_none rfl ?_
    refine ty_val8 (u := .slice (some ⟨w1.heap.size, 0, none⟩) 2 2) (w' := w1.alloc (.cells #[.int .i64 0, .int .i64 1] 2)) (by simp [execOp, go_sem, Act.eval]) ((Below.refl _ _).alloc (Nat.le_refl _) _) (ils_at (hd_new w1 [.int .i64 0, .int .i64 1] _) rfl rfl)
   ·have h3 : (PI [0, 1]) (fv 3) w1 := hp 3 (LC (by kernel_rfl))
    refine tyAt_none rfl ?_
    refine ty_call (f := 58) (args := #[fv 3]) (by simp [execOp, go_sem, Act.eval]) ?_
    exact (HV3.out (fv 3) w1 h3).mono fun e w2 ⟨pv, h1, h2, h3⟩ => ⟨pv, h1, h2, h3⟩
   ·have h0 : EV _ (fv 0) w1 := hp 0 (LC (by kernel_rfl))
    have h2 : (PP v2) (fv 2) w1 := hp 2 (LC (by kernel_rfl))
    have h4 : (PP v3) (fv 4) w1 := hp 4 (LC (by kernel_rfl))
    refine tyAt_none rfl ?_
    refine ty_call (f := 82) (args := #[.agg #[.int .i64 2, .int .i64 2, .slice g1 d1 g1c], fv 2, fv 4]) (by simp [execOp, go_sem, Act.eval, h0]) ?_
    exact (HF1.out (.agg #[.int .i64 2, .int .i64 2, .slice g1 d1 g1c]) (fv 2) (fv 4) w1 (mt_of (PT.below (hT.get (mK (mK (mK (mK (mK mZ)))))) (below_drew hb1)) hcp1.out hma1.out hma2.out) h2 h4).mono fun e w2 ⟨h1, h2⟩ => ⟨_, h1, rfl, h2⟩
   ·have h5 : EV _ (fv 5) w1 := hp 5 (LC (by kernel_rfl))
    refine tyAt_none rfl ?_
    simp [tyUpon, execOp, go_sem, Act.eval, h5, Below.refl]
   ·have h6 : EV _ (fv 6) w1 := hp 6 (LC (by kernel_rfl))
    refine tyAt_none rfl ?_
    simp [tyUpon, execOp, go_sem, Act.eval, h6, Below.refl]
   ·have h6 : EV _ (fv 6) w1 := hp 6 (LC (by kernel_rfl))
    refine tyAt_none rfl ?_
    simp [tyUpon, execOp, go_sem, Act.eval, h6, Below.refl]
   ·exact tyAt_new rfl rfl new_frac (below_drew hb1).size
  ·intro j hj u w2 hT
   simp only [List.contains_iff_mem, List.mem_cons, List.not_mem_nil, or_false] at hj
   rcases hj with rfl <;> exact NewB.ptr hT
  ·exact ⟨⟨_, _, _, _, rfl, rfl, rfl, new_frac⟩, trivial⟩
  ·intro fv wl hb1 hv
   have e0 : fv 0 = .agg #[.int .i64 2, .int .i64 2, .slice g1 d1 g1c] := hv 0 (by omega) (by omega)
   have e5 : fv 5 = .tuple #[.agg #[.int .u64 ((zl c2.num : Nat) : Int), .string (zh c2.num), .bool (zs c2.num), .int .u64 ((lo (fe c2) : Nat) : Int), .string (hs (fe c2))], .int .i64 0] := hv 5 (by omega) (by omega)
   have e6 : fv 6 = .tuple #[.agg #[.int .u64 ((zl c2.num : Nat) : Int), .string (zh c2.num), .bool (zs c2.num), .int .u64 ((lo (fe c2) : Nat) : Int), .string (hs (fe c2))], .int .i64 0] := hv 6 (by omega) (by omega)
   have e7 : fv 7 = .agg #[.int .u64 ((zl c2.num : Nat) : Int), .string (zh c2.num), .bool (zs c2.num), .int .u64 ((lo (fe c2) : Nat) : Int), .string (hs (fe c2))] := hv 7 (by omega) (by omega)
   obtain ⟨kb9, e9, n9, m9⟩ : NewB x8.heap.size [.int .u64 0, .string ⟨#[]⟩, .bool false, .int .u64 0, .string ⟨#[]⟩] (fv 9) wl := hv 9 (by omega) (by omega)
   have hx0 := hL0
   replace hL0 := hL0.call (below_drew hb1)
   replace hL0 := GL.tnew (M := []) hL0 hx0 n9 m9 (fun p hp => by cases hp)
   simp only [List.cons_append, List.nil_append] at hL0
   have hA := hL0.fc
   simp only [zF, Nat.reduceAdd] at hA
   have hP := hL0.put 0 (kb9) _ rfl [.int .u64 ((zl c2.num : Nat) : Int), .string (zh c2.num), .bool (zs c2.num), .int .u64 ((lo (fe c2) : Nat) : Int), .string (hs (fe c2))] rfl
   simp only [setAll, List.set_cons_zero, List.set_cons_succ] at hP
   have hB1 := hP.fc
   simp only [zF, Nat.reduceAdd] at hB1
   refine ⟨(((((wl.setCell ⟨kb9, 0, none⟩ (.int .u64 ((zl c2.num : Nat) : Int))).setCell ⟨kb9, 1, none⟩ (.string (zh c2.num))).setCell ⟨kb9, 2, none⟩ (.bool (zs c2.num))).setCell ⟨kb9, 3, none⟩ (.int .u64 ((lo (fe c2) : Nat) : Int))).setCell ⟨kb9, 4, none⟩ (.string (hs (fe c2)))), .int .i64 0, fun o ho => ?_, fun o ho => ?_, ?_⟩
   ·obtain rfl := Option.some.inj ho
    simp [execOp, go_sem, Act.eval, putsV, Act.put, List.take_succ_cons, List.take_zero, zP, Nat.zero_add, Nat.reduceAdd, hA, e0, e5, e6, e7, e9]
   ·obtain rfl := Option.some.inj ho
    simp [execOp, go_sem, Act.eval, putsV, Act.put, List.take_succ_cons, List.take_zero, zP, Nat.zero_add, Nat.reduceAdd, hB1, e0, e5, e6, e7, e9]
   ·rfl
  ·intro fv x9 hb1 hv hne
   have e0 : fv 0 = _ := hv 0 (by omega)
   have q1 : ILs x9 (fv 1) ([1, 0]) := hv 1 (by omega)
   obtain ⟨g8, d8, g8c, e1⟩ := ils_form q1
   rw [e1] at q1
   have q2 : PT x9 (fv 2) v2 := hv 2 (by omega)
   obtain ⟨g9, d9, g9c, e2, -⟩ := pt_form q2
   rw [e2] at q2
   have q3 : ILs x9 (fv 3) ([0, 1]) := hv 3 (by omega)
   obtain ⟨g10, d10, g10c, e3⟩ := ils_form q3
   rw [e3] at q3
   have q4 : PT x9 (fv 4) v3 := hv 4 (by omega)
   obtain ⟨g11, d11, g11c, e4, -⟩ := pt_form q4
   rw [e4] at q4
   have e5 : fv 5 = _ := hv 5 (by omega)
   have e6 : fv 6 = _ := hv 6 (by omega)
   have e7 : fv 7 = _ := hv 7 (by omega)
   have e8 : fv 8 = _ := hv 8 (by omega)
   obtain ⟨kb9, e9, n9, m9⟩ : NewB x8.heap.size [.int .u64 0, .string ⟨#[]⟩, .bool false, .int .u64 0, .string ⟨#[]⟩] (fv 9) x9 := hv 9 (by omega)
   simp only [List.take_succ_cons, List.take_zero, putsV, Act.put, zP, List.drop_succ_cons, List.drop_zero, Nat.zero_add, Nat.reduceAdd, e0, e1, e2, e3, e4, e5, e6, e7, e8, e9]
   have hx0 := hL0
   replace hL0 := hL0.call (below_drew hb1)
   replace hT := hT.call (below_drew hb1)
   replace hL0 := GL.tnew (M := []) hL0 hx0 n9 m9 (fun p hp => by cases hp)
   simp only [List.cons_append, List.nil_append] at hL0
   have hkb := Lib.hid m9
   clear e0 e1 e2 e3 e4 e5 e6 e7 e8 e9 hb1 hv hne hx0 n9 m9 q1 q2 q3 q4 fv
   have hT1 := hT.putN hSo.out hkb.out ((((((Upd.refl kb9 x9).setCell 0 (.int .u64 ((zl c2.num : Nat) : Int))).setCell 1 (.string (zh c2.num))).setCell 2 (.bool (zs c2.num))).setCell 3 (.int .u64 ((lo (fe c2) : Nat) : Int))).setCell 4 (.string (hs (fe c2))))
   have hA := hL0.fc
   simp only [zF, Nat.reduceAdd] at hA
   have hP := hL0.put 0 (kb9) _ rfl [.int .u64 ((zl c2.num : Nat) : Int), .string (zh c2.num), .bool (zs c2.num), .int .u64 ((lo (fe c2) : Nat) : Int), .string (hs (fe c2))] rfl
   simp only [setAll, List.set_cons_zero, List.set_cons_succ] at hP
   generalize hput1 : (((((x9.setCell ⟨kb9, 0, none⟩ (.int .u64 ((zl c2.num : Nat) : Int))).setCell ⟨kb9, 1, none⟩ (.string (zh c2.num))).setCell ⟨kb9, 2, none⟩ (.bool (zs c2.num))).setCell ⟨kb9, 3, none⟩ (.int .u64 ((lo (fe c2) : Nat) : Int))).setCell ⟨kb9, 4, none⟩ (.string (hs (fe c2)))) = x10 at hP hT1
   have hB1 := hP.fc
   simp only [zF, Nat.reduceAdd] at hB1
   replace hL0 := hP
   replace hT := hT1
   clear hT1 hSo hkb
   go_upto_region 6 with fail
   clear hput1 hB1
   clear hA
   refine region_tl 43 [EV (.int .i64 0), EV (.bool false), EV (.bool false), EV (.int .i64 0), EV (.bool false), EV (.bool false), EV (.bool false), EV (.int .i64 0), EV (.bool false), EV (.bool false), EV (.bool false), EV (.int .i64 0), EV (.bool false), EV (.bool false), EV (.bool false), EV (.int .i64 0), EV (.bool false), EV (.bool false), EV (.bool false), EV (.agg #[.int .i64 2, .int .i64 2, .slice g1 d1 g1c]), EV (.string (ByteArray.mk #[91, 49, 32, 50, 93, 32, 91, 51, 32, 52, 93])), EV (.bool false), EV (.bool false), EV (.bool false), EV (.agg #[.int .i64 2, .int .i64 2, .slice g2 d2 g2c]), EV (.string (ByteArray.mk #[91, 49, 32, 51, 93, 32, 91, 50, 32, 52, 93])), EV (.bool false), EV (.bool false), EV (.bool false), EV (.agg #[.int .i64 2, .int .i64 2, .slice g3 d3 g3c]), EV (.string (ByteArray.mk #[91, 55, 32, 49, 48, 93, 32, 91, 49, 53, 32, 50, 50, 93])), EV (.bool false), EV (.bool false), EV (.bool false), EV (.slice g7 d7 g7c), EV (.string (ByteArray.mk #[91, 45, 49, 32, 45, 49, 93])), EV (.bool false), EV (.bool false), EV (.bool false), EV (.agg #[.int .u64 ((zl c2.num : Nat) : Int), .string (zh c2.num), .bool (zs c2.num), .int .u64 ((lo (fe c2) : Nat) : Int), .string (hs (fe c2))]), EV (.agg #[.int .u64 ((zl c2.num : Nat) : Int), .string (zh c2.num), .bool (zs c2.num), .int .u64 ((lo (fe c2) : Nat) : Int), .string (hs (fe c2))]), EV (.bool false), EV (.bool false)] (by kernel_rfl) (by kernel_rfl) ?_ ?_ ?_
   ·repeat' first | exact stays_nil | apply stays_cons | exact stays_eq _
   ·simp only [List.take_succ_cons, List.take_zero, hopsR, and_true]
    refine ⟨?_, ?_, ?_, ?_, ?_, ?_, ?_, ?_, ?_, ?_, ?_, ?_, ?_, ?_, ?_, ?_, ?_, ?_, ?_, ?_, ?_, ?_, ?_, ?_, ?_, ?_, ?_, ?_, ?_, ?_, ?_, ?_, ?_, ?_, ?_, ?_, ?_, ?_, ?_, ?_, ?_, ?_, ?_⟩ <;> intro fv w1 hb1 hp
    all_goals (have hc := (hL0.call (below_drew hb1)).fc; simp only [zF, Nat.reduceAdd] at hc; simp only [putsV, Act.put, zP, Nat.zero_add, Nat.reduceAdd])
    ·refine tyAt_none rfl ?_
     simp [tyUpon, execOp, go_sem, Act.eval, Below.refl]
    ·have h0 : EV _ (fv 0) w1 := hp 0 (LC (by kernel_rfl))
     refine tyAt_none rfl ?_
     simp [tyUpon, execOp, go_sem, Act.eval, h0, Below.refl]
    ·have h1 : EV _ (fv 1) w1 := hp 1 (LC (by kernel_rfl))
     refine tyAt_none rfl ?_
     simp [tyUpon, execOp, go_sem, Act.eval, h1, Below.refl]
    ·have h2 : EV _ (fv 2) w1 := hp 2 (LC (by kernel_rfl))
     refine tyAt_yes (by simp [Region.wanted, yielded, h2]) ?_
     simp [tyUpon, execOp, go_sem, Act.eval, h2, Below.refl]
    ·have h3 : EV _ (fv 3) w1 := hp 3 (LC (by kernel_rfl))
     have h2 : EV _ (fv 2) w1 := hp 2 (LC (by kernel_rfl))
     refine tyAt_yes (by simp [Region.wanted, yielded, h3, h2]) ?_
     simp [tyUpon, execOp, go_sem, Act.eval, h3, h2, Below.refl]
    ·have h2 : EV _ (fv 2) w1 := hp 2 (LC (by kernel_rfl))
     have h4 : EV _ (fv 4) w1 := hp 4 (LC (by kernel_rfl))
     refine tyAt_none rfl ?_
     simp [tyUpon, execOp, go_sem, Act.eval, h2, h4, Below.refl]
    ·have h5 : EV _ (fv 5) w1 := hp 5 (LC (by kernel_rfl))
     refine tyAt_none rfl ?_
     simp [tyUpon, execOp, go_sem, Act.eval, h5, Below.refl]
    ·have h6 : EV _ (fv 6) w1 := hp 6 (LC (by kernel_rfl))
     refine tyAt_yes (by simp [Region.wanted, yielded, h6]) ?_
     simp [tyUpon, execOp, go_sem, Act.eval, h6, Below.refl]
    ·have h7 : EV _ (fv 7) w1 := hp 7 (LC (by kernel_rfl))
     have h6 : EV _ (fv 6) w1 := hp 6 (LC (by kernel_rfl))
     refine tyAt_yes (by simp [Region.wanted, yielded, h7, h6]) ?_
     simp [tyUpon, execOp, go_sem, Act.eval, h7, h6, Below.refl]
    ·have h6 : EV _ (fv 6) w1 := hp 6 (LC (by kernel_rfl))
     have h8 : EV _ (fv 8) w1 := hp 8 (LC (by kernel_rfl))
     refine tyAt_none rfl ?_
     simp [tyUpon, execOp, go_sem, Act.eval, h6, h8, Below.refl]
    ·have h9 : EV _ (fv 9) w1 := hp 9 (LC (by kernel_rfl))
     refine tyAt_none rfl ?_
     simp [tyUpon, execOp, go_sem, Act.eval, h9, Below.refl]
    ·have h10 : EV _ (fv 10) w1 := hp 10 (LC (by kernel_rfl))
     refine tyAt_yes (by simp [Region.wanted, yielded, h10]) ?_
     simp [tyUpon, execOp, go_sem, Act.eval, h10, Below.refl]
    ·have h11 : EV _ (fv 11) w1 := hp 11 (LC (by kernel_rfl))
     have h10 : EV _ (fv 10) w1 := hp 10 (LC (by kernel_rfl))
     refine tyAt_yes (by simp [Region.wanted, yielded, h11, h10]) ?_
     simp [tyUpon, execOp, go_sem, Act.eval, h11, h10, Below.refl]
    ·have h10 : EV _ (fv 10) w1 := hp 10 (LC (by kernel_rfl))
     have h12 : EV _ (fv 12) w1 := hp 12 (LC (by kernel_rfl))
     refine tyAt_none rfl ?_
     simp [tyUpon, execOp, go_sem, Act.eval, h10, h12, Below.refl]
    ·have h13 : EV _ (fv 13) w1 := hp 13 (LC (by kernel_rfl))
     refine tyAt_none rfl ?_
     simp [tyUpon, execOp, go_sem, Act.eval, h13, Below.refl]
    ·have h14 : EV _ (fv 14) w1 := hp 14 (LC (by kernel_rfl))
     refine tyAt_yes (by simp [Region.wanted, yielded, h14]) ?_
     simp [tyUpon, execOp, go_sem, Act.eval, h14, Below.refl]
    ·have h15 : EV _ (fv 15) w1 := hp 15 (LC (by kernel_rfl))
     have h14 : EV _ (fv 14) w1 := hp 14 (LC (by kernel_rfl))
     refine tyAt_yes (by simp [Region.wanted, yielded, h15, h14]) ?_
     simp [tyUpon, execOp, go_sem, Act.eval, h15, h14, Below.refl]
    ·have h14 : EV _ (fv 14) w1 := hp 14 (LC (by kernel_rfl))
     have h16 : EV _ (fv 16) w1 := hp 16 (LC (by kernel_rfl))
     refine tyAt_none rfl ?_
     simp [tyUpon, execOp, go_sem, Act.eval, h14, h16, Below.refl]
    ·have h17 : EV _ (fv 17) w1 := hp 17 (LC (by kernel_rfl))
     refine tyAt_none rfl ?_
     simp [tyUpon, execOp, go_sem, Act.eval, h17, Below.refl]
    ·have h18 : EV _ (fv 18) w1 := hp 18 (LC (by kernel_rfl))
     refine tyAt_yes (by simp [Region.wanted, yielded, h18]) ?_
     simp [tyUpon, execOp, go_sem, Act.eval, hc, h18, Below.refl]
    ·have h19 : EV _ (fv 19) w1 := hp 19 (LC (by kernel_rfl))
     have h18 : EV _ (fv 18) w1 := hp 18 (LC (by kernel_rfl))
     refine tyAt_yes (by simp [Region.wanted, yielded, h19, h18]) ?_
     refine ty_call (f := 83) (args := #[.agg #[.int .i64 2, .int .i64 2, .slice g1 d1 g1c]]) (by simp [execOp, go_sem, Act.eval, h19, h18]) ?_
     exact (HXma.out (.agg #[.int .i64 2, .int .i64 2, .slice g1 d1 g1c]) w1 (hKT.out.at ((hL0.call (below_drew hb1)).bl) kKT) (mt_of (PT.below (hT.get (mK (mK (mK (mK (mK mZ)))))) (below_drew hb1)) hcp1.out hma1.out hma2.out)).mono fun e w2 ⟨h1, h2⟩ => ⟨_, h1, rfl, h2⟩
    ·have h20 : EV _ (fv 20) w1 := hp 20 (LC (by kernel_rfl))
     have h18 : EV _ (fv 18) w1 := hp 18 (LC (by kernel_rfl))
     refine tyAt_yes (by simp [Region.wanted, yielded, h20, h18]) ?_
     simp [tyUpon, execOp, go_sem, Act.eval, h20, h18, Below.refl]
    ·have h18 : EV _ (fv 18) w1 := hp 18 (LC (by kernel_rfl))
     have h21 : EV _ (fv 21) w1 := hp 21 (LC (by kernel_rfl))
     refine tyAt_none rfl ?_
     simp [tyUpon, execOp, go_sem, Act.eval, h18, h21, Below.refl]
    ·have h22 : EV _ (fv 22) w1 := hp 22 (LC (by kernel_rfl))
     refine tyAt_none rfl ?_
     simp [tyUpon, execOp, go_sem, Act.eval, h22, Below.refl]
    ·have h23 : EV _ (fv 23) w1 := hp 23 (LC (by kernel_rfl))
     refine tyAt_yes (by simp [Region.wanted, yielded, h23]) ?_
     simp [tyUpon, execOp, go_sem, Act.eval, hc, h23, Below.refl]
    ·have h24 : EV _ (fv 24) w1 := hp 24 (LC (by kernel_rfl))
     have h23 : EV _ (fv 23) w1 := hp 23 (LC (by kernel_rfl))
     refine tyAt_yes (by simp [Region.wanted, yielded, h24, h23]) ?_
     refine ty_call (f := 83) (args := #[.agg #[.int .i64 2, .int .i64 2, .slice g2 d2 g2c]]) (by simp [execOp, go_sem, Act.eval, h24, h23]) ?_
     exact (HXmt.out (.agg #[.int .i64 2, .int .i64 2, .slice g2 d2 g2c]) w1 (hKT.out.at ((hL0.call (below_drew hb1)).bl) kKT) (mt_of (PT.below (hT.get (mK (mK (mK (mK mZ))))) (below_drew hb1)) hcp2.out hmt1.out hmt2.out)).mono fun e w2 ⟨h1, h2⟩ => ⟨_, h1, rfl, h2⟩
    ·have h25 : EV _ (fv 25) w1 := hp 25 (LC (by kernel_rfl))
     have h23 : EV _ (fv 23) w1 := hp 23 (LC (by kernel_rfl))
     refine tyAt_yes (by simp [Region.wanted, yielded, h25, h23]) ?_
     simp [tyUpon, execOp, go_sem, Act.eval, h25, h23, Below.refl]
    ·have h23 : EV _ (fv 23) w1 := hp 23 (LC (by kernel_rfl))
     have h26 : EV _ (fv 26) w1 := hp 26 (LC (by kernel_rfl))
     refine tyAt_none rfl ?_
     simp [tyUpon, execOp, go_sem, Act.eval, h23, h26, Below.refl]
    ·have h27 : EV _ (fv 27) w1 := hp 27 (LC (by kernel_rfl))
     refine tyAt_none rfl ?_
     simp [tyUpon, execOp, go_sem, Act.eval, h27, Below.refl]
    ·have h28 : EV _ (fv 28) w1 := hp 28 (LC (by kernel_rfl))
     refine tyAt_yes (by simp [Region.wanted, yielded, h28]) ?_
     simp [tyUpon, execOp, go_sem, Act.eval, hc, h28, Below.refl]
    ·have h29 : EV _ (fv 29) w1 := hp 29 (LC (by kernel_rfl))
     have h28 : EV _ (fv 28) w1 := hp 28 (LC (by kernel_rfl))
     refine tyAt_yes (by simp [Region.wanted, yielded, h29, h28]) ?_
     refine ty_call (f := 83) (args := #[.agg #[.int .i64 2, .int .i64 2, .slice g3 d3 g3c]]) (by simp [execOp, go_sem, Act.eval, h29, h28]) ?_
     exact (HXmp.out (.agg #[.int .i64 2, .int .i64 2, .slice g3 d3 g3c]) w1 (hKT.out.at ((hL0.call (below_drew hb1)).bl) kKT) (mt_of (PT.below (hT.get (mK (mK (mK mZ)))) (below_drew hb1)) hcp3.out hmp1.out hmp2.out)).mono fun e w2 ⟨h1, h2⟩ => ⟨_, h1, rfl, h2⟩
    ·have h30 : EV _ (fv 30) w1 := hp 30 (LC (by kernel_rfl))
     have h28 : EV _ (fv 28) w1 := hp 28 (LC (by kernel_rfl))
     refine tyAt_yes (by simp [Region.wanted, yielded, h30, h28]) ?_
     simp [tyUpon, execOp, go_sem, Act.eval, h30, h28, Below.refl]
    ·have h28 : EV _ (fv 28) w1 := hp 28 (LC (by kernel_rfl))
     have h31 : EV _ (fv 31) w1 := hp 31 (LC (by kernel_rfl))
     refine tyAt_none rfl ?_
     simp [tyUpon, execOp, go_sem, Act.eval, h28, h31, Below.refl]
    ·have h32 : EV _ (fv 32) w1 := hp 32 (LC (by kernel_rfl))
     refine tyAt_none rfl ?_
     simp [tyUpon, execOp, go_sem, Act.eval, h32, Below.refl]
    ·have h33 : EV _ (fv 33) w1 := hp 33 (LC (by kernel_rfl))
     refine tyAt_yes (by simp [Region.wanted, yielded, h33]) ?_
     simp [tyUpon, execOp, go_sem, Act.eval, h33, Below.refl]
    ·have h34 : EV _ (fv 34) w1 := hp 34 (LC (by kernel_rfl))
     have h33 : EV _ (fv 33) w1 := hp 33 (LC (by kernel_rfl))
     refine tyAt_yes (by simp [Region.wanted, yielded, h34, h33]) ?_
     refine ty_call (f := 60) (args := #[.slice g7 d7 g7c]) (by simp [execOp, go_sem, Act.eval, h34, h33]) ?_
     exact (HXv.out (.slice g7 d7 g7c) w1 (hKT.out.at ((hL0.call (below_drew hb1)).bl) kKT) (PT.below (hT.get mZ) (below_drew hb1))).mono fun e w2 ⟨h1, h2⟩ => ⟨_, h1, rfl, h2⟩
    ·have h35 : EV _ (fv 35) w1 := hp 35 (LC (by kernel_rfl))
     have h33 : EV _ (fv 33) w1 := hp 33 (LC (by kernel_rfl))
     refine tyAt_yes (by simp [Region.wanted, yielded, h35, h33]) ?_
     simp [tyUpon, execOp, go_sem, Act.eval, h35, h33, Below.refl]
    ·have h33 : EV _ (fv 33) w1 := hp 33 (LC (by kernel_rfl))
     have h36 : EV _ (fv 36) w1 := hp 36 (LC (by kernel_rfl))
     refine tyAt_none rfl ?_
     simp [tyUpon, execOp, go_sem, Act.eval, h33, h36, Below.refl]
    ·have h37 : EV _ (fv 37) w1 := hp 37 (LC (by kernel_rfl))
     refine tyAt_none rfl ?_
     simp [tyUpon, execOp, go_sem, Act.eval, h37, Below.refl]
    ·have h38 : EV _ (fv 38) w1 := hp 38 (LC (by kernel_rfl))
     refine tyAt_yes (by simp [Region.wanted, yielded, h38]) ?_
     simp [tyUpon, execOp, go_sem, Act.eval, hc, h38, Below.refl]
    ·have h38 : EV _ (fv 38) w1 := hp 38 (LC (by kernel_rfl))
     refine tyAt_yes (by simp [Region.wanted, yielded, h38]) ?_
     refine ty_call (f := 12) (args := #[.int .i64 2]) (by simp [execOp, go_sem, Act.eval, h38]) ?_
     exact (HI2.out w1).mono fun e w2 ⟨h1, h2⟩ => ⟨_, h1, rfl, h2⟩
    ·have h39 : EV _ (fv 39) w1 := hp 39 (LC (by kernel_rfl))
     have h40 : EV _ (fv 40) w1 := hp 40 (LC (by kernel_rfl))
     have h38 : EV _ (fv 38) w1 := hp 38 (LC (by kernel_rfl))
     refine tyAt_yes (by simp [Region.wanted, yielded, h39, h40, h38]) ?_
     simp [tyUpon, execOp, go_sem, Act.eval, h39, h40, h38, Below.refl]
    ·have h38 : EV _ (fv 38) w1 := hp 38 (LC (by kernel_rfl))
     have h41 : EV _ (fv 41) w1 := hp 41 (LC (by kernel_rfl))
     refine tyAt_none rfl ?_
     simp [tyUpon, execOp, go_sem, Act.eval, h38, h41, Below.refl]
   ·intro fv x11 hb1 hv
    have e0 : fv 0 = _ := hv 0 (by omega)
    have e1 : fv 1 = _ := hv 1 (by omega)
    have e2 : fv 2 = _ := hv 2 (by omega)
    have e3 : fv 3 = _ := hv 3 (by omega)
    have e4 : fv 4 = _ := hv 4 (by omega)
    have e5 : fv 5 = _ := hv 5 (by omega)
    have e6 : fv 6 = _ := hv 6 (by omega)
    have e7 : fv 7 = _ := hv 7 (by omega)
    have e8 : fv 8 = _ := hv 8 (by omega)
    have e9 : fv 9 = _ := hv 9 (by omega)
    have e10 : fv 10 = _ := hv 10 (by omega)
    have e11 : fv 11 = _ := hv 11 (by omega)
    have e12 : fv 12 = _ := hv 12 (by omega)
    have e13 : fv 13 = _ := hv 13 (by omega)
    have e14 : fv 14 = _ := hv 14 (by omega)
    have e15 : fv 15 = _ := hv 15 (by omega)
    have e16 : fv 16 = _ := hv 16 (by omega)
    have e17 : fv 17 = _ := hv 17 (by omega)
    have e18 : fv 18 = _ := hv 18 (by omega)
    have e19 : fv 19 = _ := hv 19 (by omega)
    have e20 : fv 20 = _ := hv 20 (by omega)
    have e21 : fv 21 = _ := hv 21 (by omega)
    have e22 : fv 22 = _ := hv 22 (by omega)
    have e23 : fv 23 = _ := hv 23 (by omega)
    have e24 : fv 24 = _ := hv 24 (by omega)
    have e25 : fv 25 = _ := hv 25 (by omega)
    have e26 : fv 26 = _ := hv 26 (by omega)
    have e27 : fv 27 = _ := hv 27 (by omega)
    have e28 : fv 28 = _ := hv 28 (by omega)
    have e29 : fv 29 = _ := hv 29 (by omega)
    have e30 : fv 30 = _ := hv 30 (by omega)
    have e31 : fv 31 = _ := hv 31 (by omega)
    have e32 : fv 32 = _ := hv 32 (by omega)
    have e33 : fv 33 = _ := hv 33 (by omega)
    have e34 : fv 34 = _ := hv 34 (by omega)
    have e35 : fv 35 = _ := hv 35 (by omega)
    have e36 : fv 36 = _ := hv 36 (by omega)
    have e37 : fv 37 = _ := hv 37 (by omega)
    have e38 : fv 38 = _ := hv 38 (by omega)
    have e39 : fv 39 = _ := hv 39 (by omega)
    have e40 : fv 40 = _ := hv 40 (by omega)
    have e41 : fv 41 = _ := hv 41 (by omega)
    have e42 : fv 42 = _ := hv 42 (by omega)
    simp only [List.take_succ_cons, List.take_zero, putsV, Act.put, zP, List.drop_succ_cons, List.drop_zero, Nat.zero_add, Nat.reduceAdd, e0, e1, e2, e3, e4, e5, e6, e7, e8, e9, e10, e11, e12, e13, e14, e15, e16, e17, e18, e19, e20, e21, e22, e23, e24, e25, e26, e27, e28, e29, e30, e31, e32, e33, e34, e35, e36, e37, e38, e39, e40, e41, e42]
    replace hL0 := hL0.call (below_drew hb1)
    replace hT := hT.call (below_drew hb1)
    clear e0 e1 e2 e3 e4 e5 e6 e7 e8 e9 e10 e11 e12 e13 e14 e15 e16 e17 e18 e19 e20 e21 e22 e23 e24 e25 e26 e27 e28 e29 e30 e31 e32 e33 e34 e35 e36 e37 e38 e39 e40 e41 e42 hb1 hv fv
    replace hT := (hT.new (.cells #[.int .i64 1] 2))
    replace hL0 := (hL0.new rfl [.int .i64 1] 2)
    generalize hweq : (x11.alloc (.cells #[.int .i64 1] 2)) = x12 at hL0 hT
    have hbv2 : ILs x12 (.slice (some ⟨x11.heap.size, 0, none⟩) 1 1) [1] := ils_at (hL0.get _ _ mZ) rfl rfl
    replace hbv2 := Lib.hid hbv2
    go_wp2_with fail
    with_reducible refine Calls.mono (HO2.out (.slice (some ⟨x11.heap.size, 0, none⟩) 1 1) _ hbv2.out) ?_
    rintro e x13 ⟨rfl, hb⟩
    replace hL0 := hL0.call hb
    replace hT := hT.call hb
    clear hb hweq
    replace hT := (hT.new (.cells #[.int .i64 0, .int .i64 0, .slice none 0 0] 56))
    replace hL0 := (hL0.new rfl [.int .i64 0, .int .i64 0, .slice none 0 0] 56)
    generalize hweq : (x13.alloc (.cells #[.int .i64 0, .int .i64 0, .slice none 0 0] 56)) = x14 at hL0 hT
    have hT1 := hT.putM ((((Upd.refl x13.heap.size x14).setCell 0 (.int .i64 0)).setCell 1 (.int .i64 0)).setCell 2 (.slice none 0 0)) (hL0.get _ _ mZ) (by intro n; simp)
    have hA := hL0.fc
    simp only [zF, Nat.reduceAdd] at hA
    have hP := hL0.put 0 (x13.heap.size) _ rfl [.int .i64 0, .int .i64 0, .slice none 0 0] rfl
    simp only [setAll, List.set_cons_zero, List.set_cons_succ] at hP
    generalize hput2 : (((x14.setCell ⟨x13.heap.size, 0, none⟩ (.int .i64 0)).setCell ⟨x13.heap.size, 1, none⟩ (.int .i64 0)).setCell ⟨x13.heap.size, 2, none⟩ (.slice none 0 0)) = x15 at hP hT1
    have hB2 := hP.fc
    simp only [zF, Nat.reduceAdd] at hB2
    replace hL0 := hP
    replace hT := hT1
    clear hT1
    go_wp2_with fail
    clear hA
    with_reducible refine Calls.mono (HO3.out _) ?_
    rintro e x16 ⟨rfl, hb⟩
    replace hL0 := hL0.call hb
    replace hT := hT.call hb
    clear hb hweq hput2 hB2
    replace hT := (hT.new (.cells #[.int .i64 0, .int .i64 0, .slice none 0 0] 56))
    replace hL0 := (hL0.new rfl [.int .i64 0, .int .i64 0, .slice none 0 0] 56)
    generalize hweq : (x16.alloc (.cells #[.int .i64 0, .int .i64 0, .slice none 0 0] 56)) = x17 at hL0 hT
    have hT1 := hT.putM ((((Upd.refl x16.heap.size x17).setCell 0 (.int .i64 0)).setCell 1 (.int .i64 0)).setCell 2 (.slice none 0 0)) (hL0.get _ _ mZ) (by intro n; simp)
    have hA := hL0.fc
    simp only [zF, Nat.reduceAdd] at hA
    have hP := hL0.put 0 (x16.heap.size) _ rfl [.int .i64 0, .int .i64 0, .slice none 0 0] rfl
    simp only [setAll, List.set_cons_zero, List.set_cons_succ] at hP
    generalize hput3 : (((x17.setCell ⟨x16.heap.size, 0, none⟩ (.int .i64 0)).setCell ⟨x16.heap.size, 1, none⟩ (.int .i64 0)).setCell ⟨x16.heap.size, 2, none⟩ (.slice none 0 0)) = x18 at hP hT1
    have hB3 := hP.fc
    simp only [zF, Nat.reduceAdd] at hB3
    replace hL0 := hP
    replace hT := hT1
    clear hT1
    go_wp2_with fail
    clear hA
    with_reducible refine Calls.mono (HO4.out _) ?_
    rintro e x19 ⟨rfl, hb⟩
    replace hL0 := hL0.call hb
    replace hT := hT.call hb
    clear hb hweq hput3 hB3
    replace hT := (hT.new (.cells #[.int .i64 0, .int .i64 0, .slice none 0 0] 56))
    replace hL0 := (hL0.new rfl [.int .i64 0, .int .i64 0, .slice none 0 0] 56)
    generalize hweq : (x19.alloc (.cells #[.int .i64 0, .int .i64 0, .slice none 0 0] 56)) = x20 at hL0 hT
    have hT1 := hT.putM ((((Upd.refl x19.heap.size x20).setCell 0 (.int .i64 0)).setCell 1 (.int .i64 0)).setCell 2 (.slice none 0 0)) (hL0.get _ _ mZ) (by intro n; simp)
    have hA := hL0.fc
    simp only [zF, Nat.reduceAdd] at hA
    have hP := hL0.put 0 (x19.heap.size) _ rfl [.int .i64 0, .int .i64 0, .slice none 0 0] rfl
    simp only [setAll, List.set_cons_zero, List.set_cons_succ] at hP
    generalize hput4 : (((x20.setCell ⟨x19.heap.size, 0, none⟩ (.int .i64 0)).setCell ⟨x19.heap.size, 1, none⟩ (.int .i64 0)).setCell ⟨x19.heap.size, 2, none⟩ (.slice none 0 0)) = x21 at hP hT1
    have hB4 := hP.fc
    simp only [zF, Nat.reduceAdd] at hB4
    replace hL0 := hP
    replace hT := hT1
    clear hT1
    go_wp2_with fail
    clear hA
    with_reducible refine Calls.mono (HO5.out _) ?_
    rintro e x22 ⟨v0, rfl, q0, hb⟩
    replace hL0 := hL0.call hb
    replace hT := hT.call hb
    clear hb hweq hput4 hB4
    obtain ⟨g12, d12, g12c, rfl, hm4, hcp4⟩ := mt_form q0 hmn1.out hmn2.out
    replace hcp4 := Lib.hid hcp4
    replace hT := hT.cons hm4
    clear hm4
    clear q0
    replace hT := (hT.new (.cells #[.int .i64 0, .int .i64 3, .slice g12 d12 g12c] 56))
    replace hL0 := (hL0.new rfl [.int .i64 0, .int .i64 3, .slice g12 d12 g12c] 56)
    generalize hweq : (x22.alloc (.cells #[.int .i64 0, .int .i64 3, .slice g12 d12 g12c] 56)) = x23 at hL0 hT
    go_upto_region 12 with fail
    have hZ0 := cells_of _ 0 [] rfl (hL0.get _ _ (mK (mK (mK (mK (mK (mK (mK (mK mZ)))))))))
    simp only [zF, Nat.reduceAdd] at hZ0
    replace hT := ((hT.new (.cells #[.int .i64 1, .int .i64 0] 3)).new (.cells #[.int .i64 1] 3))
    clear hweq
    replace hL0 := ((hL0.new rfl [.int .i64 1, .int .i64 0] 3).new (K := x23.heap.size + 1) (szA _ _) [.int .i64 1] 3)
    generalize hweq : ((x23.alloc (.cells #[.int .i64 1, .int .i64 0] 3)).alloc (.cells #[.int .i64 1] 3)) = x24 at hL0 hT
    have hN0 := cells_of _ 0 [] rfl (hL0.get _ _ (mK (mK (mK (mK (mK (mK (mK (mK (mK (mK mZ)))))))))))
    simp only [zF, Nat.reduceAdd] at hN0
    have hbv3 : ILs x24 (.slice (some ⟨x23.heap.size, 0, none⟩) 2 2) [1, 0] := ils_at (hL0.get _ _ (mK mZ)) rfl rfl
    replace hbv3 := Lib.hid hbv3
    have hbv4 : ILs x24 (.slice (some ⟨x23.heap.size + 1, 0, none⟩) 1 1) [1] := ils_at (hL0.get _ _ mZ) rfl rfl
    replace hbv4 := Lib.hid hbv4
    go_wp2_with fail
    clear hN0
    with_reducible refine Calls.mono (HP1.out (.agg #[.int .i64 2, .int .i64 2, .slice g1 d1 g1c]) (.slice (some ⟨x23.heap.size, 0, none⟩) 2 2) (.slice (some ⟨x23.heap.size + 1, 0, none⟩) 1 1) _ (mt_of (hT.get (mK (mK (mK (mK (mK (mK mZ))))))) hcp1.out hma1.out hma2.out) hbv3.out hbv4.out) ?_
    rintro e x25 ⟨v0, rfl, q0, hb⟩
    replace hL0 := hL0.call hb
    replace hT := hT.call hb
    clear hb hweq
    clear hZ0
    obtain ⟨g13, d13, g13c, rfl, hm5, hcp5⟩ := mt_form q0 hmq1.out hmq2.out
    replace hcp5 := Lib.hid hcp5
    replace hT := hT.cons hm5
    clear hm5
    clear q0
    have hZ0 := cells_of _ 0 [] rfl (hL0.get _ _ (mK (mK mZ)))
    simp only [zF, Nat.reduceAdd] at hZ0
    replace hT := (hT.new (.cells #[.int .i64 2, .int .i64 1, .slice g13 d13 g13c] 56))
    replace hL0 := (hL0.new rfl [.int .i64 2, .int .i64 1, .slice g13 d13 g13c] 56)
    generalize hweq : (x25.alloc (.cells #[.int .i64 2, .int .i64 1, .slice g13 d13 g13c] 56)) = x26 at hL0 hT
    have hN0 := cells_of _ 0 [] rfl (hL0.get _ _ mZ)
    simp only [zF, Nat.reduceAdd] at hN0
    have hN1 := cells_of _ 0 [] rfl (hL0.get _ _ (mK (mK (mK mZ))))
    simp only [zF, Nat.reduceAdd] at hN1
    go_wp2_with fail
    clear hN0 hN1
    with_reducible refine Calls.mono (HXmq.out (.agg #[.int .i64 2, .int .i64 1, .slice g13 d13 g13c]) _ (hKT.out.at (hL0.bl) kKT) (mt_of (hT.get mZ) hcp5.out hmq1.out hmq2.out)) ?_
    rintro e x27 ⟨rfl, hb⟩
    replace hL0 := hL0.call hb
    replace hT := hT.call hb
    clear hb hweq
    clear hZ0
    have hN0 := cells_of _ 0 [] rfl (hL0.get _ _ (mK (mK (mK (mK (mK (mK (mK (mK (mK (mK (mK mZ))))))))))))
    simp only [zF, Nat.reduceAdd] at hN0
    go_wp2_with fail
    clear hN0
    with_reducible refine Calls.mono (HS1.out (.agg #[.int .i64 2, .int .i64 2, .slice g1 d1 g1c]) _ (mt_of (hT.get (mK (mK (mK (mK (mK (mK (mK mZ)))))))) hcp1.out hma1.out hma2.out)) ?_
    rintro e x28 ⟨rfl, hb⟩
    replace hL0 := hL0.call hb
    replace hT := hT.call hb
    clear hb
    go_wp2_with fail
    with_reducible refine Calls.mono (HI10.out _) ?_
    rintro e x29 ⟨rfl, hb⟩
    replace hL0 := hL0.call hb
    replace hT := hT.call hb
    clear hb
    have hN0 := cells_of _ 0 [] rfl (hL0.get _ _ (mK (mK (mK (mK (mK (mK (mK (mK (mK (mK (mK mZ))))))))))))
    simp only [zF, Nat.reduceAdd] at hN0
    go_wp2_with fail
    clear hN0
    with_reducible refine Calls.mono (HY1.out (.agg #[.int .i64 2, .int .i64 2, .slice g1 d1 g1c]) _ (mt_of (hT.get (mK (mK (mK (mK (mK (mK (mK mZ)))))))) hcp1.out hma1.out hma2.out)) ?_
    rintro e x30 ⟨rfl, hb⟩
    replace hL0 := hL0.call hb
    replace hT := hT.call hb
    clear hb
    have hN0 := cells_of _ 0 [] rfl (hL0.get _ _ (mK (mK (mK mZ))))
    simp only [zF, Nat.reduceAdd] at hN0
    go_wp2_with fail
    clear hN0
    with_reducible refine Calls.mono (HY2.out (.agg #[.int .i64 0, .int .i64 3, .slice g12 d12 g12c]) _ (mt_of (hT.get (mK mZ)) hcp4.out hmn1.out hmn2.out)) ?_
    rintro e x31 ⟨rfl, hb⟩
    replace hL0 := hL0.call hb
    replace hT := hT.call hb
    clear hb
    go_wp2_with fail
    exact bodyPost_ret (v := .bool true) (by simp [results, Tryz.results21, go_sem]) rfl ⟨rfl, hL0.bl⟩
end Go.Proofs.YthffglapmkkohaaGreatDoor
