/-
  The law answers true at every input, and leaves its arguments as they were: a part of the proof. CONDITIONS: the package-level tables start as the program's text lays them (the card ties them).
-/
import Derived.Test.YthffglapmkkohaaGreatDoorZce
import Derived.Test.YthffglapmkkohaaGreatDoorTie
import Derived.Test.YthffglapmkkohaaGreatDoorCards
set_option linter.unusedVariables false
set_option linter.unusedSimpArgs false
set_option maxHeartbeats 16000000
set_option maxRecDepth 100000
namespace Go.Proofs.YthffglapmkkohaaGreatDoor
open Go.RowKit
/-- The first columns alone. -/
def mskG (c : Nat) (G : Gd) : Gd := fun i j => if j < c then G i j else 0
theorem Span.msk {R : Nat} {G H : Gd} (c : Nat) (h : Span R G H) : Span R (mskG c G) (mskG c H) := fun i hi => by
 obtain ⟨y, hy⟩ := h i hi
 refine ⟨y, fun j => ?_⟩
 unfold mskG
 by_cases e : j < c
 ·rw [if_pos e, hy j]; exact bs_congr fun r _ => by rw [if_pos e]
 ·rw [if_neg e]; exact ((bs_congr (g := fun _ => 0) fun r _ => by rw [if_neg e]; grind).trans (bs_zero R)).symm
theorem Red.msk {R c : Nat} {pv : List Nat} {G : Gd} (h : Red R c pv G) : Red R c pv (mskG c G) :=
 ⟨h.le, h.lt, h.up, fun r hr j hj => by
  unfold mskG
  split
  ·exact h.zl r hr j hj
  ·rfl, fun r hr => by unfold mskG; rw [if_pos (h.lt r hr)]; exact h.one r hr, fun r hr i hi hne => by unfold mskG; rw [if_pos (h.lt r hr)]; exact h.zz r hr i hi hne, fun i h1 h2 j hj => by unfold mskG; rw [if_pos hj]; exact h.z0 i h1 h2 j hj⟩
theorem msk_aug (x : Mx) (b : List Rat) : mskG x.c (augE x b) = rowsE x := by
 funext i j
 unfold mskG augE rowsE
 by_cases e : j < x.c
 ·simp only [if_pos e, if_neg (show ¬ j = x.c by omega)]
 ·simp only [if_neg e]
/-- What Solve reduces, and its solution. -/
def dsA (x : Mx) (b : List Rat) : ES := descE x.r ⟨augE x b, [], 1⟩ x.c
def rdA (x : Mx) (b : List Rat) : Gd := ascE (dsA x b).pv (dsA x b).G (dsA x b).pv.length
def slA (x : Mx) (b : List Rat) : Nat → Rat := solE (dsA x b).pv (rdA x b) x.c
theorem asc_keep {pv : List Nat} {G : Gd} : ∀ m, m ≤ pv.length → ∀ i, pv.length ≤ i → ascE pv G m i = G i
 | 0, _, _, _ => rfl
 | m + 1, hm, i, hi => by
  show clrU (ascE pv G m) (pv.length - 1 - m) (pv.getD (pv.length - 1 - m) 0) i = G i
  rw [← asc_keep (G := G) m (by omega) i hi]
  funext j
  unfold clrU
  rw [if_neg fun h => by omega]
section
variable {x : Mx} {n k K : Nat} (gx : GM x n k K) (b : List Rat)
include gx
theorem redA : Red n k (dsA x b).pv (rdA x b) ∧ Span n (augE x b) (rdA x b) ∧ Span n (rdA x b) (augE x b) := by
 have := red_ok n k (augE x b)
 unfold rdA dsA
 rw [gx.r, gx.c]
 exact this
theorem pvA : (dsA x b).pv = pvX x ∧ ∀ i, i < n → ∀ j, j < k → rdA x b i j = rdX x i j := by
 obtain ⟨a1, a2, a3⟩ := redA gx b
 obtain ⟨h1, h2, h3⟩ := redX gx
 have e : mskG k (augE x b) = rowsE x := by rw [← gx.c]; exact msk_aug x b
 have m2 := a2.msk k
 have m3 := a3.msk k
 rw [e] at m2 m3
 obtain ⟨u1, u2⟩ := a1.msk.uniq h1 (m3.trans h2) (h3.trans m2)
 refine ⟨u1, fun i hi j hj => ?_⟩
 rw [← u2 i hi j hj]
 unfold mskG
 rw [if_pos hj]
theorem kerA : ((freeL (dsA x b).pv x.c).map fun j => tabV x.c (kvE (dsA x b).pv (rdA x b) j)) = (List.range (frX x).length).map fun i => tabV k (kvX x i) := by
 obtain ⟨u1, u2⟩ := pvA gx b
 have hle := (redX gx).1.le
 have hc := gx.c
 subst hc
 rw [u1]
 refine List.ext_getElem (by simp [frX]) fun a h1 h2 => ?_
 have ha : a < (frX x).length := by simpa using h2
 rw [List.getElem_map, List.getElem_map, List.getElem_range]
 have hf := fr_mem ha
 have e : (freeL (pvX x) x.c)[a]'(by simpa using h1) = (frX x).getD a 0 := by rw [List.getD_eq_getElem?_getD, List.getElem?_eq_getElem ha]; rfl
 rw [e]
 refine tab_ext fun j hj => ?_
 unfold kvX kvE
 by_cases e1 : j = (frX x).getD a 0
 ·rw [if_pos e1, if_pos e1]
 ·rw [if_neg e1, if_neg e1]
  by_cases e2 : j ∈ pvX x
  ·rw [if_pos e2, if_pos e2, u2 _ (by have := List.idxOf_lt_length_iff.2 e2; omega) _ hf.1]
  ·rw [if_neg e2, if_neg e2]
theorem aug_row9 (v : Nat → Rat) (i : Nat) : rowX k (augE x b) v i = (bsV k fun t => ent x i t * v t) ∧ augE x b i k = gv b i := by
 have hc := gx.c
 refine ⟨bs_congr fun t ht => ?_, by unfold augE; rw [if_pos hc.symm]⟩
 unfold augE rowsE
 rw [if_neg (by omega), if_pos (by omega)]
theorem sol_iff9 : (∀ i, (dsA x b).pv.length ≤ i → i < n → (dsA x b).G i k = 0) ↔ ∃ v : Nat → Rat, ∀ i, i < n → (bsV k fun t => ent x i t * v t) = gv b i := by
 have h := solve_iff n k (augE x b)
 have e1 : (redE n k (augE x b)).1 = (dsA x b).pv := by unfold dsA; rw [gx.r, gx.c]; rfl
 have e2 : (redE n k (augE x b)).2 = rdA x b := by unfold rdA dsA; rw [gx.r, gx.c]; rfl
 rw [e1, e2] at h
 have e3 : ∀ i, (dsA x b).pv.length ≤ i → rdA x b i = (dsA x b).G i := fun i hi => asc_keep _ (Nat.le_refl _) i hi
 constructor
 ·intro hz
  obtain ⟨v, hv⟩ := h.1 fun i h1 h2 => by rw [e3 i h1]; exact hz i h1 h2
  exact ⟨v, fun i hi => by rw [← (aug_row9 gx b v i).1, ← (aug_row9 gx b v i).2]; exact hv i hi⟩
 ·rintro ⟨v, hv⟩ i h1 h2
  rw [← e3 i h1]
  exact h.2 ⟨v, fun i hi => by rw [(aug_row9 gx b v i).1, (aug_row9 gx b v i).2]; exact hv i hi⟩ i h1 h2
theorem sol_is (hz : ∀ i, (dsA x b).pv.length ≤ i → i < n → (dsA x b).G i k = 0) : (∀ i, i < n → (bsV k fun t => ent x i t * slA x b t) = gv b i) ∧ ∀ j, j ∉ pvX x → slA x b j = 0 := by
 obtain ⟨a1, a2, a3⟩ := redA gx b
 have e3 : ∀ i, (dsA x b).pv.length ≤ i → rdA x b i = (dsA x b).G i := fun i hi => asc_keep _ (Nat.le_refl _) i hi
 refine ⟨fun i hi => ?_, fun j hj => ?_⟩
 ·rw [← (aug_row9 gx b _ i).1, ← (aug_row9 gx b (slA x b) i).2]
  have := (sol_iff a2 a3 (slA x b)).2 (by
   unfold slA
   rw [gx.c]
   exact a1.sol fun i h1 h2 => by rw [e3 i h1]; exact hz i h1 h2)
  exact this i hi
 ·unfold slA solE
  rw [if_neg (by rw [(pvA gx b).1]; exact hj)]
/-- What Against reduces, and its certificate. -/
def dsG (x : Mx) (n k : Nat) (b : List Rat) : ES := descE (k + 1) ⟨agE (turM n k x) b, [], 1⟩ n
def slG (x : Mx) (n k : Nat) (b : List Rat) : Nat → Rat := solE (dsG x n k b).pv (ascE (dsG x n k b).pv (dsG x n k b).G (dsG x n k b).pv.length) n
omit gx in
theorem ag_row (v : Nat → Rat) : (∀ i, i < k + 1 → rowX n (agE (turM n k x) b) v i = agE (turM n k x) b i n) ↔ (∀ j, j < k → (bsV n fun t => ent x t j * v t) = 0) ∧ (bsV n fun t => gv b t * v t) = 1 := by
 have e1 : ∀ i, i < k → rowX n (agE (turM n k x) b) v i = (bsV n fun t => ent x t i * v t) ∧ agE (turM n k x) b i n = 0 := fun i hi => by
  have hr : ¬ i = (turM n k x).r := by show ¬ i = k; omega
  refine ⟨bs_congr fun t ht => ?_, ?_⟩
  ·unfold agE rowsE
   rw [if_neg hr, if_pos (show t < (turM n k x).c from ht), turM, ent_tab hi ht]
  ·unfold agE rowsE
   rw [if_neg hr, if_neg (show ¬ n < (turM n k x).c from Nat.lt_irrefl n)]
 have e2 : rowX n (agE (turM n k x) b) v k = (bsV n fun t => gv b t * v t) ∧ agE (turM n k x) b k n = 1 := by
  have hr : k = (turM n k x).r := rfl
  refine ⟨bs_congr fun t ht => ?_, ?_⟩
  ·unfold agE
   rw [if_pos hr]
   show (if t < n then gv b t else 1) * v t = _
   rw [if_pos ht]
  ·unfold agE
   rw [if_pos hr]
   show (if n < n then gv b n else 1) = 1
   rw [if_neg (Nat.lt_irrefl n)]
 constructor
 ·intro h
  refine ⟨fun j hj => ?_, ?_⟩
  ·rw [← (e1 j hj).1, h j (by omega), (e1 j hj).2]
  ·rw [← e2.1, h k (by omega), e2.2]
 ·rintro ⟨h1, h2⟩ i hi
  rcases Nat.lt_or_ge i k with g | g
  ·rw [(e1 i g).1, (e1 i g).2, h1 i g]
  ·obtain rfl : i = k := by omega
   rw [e2.1, e2.2, h2]
omit gx in
theorem ag_keep (i : Nat) (hi : (dsG x n k b).pv.length ≤ i) : ascE (dsG x n k b).pv (dsG x n k b).G (dsG x n k b).pv.length i = (dsG x n k b).G i := asc_keep _ (Nat.le_refl _) i hi
omit gx in
theorem ag_iff : (∀ i, (dsG x n k b).pv.length ≤ i → i < k + 1 → (dsG x n k b).G i n = 0) ↔ ∃ v : Nat → Rat, (∀ j, j < k → (bsV n fun t => ent x t j * v t) = 0) ∧ (bsV n fun t => gv b t * v t) = 1 := by
 have h := solve_iff (k + 1) n (agE (turM n k x) b)
 constructor
 ·intro hz
  obtain ⟨v, hv⟩ := h.1 fun i h1 h2 => by
   show ascE (dsG x n k b).pv (dsG x n k b).G (dsG x n k b).pv.length i n = 0
   rw [ag_keep b i h1]; exact hz i h1 h2
  exact ⟨v, (ag_row b v).1 hv⟩
 ·rintro ⟨v, hv⟩ i h1 h2
  have h3 : ascE (dsG x n k b).pv (dsG x n k b).G (dsG x n k b).pv.length i n = 0 := h.2 ⟨v, (ag_row b v).2 hv⟩ i h1 h2
  rw [ag_keep b i h1] at h3
  exact h3
omit gx in
theorem ag_is (hz : ∀ i, (dsG x n k b).pv.length ≤ i → i < k + 1 → (dsG x n k b).G i n = 0) : (∀ j, j < k → (bsV n fun t => ent x t j * slG x n k b t) = 0) ∧ (bsV n fun t => gv b t * slG x n k b t) = 1 := by
 obtain ⟨a1, a2, a3⟩ := red_ok (k + 1) n (agE (turM n k x) b)
 refine (ag_row b _).1 ((sol_iff a2 a3 (slG x n k b)).2 ?_)
 exact a1.sol fun i h1 h2 => by
  show ascE (dsG x n k b).pv (dsG x n k b).G (dsG x n k b).pv.length i n = 0
  rw [ag_keep b i h1]; exact hz i h1 h2
/-- There is a solution, or a certificate, and not both. -/
theorem one_of : (∀ i, (dsA x b).pv.length ≤ i → i < n → (dsA x b).G i k = 0) ↔ ¬ ∀ i, (dsG x n k b).pv.length ≤ i → i < k + 1 → (dsG x n k b).G i n = 0 := by
 rw [sol_iff9 gx b, ag_iff b]
 constructor
 ·rintro ⟨v, hv⟩ ⟨y, h1, h2⟩
  refine not_both (R := n) (c := k) (G := augE x b) (x := v) (y := y) (fun i hi => by rw [(aug_row9 gx b v i).1, (aug_row9 gx b v i).2]; exact hv i hi) (fun j hj => ?_) ?_
  ·rw [← h1 j hj]
   refine bs_congr fun t _ => ?_
   have hc := gx.c
   unfold augE rowsE
   rw [if_neg (by omega), if_pos (by omega)]; grind
  ·rw [← h2]
   refine bs_congr fun t _ => ?_
   rw [(aug_row9 gx b v t).2]; grind
 ·intro hn
  apply Classical.byContradiction
  intro hc
  obtain ⟨y, h1, h2⟩ := against (R := n) (c := k) (G := augE x b) fun ⟨v, hv⟩ => hc ⟨v, fun i hi => by rw [← (aug_row9 gx b v i).1, ← (aug_row9 gx b v i).2]; exact hv i hi⟩
  refine hn ⟨y, fun j hj => ?_, ?_⟩
  ·rw [← h1 j hj]
   refine bs_congr fun t _ => ?_
   have hc := gx.c
   unfold augE rowsE
   rw [if_neg (by omega), if_pos (by omega)]; grind
  ·rw [← h2]
   refine bs_congr fun t _ => ?_
   rw [(aug_row9 gx b y t).2]; grind
/-- A vector is the solution for its image and what it has of the kernel. -/
theorem ker_sum {v : Nat → Rat} (hv : ∀ i, i < n → (bsV k fun t => ent x i t * v t) = gv b i) (hz : ∀ i, (dsA x b).pv.length ≤ i → i < n → (dsA x b).G i k = 0) : ∀ j, j < k → smK (slA x b) (fun i => v ((frX x).getD i 0)) (kvX x) (frX x).length j = v j := by
 obtain ⟨s1, s2⟩ := sol_is gx b hz
 obtain ⟨h1, h2, h3⟩ := redX gx
 obtain ⟨d, hd⟩ : ∃ d : Nat → Rat, d = fun j => smK (slA x b) (fun i => v ((frX x).getD i 0)) (kvX x) (frX x).length j - v j := ⟨_, rfl⟩
 have hk : ∀ i, i < n → rowX k (rowsE x) d i = 0 := fun i hi => by
  have e : rowX k (rowsE x) d i = bsV k fun t => ent x i t * smK (slA x b) (fun i => v ((frX x).getD i 0)) (kvX x) (frX x).length t + (-1) * (ent x i t * v t) := bs_congr fun t ht => by
   unfold rowsE
   rw [if_pos (by rw [gx.c]; exact ht), hd]; grind
  rw [e, bs_add, bs_mul, smK_app (fun t => ent x i t) (fun l hl => ker_app gx hl i hi) _ (Nat.le_refl _), s1 i hi, hv i hi]
  grind
 have h0 : ∀ j, j < k → j ∉ pvX x → d j = 0 := fun j hj hf => by
  have hm : j ∈ frX x := free_mem.2 ⟨by rw [gx.c]; exact hj, hf⟩
  obtain ⟨a, ha, e⟩ := List.getElem_of_mem hm
  have ea : (frX x).getD a 0 = j := by rw [List.getD_eq_getElem?_getD, List.getElem?_eq_getElem ha]; exact e
  have key : ∀ l, l ≤ (frX x).length → smK (slA x b) (fun i => v ((frX x).getD i 0)) (kvX x) l j = if a < l then v j else 0 := by
   intro l
   induction l with
   | zero => intro _; rw [if_neg (Nat.not_lt_zero _)]; exact s2 j hf
   | succ l ih =>
    intro hl
    show v ((frX x).getD l 0) * kvX x l j + smK (slA x b) (fun i => v ((frX x).getD i 0)) (kvX x) l j = _
    rw [ih (by omega), ← ea, kv_at (by omega) ha]
    by_cases e1 : a = l
    ·subst e1; rw [if_pos rfl, if_neg (Nat.lt_irrefl _), if_pos (Nat.lt_succ_self _)]; grind
    ·rw [if_neg e1]
     by_cases e2 : a < l
     ·rw [if_pos e2, if_pos (by omega)]; grind
     ·rw [if_neg e2, if_neg (by omega)]; grind
  rw [hd]
  dsimp only
  rw [key _ (Nat.le_refl _), if_pos ha]; grind
 have h9 := h1.ker_zero ((ker_iff h2 h3 d).1 hk) h0
 intro j hj
 have := h9 j hj
 rw [hd] at this
 dsimp only at this
 grind
end
end Go.Proofs.YthffglapmkkohaaGreatDoor
namespace Go.Proofs.YthffglapmkkohaaGreatDoor
open Go.RowKit
/-- The size of the last column behind p pivots, and while m rows have been used upwards. -/
def tdE (K T : Nat) : Nat → Nat
 | 0 => T
 | p + 1 => 2 * tdE K T p + 2 * kdE K p + 1
def vcE (S U : Nat) : Nat → Nat
 | 0 => U
 | m + 1 => 2 * vcE S U m + ueE S m + 1
theorem td_up (K T : Nat) : ∀ p d, tdE K T p ≤ tdE K T (p + d)
 | p, 0 => Nat.le_refl _
 | p, d + 1 => Nat.le_trans (td_up K T p d) (by show _ ≤ 2 * tdE K T (p + d) + 2 * kdE K (p + d) + 1; omega)
theorem td_mono (K T : Nat) {p q : Nat} (h : p ≤ q) : tdE K T p ≤ tdE K T q := by
 obtain ⟨d, rfl⟩ := Nat.le.dest h
 exact td_up K T p d
theorem vc_up (S U : Nat) : ∀ p d, vcE S U p ≤ vcE S U (p + d)
 | p, 0 => Nat.le_refl _
 | p, d + 1 => Nat.le_trans (vc_up S U p d) (by show _ ≤ 2 * vcE S U (p + d) + ueE S (p + d) + 1; omega)
theorem vc_mono (S U : Nat) {p q : Nat} (h : p ≤ q) : vcE S U p ≤ vcE S U q := by
 obtain ⟨d, rfl⟩ := Nat.le.dest h
 exact vc_up S U p d
theorem vc_mono2 {S S' U U' : Nat} (h : S ≤ S') (g : U ≤ U') : ∀ m, vcE S U m ≤ vcE S' U' m
 | 0 => g
 | m + 1 => by show 2 * vcE S U m + ueE S m + 1 ≤ 2 * vcE S' U' m + ueE S' m + 1; have := vc_mono2 h g m; have := ue_mono2 h m; omega
structure SzJ (R c K T : Nat) (s : ES) : Prop where
 lo : ∀ i, s.pv.length ≤ i → i < R → Sz (s.G i c) (tdE K T s.pv.length)
 up : ∀ i, i < s.pv.length → i < R → Sz (s.G i c) (tdE K T (s.pv.length - 1) + kdE K (s.pv.length - 1))
theorem SzJ.step {R n c K T k : Nat} {s : ES} (h : SzI R n K s) (g : SzJ R c K T s) (hk : k < n) (hkc : k ≤ c) : SzJ R c K T (stepE R k s) := by
 unfold stepE
 cases e : fnd s.G k s.pv.length (R - s.pv.length) with
 | none => exact g
 | some i =>
  obtain ⟨h1, h2, h3, -⟩ := fnd_some e
  obtain ⟨t, ht⟩ : ∃ t, t = s.pv.length := ⟨_, rfl⟩
  rw [← ht] at h1 h2
  have hlo := h.lo
  have glo := g.lo
  have gup := g.up
  rw [← ht] at hlo glo gup
  obtain ⟨a, ha⟩ : ∃ a, a = kdE K t := ⟨_, rfl⟩
  obtain ⟨b, hb⟩ : ∃ b, b = tdE K T t := ⟨_, rfl⟩
  rw [← ha] at hlo
  rw [← hb] at glo
  have hiR : i < R := by omega
  have htR : t < R := by omega
  have hS : ∀ r, t ≤ r → r < R → Sz (swpG s.G i t r k) a := fun r r1 r2 => by
   unfold swpG
   split
   ·exact hlo t (Nat.le_refl _) htR k hk
   ·split
    ·exact hlo i h1 hiR k hk
    ·exact hlo r r1 r2 k hk
  have gS : ∀ r, t ≤ r → r < R → Sz (swpG s.G i t r c) b := fun r r1 r2 => by
   unfold swpG
   split
   ·exact glo t (Nat.le_refl _) htR
   ·split
    ·exact glo i h1 hiR
    ·exact glo r r1 r2
  have hne : swpG s.G i t t k ≠ 0 := by
   unfold swpG
   split
   ·rename_i e1
    rw [e1]; exact h3
   ·rw [if_pos rfl]; exact h3
  have hl : (s.pv ++ [k]).length = t + 1 := by rw [List.length_append, ← ht]; rfl
  refine ⟨fun r r1 r2 => ?_, fun r r1 r2 => ?_⟩
  ·simp only [← ht]
   rw [hl] at r1 ⊢
   show Sz _ (2 * tdE K T t + 2 * kdE K t + 1)
   rw [← ha, ← hb]
   have hrt : r ≠ t := by omega
   unfold clrG
   have hD : ∀ j, divG (swpG s.G i t) t k r j = swpG s.G i t r j := fun j => by unfold divG; rw [if_neg (fun h => hrt h.1)]
   rw [hD, hD]
   split
   ·rename_i hc
    unfold divG
    rw [if_pos ⟨rfl, hc.2.2⟩]
    exact ((gS r (by omega) r2).sub ((hS r (by omega) r2).mul ((gS t (Nat.le_refl _) htR).div (hS t (Nat.le_refl _) htR) hne))).mono (by omega)
   ·exact (gS r (by omega) r2).mono (by omega)
  ·simp only [← ht]
   rw [hl] at r1 ⊢
   rw [Nat.add_sub_cancel, ← ha, ← hb]
   unfold clrG
   rw [if_neg (fun h => by omega)]
   by_cases hrt : r = t
   ·subst hrt
    unfold divG
    split
    ·exact ((gS r (Nat.le_refl _) r2).div (hS r (Nat.le_refl _) r2) hne).mono (by omega)
    ·exact (gS r (Nat.le_refl _) r2).mono (by omega)
   ·unfold divG
    rw [if_neg (fun h => hrt h.1)]
    unfold swpG
    rw [if_neg (by omega), if_neg (by omega)]
    have := kd_mono K (show t - 1 ≤ t by omega)
    have := td_mono K T (show t - 1 ≤ t by omega)
    exact (gup r (by omega) r2).mono (by omega)
theorem SzJ.desc {R c K T : Nat} {G : Gd} (h : ∀ i, i < R → ∀ j, j < c → Sz (G i j) K) (g : ∀ i, i < R → Sz (G i c) T) (hK : 1 ≤ K) : ∀ k, k ≤ c → SzJ R c K T (descE R ⟨G, [], 1⟩ k)
 | 0, _ => ⟨fun i _ hi => g i hi, fun i hi => absurd hi (Nat.not_lt_zero _)⟩
 | k + 1, hk => SzJ.step (SzI.desc h hK k (by omega)) (SzJ.desc h g hK k (by omega)) (by omega) (by omega)
theorem asc_lst9 {R c S U : Nat} {pv : List Nat} {G : Gd} (hp : pv.length ≤ R) (h : ∀ i, i < pv.length → ∀ j, j < c → Sz (G i j) S) (g : ∀ i, i < pv.length → Sz (G i c) U) (hk : ∀ r (h : r < pv.length), pv[r] < c) : ∀ m, m ≤ pv.length →
  ∀ i, i < pv.length → Sz (ascE pv G m i c) (vcE S U (min m (pv.length - 1))) := by
 intro m
 induction m with
 | zero => intro _ i hi; rw [Nat.zero_min]; exact g i hi
 | succ m ih =>
  intro hm i hi
  have h1 := ih (by omega)
  obtain ⟨h2, -⟩ := asc_rows hp h hk m (by omega)
  obtain ⟨q, hq⟩ : ∃ q, q = pv.length - 1 - m := ⟨_, rfl⟩
  have hqp : q < pv.length := by omega
  have hkn : pv.getD q 0 < c := by
   rw [List.getD_eq_getElem?_getD, List.getElem?_eq_getElem hqp]
   exact hk q hqp
  show Sz (clrU (ascE pv G m) (pv.length - 1 - m) (pv.getD (pv.length - 1 - m) 0) i c) _
  rw [← hq]
  unfold clrU
  split
  ·rename_i hc
   rw [show min (m + 1) (pv.length - 1) = m + 1 by omega]
   have e : min m (pv.length - 1) = m := by omega
   rw [e] at h1 h2
   exact ((h1 i hi).sub ((h2 i hi _ hkn).mul (h1 q hqp))).mono (by show _ ≤ 2 * vcE S U m + ueE S m + 1; omega)
  ·exact (h1 i hi).mono (vc_mono S U (by omega))
/-- At most P pivots: the solution's size, and that of the whole. -/
theorem last_sz {R c P K T B : Nat} {G : Gd} (h : ∀ i, i < R → ∀ j, j < c → Sz (G i j) K) (g : ∀ i, i < R → Sz (G i c) T) (hK : 1 ≤ K) (hp : (descE R ⟨G, [], 1⟩ c).pv.length ≤ P) (b : vcE (2 * kdE K (P - 1)) (tdE K T (P - 1) + kdE K (P - 1)) (P - 1) ≤ B) : ∀ m, m ≤ (descE R ⟨G, [], 1⟩ c).pv.length → ∀ i, i < (descE R ⟨G, [], 1⟩ c).pv.length → Sz (ascE (descE R ⟨G, [], 1⟩ c).pv (descE R ⟨G, [], 1⟩ c).G m i c) B := fun m hm i hi => by
 have hO := (desc_ok (R := R) G 1 c).1
 have hz := SzI.desc h hK c (Nat.le_refl _)
 have gz := SzJ.desc h g hK c (Nat.le_refl _)
 generalize descE R ⟨G, [], 1⟩ c = D at *
 have m2 := kd_mono K (show D.pv.length - 1 ≤ P - 1 by omega)
 have m3 := td_mono K T (show D.pv.length - 1 ≤ P - 1 by omega)
 have hle := hO.le
 have a1 := asc_lst9 hle (fun i hi j hj => hz.up i hi (by omega) j hj) (fun i hi => gz.up i hi (by omega)) hO.lt m hm i hi
 have u1 := vc_mono2 (show 2 * kdE K (D.pv.length - 1) ≤ 2 * kdE K (P - 1) by omega) (show tdE K T (D.pv.length - 1) + kdE K (D.pv.length - 1) ≤ tdE K T (P - 1) + kdE K (P - 1) by omega) (min m (D.pv.length - 1))
 have u2 := vc_mono (2 * kdE K (P - 1)) (tdE K T (P - 1) + kdE K (P - 1)) (show min m (D.pv.length - 1) ≤ P - 1 by omega)
 exact a1.mono (by omega)
theorem esz_last {R c P K T B : Nat} {G : Gd} (h : ∀ i, i < R → ∀ j, j < c → Sz (G i j) K) (g : ∀ i, i < R → Sz (G i c) T) (hK : 1 ≤ K) (hp : R ≤ P ∨ c ≤ P) (b0 : tdE K T P ≤ B) (b1 : kdE K P + 1 ≤ B) (b2 : 2 * kdE K (P - 1) ≤ B) (b3 : ueE (2 * kdE K (P - 1)) (P - 1) ≤ B) (b4 : tdE K T (P - 1) + kdE K (P - 1) ≤ B) (b5 : vcE (2 * kdE K (P - 1)) (tdE K T (P - 1) + kdE K (P - 1)) (P - 1) ≤ B) (hB : B ≤ 1000000) (hc : c + 1 ≤ 5000) (hR : R ≤ 5000) : ESz R (c + 1) c B G := by
 have hlen : ∀ k, k ≤ c → (descE R ⟨G, [], 1⟩ k).pv.length ≤ P := fun k hk => by
  rcases hp with h6 | h6
  ·have := (desc_ok (R := R) G 1 k).1.le; omega
  ·have := (red_ok R k G).1.len_le
   unfold redE at this
   have h9 : (descE R ⟨G, [], 1⟩ k).pv.length ≤ k := this
   omega
 have hE := esz_gen (n := c) (B := B) h hK hp b1 b2 b3 hB (by omega) hR (Nat.le_refl c)
 refine ⟨fun k hk => ⟨(hE.ds k hk).1, fun i hi j hj => ?_⟩, fun m hm i hi j hj => ?_, hB, hc, hR, by omega⟩
 ·rcases Nat.lt_or_ge j c with e | e
  ·exact (hE.ds k hk).2 i hi j e
  ·obtain rfl : j = c := by omega
   have gz := SzJ.desc h g hK k hk
   have hl := hlen k hk
   have m1 := td_mono K T hl
   have m2 := kd_mono K (show (descE R ⟨G, [], 1⟩ k).pv.length - 1 ≤ P - 1 by omega)
   have m3 := td_mono K T (show (descE R ⟨G, [], 1⟩ k).pv.length - 1 ≤ P - 1 by omega)
   rcases Nat.lt_or_ge i (descE R ⟨G, [], 1⟩ k).pv.length with f | f
   ·exact (gz.up i f hi).mono (by omega)
   ·exact (gz.lo i f hi).mono (by omega)
 ·rcases Nat.lt_or_ge j c with e | e
  ·exact hE.sa m hm i hi j e
  ·obtain rfl : j = c := by omega
   rcases Nat.lt_or_ge i (descE R ⟨G, [], 1⟩ j).pv.length with f | f
   ·exact last_sz h g hK (hlen j (Nat.le_refl _)) b5 m hm i f
   ·rw [asc_keep m hm i f]
    have gz := SzJ.desc h g hK j (Nat.le_refl _)
    have m1 := td_mono K T (hlen j (Nat.le_refl _))
    exact (gz.lo i f hi).mono (by omega)
section
variable {x : Mx} {n k : Nat} (gx : GM x n k 1) (hn : n ≤ 12) (hk : k ≤ 6) {b : List Rat} (hb : ∀ i, i < n → Sz (gv b i) 19)
include gx hn hk hb
omit hn hk in
theorem augA (i : Nat) (hi : i < x.r) : (∀ j, j < x.c → Sz (augE x b i j) 1) ∧ Sz (augE x b i x.c) 19 := by
 refine ⟨fun j hj => ?_, ?_⟩
 ·unfold augE
  rw [if_neg (by omega)]
  exact gm_rows gx i (by rw [← gx.r]; exact hi) j (by rw [← gx.c]; exact hj)
 ·unfold augE
  rw [if_pos rfl]
  exact hb i (by rw [← gx.r]; exact hi)
theorem eszA : ESz x.r (x.c + 1) x.c 681943 (augE x b) :=
 esz_last (P := 6) (fun i hi j hj => (augA gx hb i hi).1 j hj) (fun i hi => (augA gx hb i hi).2) (Nat.le_refl 1) (.inr (by rw [gx.c]; exact hk)) (by decide) (by decide) (by decide) (by decide) (by decide) (by decide) (by omega) (by rw [gx.c]; omega) (by rw [gx.r]; omega)
omit hn in
/-- The solution: at most six pivots; fewer, if the kernel is not zero. -/
theorem slA_sz (hz : ∀ i, (dsA x b).pv.length ≤ i → i < n → (dsA x b).G i k = 0) (j : Nat) : Sz (slA x b j) 681943 ∧ (0 < (frX x).length → Sz (slA x b j) 59890) := by
 have hl := fr_len gx
 have hp := (pvA gx b).1
 have key : ∀ B P, (pvX x).length ≤ P → vcE (2 * kdE 1 (P - 1)) (tdE 1 19 (P - 1) + kdE 1 (P - 1)) (P - 1) ≤ B → 1 ≤ B → Sz (slA x b j) B := fun B P h1 h2 h3 => by
  unfold slA solE
  split
  ·rename_i hm
   exact last_sz (R := x.r) (c := x.c) (P := P) (K := 1) (T := 19) (fun i hi j hj => (augA gx hb i hi).1 j hj) (fun i hi => (augA gx hb i hi).2) (Nat.le_refl 1) (by show (dsA x b).pv.length ≤ P; rw [hp]; exact h1) h2 _ (Nat.le_refl _) _ (List.idxOf_lt_length_iff.2 hm)
  ·exact (szc 0 (by decide) (by decide)).mono h3
 exact ⟨key 681943 6 (by omega) (by decide) (by omega), fun h0 => key 59890 5 (by omega) (by decide) (by omega)⟩
end
section
variable {x : Mx} {n k : Nat} (gx : GM x n k 1) (hn : n ≤ 6) (hk : k ≤ 6) {b : List Rat} (hb : ∀ i, i < n → Sz (gv b i) 1)
include gx hn hk hb
omit hn hk in
theorem agA (i : Nat) (hi : i < k + 1) (j : Nat) (hj : j < n + 1) : Sz (agE (turM n k x) b i j) 1 := by
 unfold agE
 split
 ·show Sz (if j < n then gv b j else 1) 1
  split
  ·rename_i h
   exact hb j h
  ·exact szc 1 (by decide) (by decide)
 ·rename_i hne
  have hik : i < k := by have : ¬ i = k := hne; omega
  unfold rowsE
  split
  ·rename_i h
   exact gx.tur.at i j hik h
  ·exact szc 0 (by decide) (by decide)
theorem eszG : ESz (k + 1) (n + 1) n 663511 (agE (turM n k x) b) := esz_six (fun i hi j hj => agA gx hb i hi j hj) (.inr hn) (by omega) (by omega) (by omega)
theorem slG_sz (j : Nat) (hj : j < n) : Sz (slG x n k b j) 663511 := by
 unfold slG solE
 split
 ·rename_i hm
  exact (eszG gx hn hk hb).sa _ (Nat.le_refl _) _ (by have := List.idxOf_lt_length_iff.2 hm; have := (desc_ok (R := k + 1) (agE (turM n k x) b) 1 n).1.le; unfold dsG at *; omega) _ (by omega)
 ·exact (szc 0 (by decide) (by decide)).mono (by omega)
end
end Go.Proofs.YthffglapmkkohaaGreatDoor
namespace Go.Proofs.YthffglapmkkohaaGreatDoor
open Go.RowKit
attribute [local irreducible] lo hs sm s64 c64 d64 b64 mh ml pd pc qd qc val hiB str cmpI srD lz nb zl zh zs fe rowV tabV gv bsV tabM turM mulM sumM oneM appV formM dotL sumL mulL nulL kvX smK pvX rdX frX slA slG dsA dsG rdA
theorem esolves_w (n k m np nc : Nat) (x : Mx) (ql : List (Int × Int)) (pv : List Nat) (V S : Nat → Nat → Rat) (W X : Nat → Rat) (b : List Rat) (g1 bo xo ko ca : Option Addr) (d1 c1 bc xc kc cc : Nat)
  (HKe : ∀ p w, MT w p x → Calls Tryz.prog 44 #[p] w fun e w' => (∃ v, e = .returned (.tuple #[v, .int .i64 0]) ∧ VLs w' v ((List.range m).map fun i => tabV k (V i))) ∧ Below w.heap.size w w')
  (HRd : ∀ p w, MT w p x → Calls Tryz.prog 45 #[p] w fun e w' => (∃ b N s, e = .returned (.tuple #[.agg #[.int .i64 (n : Int), .int .i64 (k : Int), .slice (some ⟨b, 0, none⟩) N N], s, .int .i64 0]) ∧ ILs w' s (pv.map Int.ofNat)) ∧ Below w.heap.size w w')
  (HAx : ∀ i, i < m → ∀ p q w, PT w p (tabV k (V i)) → PT w q (tabV k (S i)) → Calls Tryz.prog 47 #[fracV (W i), p, q] w fun e w' => ∃ pv, e = .returned (.tuple #[pv, .int .i64 0]) ∧ PT w' pv (tabV k (S (i + 1))) ∧ Below w.heap.size w w')
  (HAp : ∀ p q w, MT w p x → PT w q (tabV k X) → Calls Tryz.prog 48 #[p, q] w fun e w' => ∃ pv, e = .returned (.tuple #[pv, .int .i64 0]) ∧ PT w' pv (b) ∧ Below w.heap.size w w')
  (HAq : ∀ p q w, MT w p x → PT w q (tabV k (S m)) → Calls Tryz.prog 48 #[p, q] w fun e w' => ∃ pv, e = .returned (.tuple #[pv, .int .i64 0]) ∧ PT w' pv (b) ∧ Below w.heap.size w w')
  (HSm : ∀ p q w, PT w p b → PT w q b → Calls Tryz.prog 18 #[p, q] w fun e w' => e = .returned (.bool true) ∧ Below w.heap.size w w')
  (HSv : ∀ i, i < m → ∀ p q w, PT w p (tabV k (V i)) → PT w q (tabV k (V i)) → Calls Tryz.prog 18 #[p, q] w fun e w' => e = .returned (.bool true) ∧ Below w.heap.size w w')
  (hxr : (x.r : Int) = (n : Int)) (hxc : (x.c : Int) = (k : Int)) (hn : n ≤ 6) (hk : k ≤ 6) (hm : (freeL pv k).length = m) (hnp : pv.length = np) (hp6 : np ≤ 6) (hql : ql.length = nc) (hnc : nc ≤ 8) (hbl : b.length = n)
  (hW : ∀ i, i < m → W i = if i < nc then qE ql i else ((i + 1 : Nat) : Rat)) (hS0 : tabV k (S 0) = tabV k X) (hX0 : ∀ j, j < k → j ∉ pv → X j = 0) (hm6 : m ≤ 6)
  (w : World) (hm1 : PT w (.slice g1 d1 c1) x.l) (hcp : d1 ≤ c1) (hy : PT w (.slice bo n bc) b) (hX : PT w (.slice xo k xc) (tabV k X)) (hVK : VLs w (.slice ko m kc) ((List.range m).map fun i => tabV k (V i))) (kq : QV w (.slice ca nc cc) ql) :
  Calls Tryz.prog 53 #[.agg #[.int .i64 (n : Int), .int .i64 (k : Int), .slice g1 d1 c1], .slice bo n bc, .agg #[.slice xo k xc, .slice ko m kc], .slice ca nc cc] w fun e w' => e = .returned (.bool true) ∧ Below w.heap.size w w' := by
 replace HKe := Lib.hid HKe
 replace HRd := Lib.hid HRd
 replace HAx := Lib.hid HAx
 replace HAp := Lib.hid HAp
 replace HAq := Lib.hid HAq
 replace HSm := Lib.hid HSm
 replace HSv := Lib.hid HSv
 replace hxr := Lib.hid hxr
 replace hxc := Lib.hid hxc
 replace hn := Lib.hid hn
 replace hk := Lib.hid hk
 replace hm := Lib.hid hm
 replace hnp := Lib.hid hnp
 replace hp6 := Lib.hid hp6
 replace hql := Lib.hid hql
 replace hnc := Lib.hid hnc
 replace hbl := Lib.hid hbl
 replace hW := Lib.hid hW
 replace hS0 := Lib.hid hS0
 replace hX0 := Lib.hid hX0
 replace hm6 := Lib.hid hm6
 replace hcp := Lib.hid hcp
 obtain ⟨ao9, c9, he9, -, -, hqv⟩ := kq
 obtain ⟨rfl, -, rfl⟩ : ca = ao9 ∧ nc = ql.length ∧ cc = c9 := by simpa using he9
 clear he9
 replace hqv := Lib.hid hqv
 have hL0 : GL w w [] := GL.start w
 obtain ⟨x1, hweq, hL0⟩ := GL.named ((hL0.new rfl [.int .i64 (n : Int), .int .i64 (k : Int), .slice g1 d1 c1] 56).new (K := w.heap.size + 1) (szA _ _) [.slice xo k xc, .slice ko m kc] 90)
 replace hm1 := hm1.below hL0.bl
 replace hy := hy.below hL0.bl
 replace hX := hX.below hL0.bl
 replace hVK := hVK.below hL0.bl
 have hA := hL0.fc
 simp only [zF, Nat.reduceAdd] at hA
 go_enter Tryz.func53, Tryz.ntmps53
 go_wp2_with fail
 with_reducible refine Calls.mono (HKe.out _ _ (mt_of hm1 hcp.out hxr.out hxc.out)) ?_
 rintro e x2 ⟨⟨lv, rfl, hVL⟩, hb⟩
 replace hL0 := hL0.call hb
 replace hm1 := hm1.below hb
 replace hy := hy.below hb
 replace hX := hX.below hb
 replace hVK := hVK.below hb
 clear hA hb hweq
 obtain ⟨lo2, lc2, rfl, -⟩ := vl_form9 hVL
 have hA := hL0.fc
 simp only [zF, Nat.reduceAdd] at hA
 go_wp2_with fail
 with_reducible refine Calls.mono (HAp.out _ _ _ (mt_of hm1 hcp.out hxr.out hxc.out) hX) ?_
 rintro e x3 ⟨gv3, rfl, hg3, hb⟩
 replace hL0 := hL0.call hb
 replace hm1 := hm1.below hb
 replace hy := hy.below hb
 replace hX := hX.below hb
 replace hVK := hVK.below hb
 replace hVL := hVL.below hb
 clear hA hb
 obtain ⟨ga3, gc3, rfl⟩ := ptn_form hg3 hbl.out
 have hA := hL0.fc
 simp only [zF, Nat.reduceAdd] at hA
 go_wp2_with fail
 with_reducible refine Calls.mono (HSm.out _ _ _ hg3 hy) ?_
 rintro e y0 ⟨rfl, hb⟩
 replace hL0 := hL0.call hb
 replace hm1 := hm1.below hb
 replace hy := hy.below hb
 replace hX := hX.below hb
 replace hVK := hVK.below hb
 replace hVL := hVL.below hb
 clear hA hb hg3
 have hA := hL0.fc
 simp only [zF, Nat.reduceAdd] at hA
 have hS := hX
 rw [← hS0.out] at hS
 go_wp2_with fail
 clear hA
 go_loopg [13, 14] m (fun gk sv iv wr => ∃ (i : Nat) (zi : Int) (so : Option Addr) (sc : Nat), i + gk = m ∧ sv = .slice so k sc ∧ iv = .int .i64 zi ∧ zi = (i : Int) ∧ PT wr (.slice so k sc) (tabV k (S i)) ∧ Below y0.heap.size y0 wr)
 case atStart => exact ⟨0, 0, _, _, Nat.zero_add m, rfl, by first | rfl | go_num, rfl, hS, Below.refl _ _⟩
 case round =>
  clear hS
  obtain ⟨i, zi, so, sc, him, rfl, rfl, hzi, hS, hb⟩ := hrel
  have hL1 := hL0.call hb
  have hA := hL1.fc
  simp only [zF, Nat.reduceAdd] at hA
  rcases Nat.lt_or_ge i m with hi | hi
  ·subst hzi
   have m1 : (i : Int) < (m : Int) := by omega
   have m0 : (0 : Int) ≤ (i : Int) := Int.natCast_nonneg _
   have mb : (i : Int) ≤ 6 := by have := hm6.out; omega
   have hk0 : 0 < k := by have := hm.out; rcases Nat.eq_zero_or_pos k with e | e; subst e; rw [show freeL pv 0 = [] from rfl] at this; simp at this; omega; exact e
   obtain ⟨lo9, lc9, hlf, hle⟩ := vl_form9 (hVL.below hb)
   obtain ⟨rfl, rfl⟩ : lo2 = lo9 ∧ lc2 = lc9 := by simpa using hlf
   obtain ⟨gl, u, hgl, hcu, hpu⟩ := hle i hi
   subst hgl
   clear hlf hle
   obtain ⟨gu, guc, rfl⟩ := ptp9_form hpu (tabV_len _ _) hk0
   obtain ⟨ko9, kc9, hkf, hke⟩ := vl_form9 (hVK.below hb)
   obtain ⟨rfl, rfl⟩ : ko = ko9 ∧ kc = kc9 := by simpa using hkf
   obtain ⟨gk2, u2, hgk, hcv, hpv⟩ := hke i hi
   subst hgk
   clear hkf hke
   obtain ⟨gv, gvc, rfl⟩ := ptp9_form hpv (tabV_len _ _) hk0
   replace hk0 := Lib.hid hk0
   obtain ⟨qi, hqi⟩ : ∃ q : Rat, q = (((i : Int) + 1 : Int) : Rat) := ⟨_, rfl⟩
   have HI : ∀ w, Calls Tryz.prog 12 #[.int .i64 ((i : Int) + 1)] w fun xe w' => xe = .returned (fracV qi) ∧ Below w.heap.size w w' := fun w => by rw [hqi]; exact intF ((i : Int) + 1) (by omega) (by omega) w
   replace HI := Lib.hid HI
   replace hqi := Lib.hid hqi
   go_wp2_with fail
   with_reducible refine Calls.mono (HI.out _) ?_
   rintro e y5 ⟨rfl, hb3⟩
   replace hb := hb.trans (hb3.mono hb.size)
   replace hS := hS.below hb3
   replace hpu := hpu.below hb3
   replace hcu := keepsC hb3 hcu
   replace hpv := hpv.below hb3
   replace hcv := keepsC hb3 hcv
   clear hb3 HI hL1 hA
   have hM := (GL.start y5).new rfl [.int .u64 ((zl qi.num : Nat) : Int), .string (zh qi.num), .bool (zs qi.num), .int .u64 ((lo (fe qi) : Nat) : Int), .string (hs (fe qi))] 36
   generalize hweq : y5.alloc (.cells #[.int .u64 ((zl qi.num : Nat) : Int), .string (zh qi.num), .bool (zs qi.num), .int .u64 ((lo (fe qi) : Nat) : Int), .string (hs (fe qi))] 36) = y6 at hM
   rcases Nat.lt_or_ge i nc with hic | hic
   case' inl =>
    have r1 : (i : Int) < (nc : Int) := by omega
    obtain ⟨qa, rfl, hsl⟩ := hqv.out (by rw [hql.out]; omega)
    have hki : i < ql.length := by rw [hql.out]; exact hic
    replace hsl := hsl.below ((hL0.call hb).call hM.bl).bl
    have d0 := hsl.c0 i hki
    have d1' := hsl.c1 i hki
    obtain ⟨⟨b1, b2⟩, b3, b4⟩ := hsl.rg ql[i] (List.getElem_mem hki)
    have HQ := qof_any ql[i].1 ql[i].2 b1 b2 b3 b4
    obtain ⟨q, hqq⟩ : ∃ q, q = qm ql[i] := ⟨_, rfl⟩
    rw [show qmade ql[i].1 ql[i].2.toNat = qm ql[i] from rfl, ← hqq] at HQ
    rw [← qE_in hki] at hqq
    generalize ql[i].1 = zn at *
    generalize ql[i].2 = zd at *
    have hWq : W i = q := by rw [hW.out i hi, if_pos hic, hqq]
    replace HQ := Lib.hid HQ
    rw [add_one] at d1'
    clear hsl b1 b2 b3 b4 hki hqq
    replace hWq := Lib.hid hWq
    go_wp2_with fail
    with_reducible refine Calls.mono (HQ.out _) ?_
    rintro e y7 ⟨rfl, hb3⟩
    replace hM := hM.call hb3
    clear hb3 d0 d1' HQ hweq
    have hP := hM.put 0 y5.heap.size _ rfl [.int .u64 ((zl q.num : Nat) : Int), .string (zh q.num), .bool (zs q.num), .int .u64 ((lo (fe q) : Nat) : Int), .string (hs (fe q))] rfl
    obtain ⟨y8, hy8⟩ : ∃ y, setAll y7 y5.heap.size 0 [.int .u64 ((zl q.num : Nat) : Int), .string (zh q.num), .bool (zs q.num), .int .u64 ((lo (fe q) : Nat) : Int), .string (hs (fe q))] = y := ⟨_, rfl⟩
    rw [hy8] at hP
    simp only [setAll, Nat.zero_add, Nat.reduceAdd] at hy8
    simp only [List.set_cons_zero] at hP
    have hB0 := hM.fc
    simp only [zF, Nat.reduceAdd] at hB0
    go_upto_region 14 with fail
    clear hB0 hy8 hM
    have hM := hP
    clear hP
   case' inr =>
    have r1 : ¬ (i : Int) < (nc : Int) := by omega
    obtain ⟨q, hq9⟩ : ∃ q, q = qi := ⟨_, rfl⟩
    have hWq : W i = q := by rw [hW.out i hi, if_neg (by omega), hq9, hqi.out]; rfl
    subst hq9
    replace hWq := Lib.hid hWq
    go_upto_region 14 with fail
    clear hweq
    obtain ⟨y8, hy8⟩ : ∃ y, y = y6 := ⟨_, rfl⟩
    subst hy8
   all_goals
    replace hb := hb.trans (hM.bl.mono hb.size)
    replace hS := hS.below hM.bl
    replace hpu := hpu.below hM.bl
    replace hcu := keepsC hM.bl hcu
    replace hpv := hpv.below hM.bl
    replace hcv := keepsC hM.bl hcv
    have hL1 := hL0.call hb
    have HA := HAx.out i hi
    rw [hWq.out] at HA
    replace HA := Lib.hid HA
    go_upto_region 14 with fail
    refine region_tl 11 [EV (.slice (some ⟨gl, 0, none⟩) m lc2), EV (.int .i64 (i : Int)), EV (.pointer (some ⟨gl, i, none⟩)), EV (.slice (some ⟨gu, 0, none⟩) k guc), EV (.pointer (some ⟨w.heap.size + 1, 1, none⟩)), EV (.slice (some ⟨gk2, 0, none⟩) m kc), EV (.int .i64 (i : Int)), EV (.pointer (some ⟨gk2, i, none⟩)), EV (.slice (some ⟨gv, 0, none⟩) k gvc), EV (.bool true), EV (.bool false)] (by kernel_rfl) (by kernel_rfl) ?_ ?_ ?_
    ·exact (stays_cons (stays_eq _) (stays_cons (stays_eq _) (stays_cons (stays_eq _) (stays_cons (stays_eq _) (stays_cons (stays_eq _) (stays_cons (stays_eq _) (stays_cons (stays_eq _) (stays_cons (stays_eq _) (stays_cons (stays_eq _) (stays_cons (stays_eq _) (stays_cons (stays_eq _) stays_nil)))))))))))
    ·simp only [List.take_succ_cons, List.take_zero, hopsR, and_true]
     refine ⟨?_, ?_, ?_, ?_, ?_, ?_, ?_, ?_, ?_, ?_, ?_⟩ <;> intro fv w1 hb1 hp
     all_goals (simp only [putsV, Act.put, zP, Nat.zero_add, Nat.reduceAdd])
     ·refine tyAt_none rfl ?_
      simp [tyUpon, execOp, go_sem, Act.eval, Below.refl]
     ·refine tyAt_none rfl ?_
      simp [tyUpon, execOp, go_sem, Act.eval, Below.refl]
     ·have h0 : (EV (.slice (some ⟨gl, 0, none⟩) m lc2)) (fv 0) w1 := hp 0 (LC (by kernel_rfl))
      have h1 : (EV (.int .i64 (i : Int))) (fv 1) w1 := hp 1 (LC (by kernel_rfl))
      refine tyAt_none rfl ?_
      simp [tyUpon, execOp, go_sem, Act.eval, h0, h1, m0, m1, Below.refl]
     ·have h2 : (EV (.pointer (some ⟨gl, i, none⟩))) (fv 2) w1 := hp 2 (LC (by kernel_rfl))
      refine tyAt_none rfl ?_
      have hc := keepsC (below_drew hb1) hcu
      simp [tyUpon, execOp, go_sem, Act.eval, h2, hc, Below.refl]
     ·refine tyAt_none rfl ?_
      simp [tyUpon, execOp, go_sem, Act.eval, Below.refl]
     ·have h4 : (EV (.pointer (some ⟨w.heap.size + 1, 1, none⟩))) (fv 4) w1 := hp 4 (LC (by kernel_rfl))
      refine tyAt_none rfl ?_
      have hc := (hL1.call (below_drew hb1)).fc
      simp only [zF, Nat.reduceAdd] at hc
      simp [tyUpon, execOp, go_sem, Act.eval, h4, hc, Below.refl]
     ·refine tyAt_none rfl ?_
      simp [tyUpon, execOp, go_sem, Act.eval, Below.refl]
     ·have h5 : (EV (.slice (some ⟨gk2, 0, none⟩) m kc)) (fv 5) w1 := hp 5 (LC (by kernel_rfl))
      have h6 : (EV (.int .i64 (i : Int))) (fv 6) w1 := hp 6 (LC (by kernel_rfl))
      refine tyAt_none rfl ?_
      simp [tyUpon, execOp, go_sem, Act.eval, h5, h6, m0, m1, Below.refl]
     ·have h7 : (EV (.pointer (some ⟨gk2, i, none⟩))) (fv 7) w1 := hp 7 (LC (by kernel_rfl))
      refine tyAt_none rfl ?_
      have hc := keepsC (below_drew hb1) hcv
      simp [tyUpon, execOp, go_sem, Act.eval, h7, hc, Below.refl]
     ·have h3 : (EV (.slice (some ⟨gu, 0, none⟩) k guc)) (fv 3) w1 := hp 3 (LC (by kernel_rfl))
      have h8 : (EV (.slice (some ⟨gv, 0, none⟩) k gvc)) (fv 8) w1 := hp 8 (LC (by kernel_rfl))
      refine tyAt_none rfl ?_
      refine ty_call (f := 18) (args := #[.slice (some ⟨gu, 0, none⟩) k guc, .slice (some ⟨gv, 0, none⟩) k gvc]) (by simp [execOp, go_sem, Act.eval, h3, h8]) ?_
      exact (HSv.out i hi _ _ w1 (PT.below hpu (below_drew hb1)) (PT.below hpv (below_drew hb1))).mono fun e w2 ⟨h1, h2⟩ => ⟨_, h1, rfl, h2⟩
     ·have h9 : (EV (.bool true)) (fv 9) w1 := hp 9 (LC (by kernel_rfl))
      refine tyAt_none rfl ?_
      simp [tyUpon, execOp, go_sem, Act.eval, h9, Below.refl]
    ·intro fv u1 hb1 hv
     have e0 : fv 0 = _ := hv 0 (by omega)
     have e1 : fv 1 = _ := hv 1 (by omega)
     have e2 : fv 2 = _ := hv 2 (by omega)
     have e3 : fv 3 = _ := hv 3 (by omega)
     have e4 : fv 4 = _ := hv 4 (by omega)
     have e5 : fv 5 = _ := hv 5 (by omega)
     have e6 : fv 6 = _ := hv 6 (by omega)
     have e7 : fv 7 = _ := hv 7 (by omega)
     have e8 : fv 8 = _ := hv 8 (by omega)
     have e9 : fv 9 = _ := hv 9 (by omega)
     have e10 : fv 10 = _ := hv 10 (by omega)
     simp only [List.take_succ_cons, List.take_zero, putsV, Act.put, zP, List.drop_succ_cons, List.drop_zero, Nat.zero_add, Nat.reduceAdd, e0, e1, e2, e3, e4, e5, e6, e7, e8, e9, e10]
     have hb9 := below_drew hb1
     clear hv hb1 e0 e1 e2 e3 e4 e5 e6 e7 e8 e9 e10 fv
     replace hb := hb.trans (hb9.mono hb.size)
     replace hS := hS.below hb9
     replace hpu := hpu.below hb9
     replace hcu := keepsC hb9 hcu
     replace hM := hM.call hb9
     clear hcv hpv hL1 hb9
     have hL1 := hL0.call hb
     have hM9 := hM.fc
     simp only [zF, Nat.reduceAdd] at hM9
     go_upto_region 16 with fail
     refine region_tel 10 9 [EV (.agg #[.int .u64 ((zl q.num : Nat) : Int), .string (zh q.num), .bool (zs q.num), .int .u64 ((lo (fe q) : Nat) : Int), .string (hs (fe q))]), EV (.slice (some ⟨gl, 0, none⟩) m lc2), EV (.int .i64 (i : Int)), EV (.pointer (some ⟨gl, i, none⟩)), EV (.slice (some ⟨gu, 0, none⟩) k guc), EV (.slice so k sc), PE (tabV k (S (i + 1))) 0, PE (tabV k (S (i + 1))) 0, PP (tabV k (S (i + 1))), EV (.int .i64 0)] (by kernel_rfl) (by kernel_rfl) ?_ ?_ ?_ ?_
     ·exact (stays_cons (stays_eq _) (stays_cons (stays_eq _) (stays_cons (stays_eq _) (stays_cons (stays_eq _) (stays_cons (stays_eq _) (stays_cons (stays_eq _) (stays_cons (stays_pe _ _) (stays_cons (stays_pe _ _) (stays_cons (stays_pt _) (stays_cons (stays_eq _) stays_nil))))))))))
     ·simp only [List.take_succ_cons, List.take_zero, hopsR, and_true]
      refine ⟨?_, ?_, ?_, ?_, ?_, ?_, ?_, ?_, ?_, ?_⟩ <;> intro fv w1 hb1 hp
      all_goals (simp only [putsV, Act.put, zP, Nat.zero_add, Nat.reduceAdd])
      ·refine tyAt_none rfl ?_
       have hc := (hM.call (below_drew hb1)).fc
       simp only [zF, Nat.reduceAdd] at hc
       simp [tyUpon, execOp, go_sem, Act.eval, hc, Below.refl]
      ·refine tyAt_none rfl ?_
       simp [tyUpon, execOp, go_sem, Act.eval, Below.refl]
      ·refine tyAt_none rfl ?_
       simp [tyUpon, execOp, go_sem, Act.eval, Below.refl]
      ·have h1 : (EV (.slice (some ⟨gl, 0, none⟩) m lc2)) (fv 1) w1 := hp 1 (LC (by kernel_rfl))
       have h2 : (EV (.int .i64 (i : Int))) (fv 2) w1 := hp 2 (LC (by kernel_rfl))
       refine tyAt_none rfl ?_
       simp [tyUpon, execOp, go_sem, Act.eval, h1, h2, m0, m1, Below.refl]
      ·have h3 : (EV (.pointer (some ⟨gl, i, none⟩))) (fv 3) w1 := hp 3 (LC (by kernel_rfl))
       refine tyAt_none rfl ?_
       have hc := keepsC (below_drew hb1) hcu
       simp [tyUpon, execOp, go_sem, Act.eval, h3, hc, Below.refl]
      ·refine tyAt_none rfl ?_
       simp [tyUpon, execOp, go_sem, Act.eval, Below.refl]
      ·have h0 : (EV (.agg #[.int .u64 ((zl q.num : Nat) : Int), .string (zh q.num), .bool (zs q.num), .int .u64 ((lo (fe q) : Nat) : Int), .string (hs (fe q))])) (fv 0) w1 := hp 0 (LC (by kernel_rfl))
       have h4 : (EV (.slice (some ⟨gu, 0, none⟩) k guc)) (fv 4) w1 := hp 4 (LC (by kernel_rfl))
       have h5 : (EV (.slice so k sc)) (fv 5) w1 := hp 5 (LC (by kernel_rfl))
       refine tyAt_none rfl ?_
       refine ty_call (f := 47) (args := #[.agg #[.int .u64 ((zl q.num : Nat) : Int), .string (zh q.num), .bool (zs q.num), .int .u64 ((lo (fe q) : Nat) : Int), .string (hs (fe q))], .slice (some ⟨gu, 0, none⟩) k guc, .slice so k sc]) (by simp [execOp, go_sem, Act.eval, h0, h4, h5]) ?_
       exact (HA.out (.slice (some ⟨gu, 0, none⟩) k guc) (.slice so k sc) w1 (PT.below hpu (below_drew hb1)) (PT.below hS (below_drew hb1))).mono fun e w2 ⟨pv, h1, h2, h3⟩ => ⟨_, h1, ⟨pv, rfl, h2⟩, h3⟩
      ·have h6 : (PE (tabV k (S (i + 1))) 0) (fv 6) w1 := hp 6 (LC (by kernel_rfl))
       refine tyAt_none rfl ?_
       simp [tyUpon, execOp, go_sem, Act.eval, Below.refl]
       exact h6
      ·have h7 : (PE (tabV k (S (i + 1))) 0) (fv 7) w1 := hp 7 (LC (by kernel_rfl))
       refine tyAt_none rfl ?_
       obtain ⟨pa9, pe9, pz9⟩ := h7
       simp [tyUpon, execOp, go_sem, Act.eval, pe9, Below.refl]
       exact pz9
      ·have h7 : (PE (tabV k (S (i + 1))) 0) (fv 7) w1 := hp 7 (LC (by kernel_rfl))
       refine tyAt_none rfl ?_
       obtain ⟨pa9, pe9, pz9⟩ := h7
       simp [tyUpon, execOp, go_sem, Act.eval, pe9, Below.refl]
     ·intro fv w1 hb1 hv
      obtain ⟨u7, e7, -⟩ : PE (tabV k (S (i + 1))) 0 (fv 7) w1 := hv 7 (by omega) (by omega)
      refine ⟨fv 8, .int .i64 0, fun o ho => ?_, fun o ho => ?_, rfl⟩
      ·obtain rfl := Option.some.inj ho
       simp [putsV, Act.put, execOp, go_sem, Act.eval]
      ·obtain rfl := Option.some.inj ho
       simp [putsV, Act.put, execOp, go_sem, Act.eval, e7]
     ·intro fw u2 hb1 hv
      have e0 : fw 0 = _ := hv 0 (by omega)
      have e1 : fw 1 = _ := hv 1 (by omega)
      have e2 : fw 2 = _ := hv 2 (by omega)
      have e3 : fw 3 = _ := hv 3 (by omega)
      have e4 : fw 4 = _ := hv 4 (by omega)
      have e5 : fw 5 = _ := hv 5 (by omega)
      obtain ⟨u6, e6, -⟩ := hv 6 (by omega)
      obtain ⟨u7, e7, -⟩ := hv 7 (by omega)
      have eP : PP _ (fw 8) u2 := hv 8 (by omega)
      obtain ⟨so3, sc3, e8⟩ := ptn_form eP (tabV_len _ _)
      rw [e8] at eP
      have e9 : fw 9 = _ := hv 9 (by omega)
      simp only [List.take_succ_cons, List.take_zero, putsV, Act.put, zP, List.drop_succ_cons, List.drop_zero, Nat.zero_add, Nat.reduceAdd, e0, e1, e2, e3, e4, e5, e6, e7, e8, e9]
      have hb9 := below_drew hb1
      clear hv hb1 e0 e1 e2 e3 e4 e5 e6 e7 e8 e9 fw
      replace hb := hb.trans (hb9.mono hb.size)
      clear hcu hpu hS hM HA hL1 hb9
      go_wp2_with fail
      go_roundg (m - (i + 1))
      case measure => omega
      case rel => exact ⟨i + 1, _, so3, sc3, by omega, rfl, by first | rfl | go_num, by omega, eP, hb⟩
  ·obtain rfl : m = i := by omega
   subst hzi
   have m1 : ¬ (m : Int) < (m : Int) := by omega
   replace hm1 := hm1.below hb
   replace hy := hy.below hb
   replace hX := hX.below hb
   clear hb hL0 hVL hVK hqv HAx HSv HKe
   have hL0 := hL1
   clear hL1
   go_wp2_with fail
   with_reducible refine Calls.mono (HRd.out _ _ (mt_of hm1 hcp.out hxr.out hxc.out)) ?_
   rintro e x7 ⟨⟨rb, rN, sv, rfl, hIL⟩, hb⟩
   replace hL0 := hL0.call hb
   replace hm1 := hm1.below hb
   replace hy := hy.below hb
   replace hX := hX.below hb
   replace hS := hS.below hb
   clear hA hb
   obtain ⟨po, pc2, rfl, -⟩ := il_form9 hIL hnp.out
   replace hL0 := hL0.new rfl [.int .i64 (n : Int), .int .i64 (k : Int), .slice (some ⟨rb, 0, none⟩) rN rN] 56
   have hb := (Below.refl x7.heap.size x7).alloc (Nat.le_refl _) (.cells #[.int .i64 (n : Int), .int .i64 (k : Int), .slice (some ⟨rb, 0, none⟩) rN rN] 56)
   generalize hweq : x7.alloc (.cells #[.int .i64 (n : Int), .int .i64 (k : Int), .slice (some ⟨rb, 0, none⟩) rN rN] 56) = z0 at hL0 hb
   replace hm1 := hm1.below hb
   replace hy := hy.below hb
   replace hX := hX.below hb
   replace hS := hS.below hb
   replace hIL := hIL.below hb
   clear hb
   have hA := hL0.fc
   simp only [zF, Nat.reduceAdd] at hA
   go_wp2_with fail
   clear hweq
   go_loopg [19] k (fun gk kv wr => ∃ (j : Nat) (zj : Int), j + gk = k ∧ kv = .int .i64 zj ∧ zj = (j : Int) ∧ wr = z0)
   case atStart => exact ⟨0, 0, Nat.zero_add k, by first | rfl | go_num, rfl, rfl⟩
   case round =>
    obtain ⟨j, zj, hjk, rfl, hzj, rfl⟩ := hrel
    rcases Nat.lt_or_ge j k with hj | hj
    ·subst hzj
     have k1 : (j : Int) < (k : Int) := by omega
     have k0 : (0 : Int) ≤ (j : Int) := Int.natCast_nonneg _
     have kb : (j : Int) ≤ 6 := by have := hk.out; omega
     go_wp2_with fail
     obtain ⟨wo, hwo⟩ : ∃ wo, wo = wr := ⟨_, rfl⟩
     subst hwo
     have hIL' := hIL
     go_loopg [20, 21] np (fun gk2 bv iv wr2 => ∃ (p : Nat) (zp : Int) (b : Bool), p + gk2 = np ∧ bv = .bool b ∧ iv = .int .i64 zp ∧ zp = (p : Int) ∧ (b = true ↔ j ∈ pv.take p) ∧ wr2 = wo)
     case atStart => exact ⟨0, 0, false, Nat.zero_add np, rfl, by first | rfl | go_num, rfl, by simp, rfl⟩
     case round =>
      obtain ⟨p, zp, b, hpn, rfl, rfl, hzp, hbj, rfl⟩ := hrel
      rcases Nat.lt_or_ge p np with hp | hp
      ·subst hzp
       have m1 : (p : Int) < (np : Int) := by omega
       have m0 : (0 : Int) ≤ (p : Int) := Int.natCast_nonneg _
       have mb : (p : Int) ≤ 6 := by have := hp6.out; omega
       have hpp : p < pv.length := by rw [hnp.out]; exact hp
       obtain ⟨po9, pc9, hf9, hpc⟩ := il_form9 hIL' hnp.out
       obtain ⟨rfl, rfl⟩ : po = po9 ∧ pc2 = pc9 := by simpa using hf9
       obtain ⟨pg, hpg, hcl⟩ := hpc p hpp
       subst hpg
       clear hf9 hpc
       have htk := mem_take9 (j := j) hpp
       obtain ⟨q, hq⟩ : ∃ q, q = pv[p] := ⟨_, rfl⟩
       rw [← hq] at hcl htk
       replace htk := Lib.hid htk
       replace hpp := Lib.hid hpp
       clear hq
       cases b with
       | true =>
        go_wp2_with fail
        go_roundg (np - (p + 1))
        case measure => omega
        case rel => exact ⟨p + 1, _, true, by omega, rfl, by first | rfl | go_num, by omega, ⟨fun _ => htk.out.2 (.inl (hbj.1 (by first | trivial | rfl))), fun _ => by first | trivial | rfl⟩, rfl⟩
       | false =>
        have hnj : ¬ j ∈ pv.take p := fun h => by have := hbj.2 h; simp at this
        replace hnj := Lib.hid hnj
        clear hbj
        by_cases hqj : q = j
        ·have e1 : ((q : Int) == (j : Int)) = true := by rw [hqj]; simp
         have e2 : (q : Int) = (j : Int) := by rw [hqj]
         replace e2 := Lib.hid e2
         replace hqj := Lib.hid hqj
         go_wp2_with fail
         go_roundg (np - (p + 1))
         case measure => omega
         case rel => exact ⟨p + 1, _, _, by omega, rfl, by first | rfl | go_num, by omega, ⟨fun _ => htk.out.2 (.inr hqj.out), fun _ => by first | rfl | simpa using e1⟩, rfl⟩
        ·have e1 : ((q : Int) == (j : Int)) = false := by simp; omega
         have e2 : ¬ (q : Int) = (j : Int) := by omega
         replace hqj := Lib.hid hqj
         go_wp2_with fail
         go_roundg (np - (p + 1))
         case measure => omega
         case rel => exact ⟨p + 1, _, _, by omega, rfl, by first | rfl | go_num, by omega, ⟨fun h => by first | cases h | (exfalso; simp at h; exact e2 h), fun h => absurd h fun h => (htk.out.1 h).elim hnj.out hqj.out⟩, rfl⟩
      ·obtain rfl : np = p := by omega
       subst hzp
       have m1 : ¬ (np : Int) < (np : Int) := by omega
       have hbj2 : b = true ↔ j ∈ pv := by rw [hbj, ← hnp.out, List.take_length]
       clear hbj
       cases b with
       | true =>
        have hjm : j ∈ pv := hbj2.1 (by first | trivial | rfl)
        replace hjm := Lib.hid hjm
        clear hbj2
        go_wp2_with fail
        go_roundg (k - (j + 1))
        case measure => omega
        case rel => exact ⟨j + 1, _, by omega, by first | rfl | go_num, by omega, rfl⟩
       | false =>
        have hjn : j ∉ pv := fun h => by have := hbj2.2 h; simp at this
        replace hjn := Lib.hid hjn
        clear hbj2
        have hjX := hX0.out j hj hjn.out
        obtain ⟨gx, gxc, hgx⟩ := ptp9_form hX (tabV_len _ _) (by omega)
        obtain ⟨rfl, rfl⟩ : xo = some ⟨gx, 0, none⟩ ∧ xc = gxc := by simpa using hgx
        obtain ⟨p0, p1, p2, p3, p4⟩ := fsc (slq_fsE hX (by rw [tabV_len]; omega)) j (by rw [tabV_len]; exact hj)
        rw [gv_tab hj] at p0 p1 p2 p3 p4
        obtain ⟨q, hq⟩ : ∃ q, q = X j := ⟨_, rfl⟩
        rw [← hq] at p0 p1 p2 p3 p4 hjX
        clear hq hgx
        have hne : ∀ W, (binOp .neq 36 (fracV q) (.agg #[.int .u64 0, .string ⟨#[]⟩, .bool false, .int .u64 0, .string ⟨#[]⟩])).run Tryz.prog W = .ok (.bool false) W := fun W => by have := run_neZ q true (by simp [hjX]) W; exact this
        replace hjX := Lib.hid hjX
        go_wp2_with fail
        go_roundg (k - (j + 1))
        case measure => omega
        case rel => exact ⟨j + 1, _, by omega, by first | rfl | go_num, by omega, rfl⟩
    ·obtain rfl : k = j := by omega
     subst hzj
     have k1 : ¬ (k : Int) < (k : Int) := by omega
     go_wp2_with fail
     with_reducible refine Calls.mono (HAq.out _ _ _ (mt_of hm1 hcp.out hxr.out hxc.out) hS) ?_
     rintro e z1 ⟨gv4, rfl, hg4, hb⟩
     replace hL0 := hL0.call hb
     replace hy := hy.below hb
     clear hA hb
     obtain ⟨ga4, gc4, rfl⟩ := ptn_form hg4 hbl.out
     go_wp2_with fail
     with_reducible refine Calls.mono (HSm.out _ _ _ hg4 hy) ?_
     rintro e z2 ⟨rfl, hb⟩
     replace hL0 := hL0.call hb
     clear hb
     go_wp2_with fail
     exact bodyPost_ret (v := .bool true) (by simp [results, Tryz.results53, go_sem]) rfl ⟨rfl, hL0.bl⟩
end Go.Proofs.YthffglapmkkohaaGreatDoor
namespace Go.Proofs.YthffglapmkkohaaGreatDoor
open Go.RowKit
attribute [local irreducible] lo hs sm s64 c64 d64 b64 mh ml pd pc qd qc val hiB str cmpI srD lz nb zl zh zs fe rowV tabV gv bsV tabM turM mulM sumM oneM appV formM dotL sumL mulL nulL kvX smK pvX rdX frX slA slG dsA dsG rdA
theorem efred_l (zr zc : Int) (la ba va ca : Option Addr) (lx ly nb cb nv cv nc cc : Nat) (hrej : (∀ (p0 : Value) (w : World), FWs w p0 [lx] → Calls Tryz.prog 38 #[p0] w fun e w' => e = .returned (.bool false) ∧ Below w.heap.size w w') ∨ ((∀ (p0 : Value) (w : World), FWs w p0 [lx] → Calls Tryz.prog 38 #[p0] w fun e w' => e = .returned (.bool true) ∧ Below w.heap.size w w') ∧ decide ((20 : Int) < ((nb : Nat) : Int)) = true ∧ decide (20 < nb) = true) ∨ ((∀ (p0 : Value) (w : World), FWs w p0 [lx] → Calls Tryz.prog 38 #[p0] w fun e w' => e = .returned (.bool true) ∧ Below w.heap.size w w') ∧ decide ((20 : Int) < ((nb : Nat) : Int)) = false ∧ decide (20 < nb) = false ∧ decide ((20 : Int) < ((nv : Nat) : Int)) = true ∧ decide (20 < nv) = true) ∨ ((∀ (p0 : Value) (w : World), FWs w p0 [lx] → Calls Tryz.prog 38 #[p0] w fun e w' => e = .returned (.bool true) ∧ Below w.heap.size w w') ∧ decide ((20 : Int) < ((nb : Nat) : Int)) = false ∧ decide (20 < nb) = false ∧ decide ((20 : Int) < ((nv : Nat) : Int)) = false ∧ decide (20 < nv) = false ∧ decide ((8 : Int) < ((nc : Nat) : Int)) = true ∧ decide (8 < nc) = true)) (KT : World → Prop) (hKT : Keeps KT) (HW : ∀ w, KT w → Calls Tryz.prog 39 #[] w fun xe w' => xe = .returned (.bool true) ∧ Below w.heap.size w w') (w : World) (kKT : KT w) :
  Calls Tryz.prog 8 #[.agg #[.int .u8 zr, .int .u8 zc, .slice la lx ly], .slice ba nb cb, .slice va nv cv, .slice ca nc cc] w fun e w' => e = .returned (.bool true) ∧ Below w.heap.size w w' := by
 replace hKT := Lib.hid hKT
 replace HW := Lib.hid HW
 rcases hrej with HFw | ⟨HFw, q1, q2⟩ | ⟨HFw, q1, q2, q3, q4⟩ | ⟨HFw, q1, q2, q3, q4, q5, q6⟩
 all_goals
  replace HFw := Lib.hid HFw
  have hL0 : GL w w [] := GL.start w
  obtain ⟨x1, hweq, hL0⟩ := GL.named (hL0.new rfl [.int .u8 zr, .int .u8 zc, .slice la lx ly] 51)
  go_enter Tryz.func8, Tryz.ntmps8
  go_upto_region 1 with fail
  have hZ0 := cells_of _ 0 [] rfl (hL0.get _ _ mZ)
  simp only [zF, Nat.reduceAdd] at hZ0
  clear hweq
  obtain ⟨x2, hweq, hL0⟩ := GL.named (hL0.new rfl [.int .u8 zr, .int .u8 zc, .slice la lx ly] 51)
  have hN0 := cells_of _ 0 [] rfl (hL0.get _ _ (mK mZ))
  simp only [zF, Nat.reduceAdd] at hN0
  have hbv1 : FWs x2 (.slice (some ⟨x1.heap.size, 0, none⟩) 1 1) [lx] := fws_one (hL0.get _ _ mZ)
  replace hbv1 := Lib.hid hbv1
  go_wp2_with fail
  clear hN0
  with_reducible refine Calls.mono (HFw.out (.slice (some ⟨x1.heap.size, 0, none⟩) 1 1) _ hbv1.out) ?_
  rintro e x3 ⟨rfl, hb⟩
  replace hL0 := hL0.call hb
  clear hb hweq hZ0 hbv1
  go_wp2_with fail
  with_reducible refine Calls.mono (HW.out _ (hKT.out.at hL0.bl kKT)) ?_
  rintro e x4 ⟨rfl, hb⟩
  replace hL0 := hL0.call hb
  clear hb
  go_wp2_with fail
  exact bodyPost_ret (v := .bool true) (by simp [results, Tryz.results8, go_sem]) rfl ⟨rfl, hL0.bl⟩
theorem efred_law (zr zc : Int) (la ba va ca : Option Addr) (lx ly nb cb nv cv nc cc : Nat) (n k m np : Nat) (x tx : Mx) (ql : List (Int × Int)) (pv : List Nat) (V S : Nat → Nat → Rat) (X X2 : Nat → Rat) (lb lv lm Z : List Rat) (one : Rat)
  (HFw : ∀ (p0 : Value) (w : World), FWs w p0 [lx] → Calls Tryz.prog 38 #[p0] w fun e w' => e = .returned (.bool true) ∧ Below w.heap.size w w')
  (KA : World → Prop) (hKA : Keeps KA) (HMo : ∀ (w : World), KA w → Calls Tryz.prog 23 #[.agg #[.int .u8 zr, .int .u8 zc, .slice la lx ly]] w fun e w' => ∃ pv, e = .returned pv ∧ MT w' pv x ∧ Below w.heap.size w w')
  (KB : World → Prop) (hKB : Keeps KB) (HV1 : ∀ w, KB w → Calls Tryz.prog 49 #[.slice ba nb cb, .int .i64 (n : Int)] w fun e w' => (∃ u, e = .returned u ∧ PT w' u lb) ∧ Below w.heap.size w w')
  (KV : World → Prop) (hKV : Keeps KV) (HV2 : ∀ w, KV w → Calls Tryz.prog 49 #[.slice va nv cv, .int .i64 (k : Int)] w fun e w' => (∃ u, e = .returned u ∧ PT w' u lv) ∧ Below w.heap.size w w')
  (hcase : ((∀ p q w, MT w p x → PT w q lb → Calls Tryz.prog 50 #[p, q] w fun e w' => e = .returned (.tuple #[.agg #[.slice none 0 0, .slice none 0 0], .int .i64 6]) ∧ Below w.heap.size w w') ∧ (∀ p q w, MT w p x → PT w q lb → Calls Tryz.prog 51 #[p, q] w fun e w' => ∃ pv, e = .returned (.tuple #[pv, .int .i64 0]) ∧ PT w' pv (Z) ∧ Below w.heap.size w w') ∧ (∀ p w, MT w p x → Calls Tryz.prog 41 #[p] w fun e w' => ∃ pv, e = .returned (.tuple #[pv, .int .i64 0]) ∧ MT w' pv tx ∧ Below w.heap.size w w') ∧ (∀ p q w, MT w p tx → PT w q Z → Calls Tryz.prog 48 #[p, q] w fun e w' => ∃ pv, e = .returned (.tuple #[pv, .int .i64 0]) ∧ PT w' pv (nulL k) ∧ Below w.heap.size w w') ∧ (∀ p q w, PT w p Z → PT w q lb → Calls Tryz.prog 52 #[p, q] w fun e w' => e = .returned (.tuple #[fracV one, .int .i64 0]) ∧ Below w.heap.size w w')) ∨ ((∀ p q w, MT w p x → PT w q lb → Calls Tryz.prog 50 #[p, q] w fun e w' => (∃ xv kv, e = .returned (.tuple #[.agg #[xv, kv], .int .i64 0]) ∧ PT w' xv (tabV k X) ∧ VLs w' kv ((List.range m).map fun i => tabV k (V i))) ∧ Below w.heap.size w w') ∧ (∀ p q w, MT w p x → PT w q lb → Calls Tryz.prog 51 #[p, q] w fun e w' => e = .returned (.tuple #[.slice none 0 0, .int .i64 6]) ∧ Below w.heap.size w w') ∧ (∀ (g1 bo xo ko : Option Addr) (d1 c1 bc xc kc : Nat) (w : World), PT w (.slice g1 d1 c1) x.l → d1 ≤ c1 → PT w (.slice bo n bc) lb → PT w (.slice xo k xc) (tabV k X) → VLs w (.slice ko m kc) ((List.range m).map fun i => tabV k (V i)) → QV w (.slice ca nc cc) ql → Calls Tryz.prog 53 #[.agg #[.int .i64 (n : Int), .int .i64 (k : Int), .slice g1 d1 c1], .slice bo n bc, .agg #[.slice xo k xc, .slice ko m kc], .slice ca nc cc] w fun e w' => e = .returned (.bool true) ∧ Below w.heap.size w w')))
  (HAp : ∀ p q w, MT w p x → PT w q lv → Calls Tryz.prog 48 #[p, q] w fun e w' => ∃ pv, e = .returned (.tuple #[pv, .int .i64 0]) ∧ PT w' pv (lm) ∧ Below w.heap.size w w')
  (HS2 : (∀ p q w, MT w p x → PT w q lm → Calls Tryz.prog 50 #[p, q] w fun e w' => (∃ xv kv, e = .returned (.tuple #[.agg #[xv, kv], .int .i64 0]) ∧ PT w' xv (tabV k X2) ∧ VLs w' kv ((List.range m).map fun i => tabV k (V i))) ∧ Below w.heap.size w w')) (HSv : (∀ (g1 bo xo ko : Option Addr) (d1 c1 bc xc kc : Nat) (w : World), PT w (.slice g1 d1 c1) x.l → d1 ≤ c1 → PT w (.slice bo n bc) lm → PT w (.slice xo k xc) (tabV k X2) → VLs w (.slice ko m kc) ((List.range m).map fun i => tabV k (V i)) → QV w (.slice ca nc cc) ql → Calls Tryz.prog 53 #[.agg #[.int .i64 (n : Int), .int .i64 (k : Int), .slice g1 d1 c1], .slice bo n bc, .agg #[.slice xo k xc, .slice ko m kc], .slice ca nc cc] w fun e w' => e = .returned (.bool true) ∧ Below w.heap.size w w'))
  (HRd : ∀ p w, MT w p x → Calls Tryz.prog 45 #[p] w fun e w' => (∃ b N s, e = .returned (.tuple #[.agg #[.int .i64 (n : Int), .int .i64 (k : Int), .slice (some ⟨b, 0, none⟩) N N], s, .int .i64 0]) ∧ ILs w' s (pv.map Int.ofNat)) ∧ Below w.heap.size w w')
  (HAx : ∀ i, i < m → ∀ p q w, PT w p (tabV k (V i)) → PT w q (tabV k (S i)) → Calls Tryz.prog 47 #[fracV (gv lv ((freeL pv k).getD i 0)), p, q] w fun e w' => ∃ pv, e = .returned (.tuple #[pv, .int .i64 0]) ∧ PT w' pv (tabV k (S (i + 1))) ∧ Below w.heap.size w w')
  (HSz : ∀ p q w, PT w p (nulL k) → PT w q (nulL k) → Calls Tryz.prog 18 #[p, q] w fun e w' => e = .returned (.bool true) ∧ Below w.heap.size w w')
  (HSx : ∀ p q w, PT w p lv → PT w q lv → Calls Tryz.prog 18 #[p, q] w fun e w' => e = .returned (.bool true) ∧ Below w.heap.size w w')
  (KT : World → Prop) (hKT : Keeps KT) (HW : ∀ w, KT w → Calls Tryz.prog 39 #[] w fun xe w' => xe = .returned (.bool true) ∧ Below w.heap.size w w')
  (hxr : (x.r : Int) = (n : Int)) (hxc : (x.c : Int) = (k : Int)) (htr : (tx.r : Int) = (k : Int)) (htc : (tx.c : Int) = (n : Int)) (hn : n ≤ 6) (hk : k ≤ 6) (hm : (freeL pv k).length = m) (hnp : pv.length = np) (hp6 : np ≤ 6) (hql : ql.length = nc) (hlb : lb.length = n) (hlv : lv.length = k) (hlm : lm.length = n) (hlZ : Z.length = n) (hone : one = 1)
  (hS0 : tabV k (S 0) = tabV k X2) (hSm : tabV k (S m) = lv) (hm6 : m ≤ 6)
  (l_nb : decide ((20 : Int) < ((nb : Nat) : Int)) = false) (k_nb : decide (20 < nb) = false) (l_nv : decide ((20 : Int) < ((nv : Nat) : Int)) = false) (k_nv : decide (20 < nv) = false) (l_nc : decide ((8 : Int) < ((nc : Nat) : Int)) = false) (k_nc : decide (8 < nc) = false) (w : World) (kKA : KA w) (kKB : KB w) (kKV : KV w) (kq : QV w (.slice ca nc cc) ql) (kKT : KT w) :
  Calls Tryz.prog 8 #[.agg #[.int .u8 zr, .int .u8 zc, .slice la lx ly], .slice ba nb cb, .slice va nv cv, .slice ca nc cc] w fun e w' => e = .returned (.bool true) ∧ Below w.heap.size w w' := by
 replace HFw := Lib.hid HFw
 replace hKA := Lib.hid hKA
 replace HMo := Lib.hid HMo
 replace hKB := Lib.hid hKB
 replace HV1 := Lib.hid HV1
 replace hKV := Lib.hid hKV
 replace HV2 := Lib.hid HV2
 replace hcase := Lib.hid hcase
 replace HAp := Lib.hid HAp
 replace HS2 := Lib.hid HS2
 replace HSv := Lib.hid HSv
 replace HRd := Lib.hid HRd
 replace HAx := Lib.hid HAx
 replace HSz := Lib.hid HSz
 replace HSx := Lib.hid HSx
 replace hKT := Lib.hid hKT
 replace HW := Lib.hid HW
 replace hxr := Lib.hid hxr
 replace hxc := Lib.hid hxc
 replace htr := Lib.hid htr
 replace htc := Lib.hid htc
 replace hn := Lib.hid hn
 replace hk := Lib.hid hk
 replace hm := Lib.hid hm
 replace hnp := Lib.hid hnp
 replace hp6 := Lib.hid hp6
 replace hql := Lib.hid hql
 replace hlb := Lib.hid hlb
 replace hlv := Lib.hid hlv
 replace hlm := Lib.hid hlm
 replace hlZ := Lib.hid hlZ
 replace hone := Lib.hid hone
 replace hS0 := Lib.hid hS0
 replace hSm := Lib.hid hSm
 replace hm6 := Lib.hid hm6
 have hqv := Lib.hid kq
 have hL0 : GL w w [] := GL.start w
 obtain ⟨x1, hweq, hL0⟩ := GL.named (hL0.new rfl [.int .u8 zr, .int .u8 zc, .slice la lx ly] 51)
 go_enter Tryz.func8, Tryz.ntmps8
 go_upto_region 1 with fail
 have hZ0 := cells_of _ 0 [] rfl (hL0.get _ _ mZ)
 simp only [zF, Nat.reduceAdd] at hZ0
 clear hweq
 obtain ⟨x2, hweq, hL0⟩ := GL.named (hL0.new rfl [.int .u8 zr, .int .u8 zc, .slice la lx ly] 51)
 have hN0 := cells_of _ 0 [] rfl (hL0.get _ _ (mK mZ))
 simp only [zF, Nat.reduceAdd] at hN0
 have hbv1 : FWs x2 (.slice (some ⟨x1.heap.size, 0, none⟩) 1 1) [lx] := fws_one (hL0.get _ _ mZ)
 replace hbv1 := Lib.hid hbv1
 go_wp2_with fail
 clear hN0
 with_reducible refine Calls.mono (HFw.out (.slice (some ⟨x1.heap.size, 0, none⟩) 1 1) _ hbv1.out) ?_
 rintro e x3 ⟨rfl, hb⟩
 replace hL0 := hL0.call hb
 clear hb hweq hZ0 hbv1
 have hN0 := cells_of _ 0 [] rfl (hL0.get _ _ (mK mZ))
 simp only [zF, Nat.reduceAdd] at hN0
 go_wp2_with fail
 clear hN0
 with_reducible refine Calls.mono (HMo.out _ (hKA.out.at hL0.bl kKA)) ?_
 rintro e x4 ⟨v0, rfl, q0, hb⟩
 replace hL0 := hL0.call hb
 clear hb
 obtain ⟨g1, d1, c1, rfl, hm1, hcp⟩ := mt_form q0 hxr.out hxc.out
 clear q0
 replace hcp := Lib.hid hcp
 replace hL0 := hL0.new rfl [.int .i64 (n : Int), .int .i64 (k : Int), .slice g1 d1 c1] 56
 have hb := (Below.refl x4.heap.size x4).alloc (Nat.le_refl _) (.cells #[.int .i64 (n : Int), .int .i64 (k : Int), .slice g1 d1 c1] 56)
 generalize hweq : x4.alloc (.cells #[.int .i64 (n : Int), .int .i64 (k : Int), .slice g1 d1 c1] 56) = x5 at hL0 hb
 replace hm1 := hm1.below hb
 clear hb
 have hA := hL0.fc
 simp only [zF, Nat.reduceAdd] at hA
 go_wp2_with fail
 with_reducible refine Calls.mono (HV1.out _ (hKB.out.at hL0.bl kKB)) ?_
 rintro e x6 ⟨⟨yv, rfl, hy⟩, hb⟩
 replace hL0 := hL0.call hb
 replace hm1 := hm1.below hb
 clear hA hb hweq
 obtain ⟨bo, bc, rfl⟩ := ptn_form hy hlb.out
 have hA := hL0.fc
 simp only [zF, Nat.reduceAdd] at hA
 rcases hcase.out with ⟨HSo, HAg, HTu, HAZ, HDo⟩ | ⟨HSo, HAg, HSw⟩
 case' inl =>
  clear hcase
  replace HSo := Lib.hid HSo
  replace HAg := Lib.hid HAg
  replace HTu := Lib.hid HTu
  replace HAZ := Lib.hid HAZ
  replace HDo := Lib.hid HDo
  go_wp2_with fail
  with_reducible refine Calls.mono (HSo.out _ _ _ (mt_of hm1 hcp.out hxr.out hxc.out) hy) ?_
  rintro e x7 ⟨rfl, hb⟩
  replace hL0 := hL0.call hb
  replace hm1 := hm1.below hb
  replace hy := hy.below hb
  clear hA hb
  replace hL0 := hL0.new rfl [.slice none 0 0, .slice none 0 0] 90
  have hM := (GL.start x7).new rfl [.slice none 0 0, .slice none 0 0] 90
  generalize hweq : x7.alloc (.cells #[.slice none 0 0, .slice none 0 0] 90) = x8 at hL0 hM
  have hA2 := hL0.fc
  simp only [zF, Nat.reduceAdd] at hA2
  have hP0 := hL0.put 0 x7.heap.size _ rfl [.slice none 0 0, .slice none 0 0] rfl
  have hP1 := hM.put 0 x7.heap.size _ rfl [.slice none 0 0, .slice none 0 0] rfl
  obtain ⟨x8b, hy0⟩ : ∃ y, setAll x8 x7.heap.size 0 [.slice none 0 0, .slice none 0 0] = y := ⟨_, rfl⟩
  rw [hy0] at hP0 hP1
  simp only [setAll, Nat.zero_add, Nat.reduceAdd] at hy0
  simp only [List.set_cons_zero] at hP0 hP1
  clear hM hL0
  have hL0 := hP0
  replace hm1 := hm1.below hP1.bl
  replace hy := hy.below hP1.bl
  clear hP0 hP1
  have hA := hL0.fc
  simp only [zF, Nat.reduceAdd] at hA
  go_wp2_with fail
  with_reducible refine Calls.mono (HAg.out _ _ _ (mt_of hm1 hcp.out hxr.out hxc.out) hy) ?_
  rintro e x9 ⟨av, rfl, hZ, hb⟩
  replace hL0 := hL0.call hb
  replace hm1 := hm1.below hb
  replace hy := hy.below hb
  clear hA hA2 hy0 hb hweq
  obtain ⟨zo, zc9, rfl⟩ := ptn_form hZ hlZ.out
  have hA := hL0.fc
  simp only [zF, Nat.reduceAdd] at hA
  go_wp2_with fail
  with_reducible refine Calls.mono (HTu.out _ _ (mt_of hm1 hcp.out hxr.out hxc.out)) ?_
  rintro e x10 ⟨tv, rfl, hT, hb⟩
  replace hL0 := hL0.call hb
  replace hm1 := hm1.below hb
  replace hy := hy.below hb
  replace hZ := hZ.below hb
  clear hA hb
  obtain ⟨g2, d2, c2, rfl, hm2, hcp2⟩ := mt_form hT htr.out htc.out
  clear hT
  replace hcp2 := Lib.hid hcp2
  replace hL0 := hL0.new rfl [.int .i64 (k : Int), .int .i64 (n : Int), .slice g2 d2 c2] 56
  have hb := (Below.refl x10.heap.size x10).alloc (Nat.le_refl _) (.cells #[.int .i64 (k : Int), .int .i64 (n : Int), .slice g2 d2 c2] 56)
  generalize hweq : x10.alloc (.cells #[.int .i64 (k : Int), .int .i64 (n : Int), .slice g2 d2 c2] 56) = x11 at hL0 hb
  replace hm1 := hm1.below hb
  replace hy := hy.below hb
  replace hZ := hZ.below hb
  replace hm2 := hm2.below hb
  clear hb
  have hA := hL0.fc
  simp only [zF, Nat.reduceAdd] at hA
  go_wp2_with fail
  with_reducible refine Calls.mono (HAZ.out _ _ _ (mt_of hm2 hcp2.out htr.out htc.out) hZ) ?_
  rintro e x12 ⟨nv9, rfl, hN, hb⟩
  replace hL0 := hL0.call hb
  replace hm1 := hm1.below hb
  replace hy := hy.below hb
  replace hZ := hZ.below hb
  clear hA hb hm2 hcp2 hweq
  obtain ⟨no, nc9, rfl⟩ := ptn_form hN (nul_len9 k)
  have hA := hL0.fc
  simp only [zF, Nat.reduceAdd] at hA
  have HZe := Lib.hid (fun w => zeroG (n := k) (by have := hk.out; omega) w)
  go_wp2_with fail
  with_reducible refine Calls.mono (HZe.out _) ?_
  rintro e x13 ⟨ev9, rfl, hE, hb⟩
  replace hL0 := hL0.call hb
  replace hm1 := hm1.below hb
  replace hy := hy.below hb
  replace hZ := hZ.below hb
  replace hN := hN.below hb
  clear hA hb HZe
  obtain ⟨eo, ec9, rfl⟩ := ptn_form hE (nul_len9 k)
  have hA := hL0.fc
  simp only [zF, Nat.reduceAdd] at hA
  go_wp2_with fail
  with_reducible refine Calls.mono (HDo.out _ _ _ hZ hy) ?_
  rintro e x14 ⟨rfl, hb⟩
  replace hL0 := hL0.call hb
  replace hm1 := hm1.below hb
  replace hN := hN.below hb
  replace hE := hE.below hb
  clear hA hb hZ hy
  replace hL0 := hL0.new rfl [.int .u64 ((zl one.num : Nat) : Int), .string (zh one.num), .bool (zs one.num), .int .u64 ((lo (fe one) : Nat) : Int), .string (hs (fe one))] 36
  have hb := (Below.refl x14.heap.size x14).alloc (Nat.le_refl _) (.cells #[.int .u64 ((zl one.num : Nat) : Int), .string (zh one.num), .bool (zs one.num), .int .u64 ((lo (fe one) : Nat) : Int), .string (hs (fe one))] 36)
  generalize hweq : x14.alloc (.cells #[.int .u64 ((zl one.num : Nat) : Int), .string (zh one.num), .bool (zs one.num), .int .u64 ((lo (fe one) : Nat) : Int), .string (hs (fe one))] 36) = x15 at hL0 hb
  replace hm1 := hm1.below hb
  replace hN := hN.below hb
  replace hE := hE.below hb
  clear hb
  have HI : ∀ w, Calls Tryz.prog 12 #[.int .i64 1] w fun xe w' => xe = .returned (fracV one) ∧ Below w.heap.size w w' := fun w => by rw [hone.out]; exact intF 1 (by decide) (by decide) w
  replace HI := Lib.hid HI
  have hne : ∀ W, (binOp .neq 36 (fracV one) (fracV one)).run Tryz.prog W = .ok (.bool false) W := fun W => by have := run_neqF one one true (by simp) W; exact this
  go_upto_region 14 with fail
  refine region_tl 17 [EV (.int .i64 0), EV (.bool false), EV (.bool false), EV (.int .i64 0), EV (.bool false), EV (.bool false), EV (.bool false), EV (.slice no k nc9), EV (.slice eo k ec9), EV (.bool true), EV (.bool false), EV (.bool false), EV (.bool false), EV (.agg #[.int .u64 ((zl one.num : Nat) : Int), .string (zh one.num), .bool (zs one.num), .int .u64 ((lo (fe one) : Nat) : Int), .string (hs (fe one))]), EV (.agg #[.int .u64 ((zl one.num : Nat) : Int), .string (zh one.num), .bool (zs one.num), .int .u64 ((lo (fe one) : Nat) : Int), .string (hs (fe one))]), EV (.bool false), EV (.bool false)] (by kernel_rfl) (by kernel_rfl) ?_ ?_ ?_
  ·exact (stays_cons (stays_eq _) (stays_cons (stays_eq _) (stays_cons (stays_eq _) (stays_cons (stays_eq _) (stays_cons (stays_eq _) (stays_cons (stays_eq _) (stays_cons (stays_eq _) (stays_cons (stays_eq _) (stays_cons (stays_eq _) (stays_cons (stays_eq _) (stays_cons (stays_eq _) (stays_cons (stays_eq _) (stays_cons (stays_eq _) (stays_cons (stays_eq _) (stays_cons (stays_eq _) (stays_cons (stays_eq _) (stays_cons (stays_eq _) stays_nil)))))))))))))))))
  ·simp only [List.take_succ_cons, List.take_zero, hopsR, and_true]
   refine ⟨?_, ?_, ?_, ?_, ?_, ?_, ?_, ?_, ?_, ?_, ?_, ?_, ?_, ?_, ?_, ?_, ?_⟩ <;> intro fv w1 hb1 hp
   all_goals (have hc := (hL0.call (below_drew hb1)).fc; simp only [zF, Nat.reduceAdd] at hc; simp only [putsV, Act.put, zP, Nat.zero_add, Nat.reduceAdd])
   ·refine tyAt_none rfl ?_
    simp [tyUpon, execOp, go_sem, Act.eval, Below.refl]
   ·have h0 : (EV (.int .i64 0)) (fv 0) w1 := hp 0 (LC (by kernel_rfl))
    refine tyAt_none rfl ?_
    simp [tyUpon, execOp, go_sem, Act.eval, h0, Below.refl]
   ·have h1 : (EV (.bool false)) (fv 1) w1 := hp 1 (LC (by kernel_rfl))
    refine tyAt_none rfl ?_
    simp [tyUpon, execOp, go_sem, Act.eval, h1, Below.refl]
   ·have h2 : (EV (.bool false)) (fv 2) w1 := hp 2 (LC (by kernel_rfl))
    refine tyAt_yes (by simp [Region.wanted, yielded, h2]) ?_
    simp [tyUpon, execOp, go_sem, Act.eval, h2, Below.refl]
   ·have h3 : (EV (.int .i64 0)) (fv 3) w1 := hp 3 (LC (by kernel_rfl))
    have h2 : (EV (.bool false)) (fv 2) w1 := hp 2 (LC (by kernel_rfl))
    refine tyAt_yes (by simp [Region.wanted, yielded, h3, h2]) ?_
    simp [tyUpon, execOp, go_sem, Act.eval, h3, h2, Below.refl]
   ·have h2 : (EV (.bool false)) (fv 2) w1 := hp 2 (LC (by kernel_rfl))
    have h4 : (EV (.bool false)) (fv 4) w1 := hp 4 (LC (by kernel_rfl))
    refine tyAt_none rfl ?_
    simp [tyUpon, execOp, go_sem, Act.eval, h2, h4, Below.refl]
   ·have h5 : (EV (.bool false)) (fv 5) w1 := hp 5 (LC (by kernel_rfl))
    refine tyAt_none rfl ?_
    simp [tyUpon, execOp, go_sem, Act.eval, h5, Below.refl]
   ·have h6 : (EV (.bool false)) (fv 6) w1 := hp 6 (LC (by kernel_rfl))
    refine tyAt_yes (by simp [Region.wanted, yielded, h6]) ?_
    simp [tyUpon, execOp, go_sem, Act.eval, h6, Below.refl]
   ·have h6 : (EV (.bool false)) (fv 6) w1 := hp 6 (LC (by kernel_rfl))
    refine tyAt_yes (by simp [Region.wanted, yielded, h6]) ?_
    simp [tyUpon, execOp, go_sem, Act.eval, h6, Below.refl]
   ·have h7 : (EV (.slice no k nc9)) (fv 7) w1 := hp 7 (LC (by kernel_rfl))
    have h8 : (EV (.slice eo k ec9)) (fv 8) w1 := hp 8 (LC (by kernel_rfl))
    have h6 : (EV (.bool false)) (fv 6) w1 := hp 6 (LC (by kernel_rfl))
    refine tyAt_yes (by simp [Region.wanted, yielded, h7, h8, h6]) ?_
    refine ty_call (f := 18) (args := #[.slice no k nc9, .slice eo k ec9]) (by simp [execOp, go_sem, Act.eval, h7, h8, h6]) ?_
    exact (HSz.out _ _ w1 (PT.below hN (below_drew hb1)) (PT.below hE (below_drew hb1))).mono fun e w2 ⟨h1, h2⟩ => ⟨_, h1, rfl, h2⟩
   ·have h9 : (EV (.bool true)) (fv 9) w1 := hp 9 (LC (by kernel_rfl))
    have h6 : (EV (.bool false)) (fv 6) w1 := hp 6 (LC (by kernel_rfl))
    refine tyAt_yes (by simp [Region.wanted, yielded, h9, h6]) ?_
    simp [tyUpon, execOp, go_sem, Act.eval, h9, h6, Below.refl]
   ·have h6 : (EV (.bool false)) (fv 6) w1 := hp 6 (LC (by kernel_rfl))
    have h10 : (EV (.bool false)) (fv 10) w1 := hp 10 (LC (by kernel_rfl))
    refine tyAt_none rfl ?_
    simp [tyUpon, execOp, go_sem, Act.eval, h6, h10, Below.refl]
   ·have h11 : (EV (.bool false)) (fv 11) w1 := hp 11 (LC (by kernel_rfl))
    refine tyAt_none rfl ?_
    simp [tyUpon, execOp, go_sem, Act.eval, h11, Below.refl]
   ·have h12 : (EV (.bool false)) (fv 12) w1 := hp 12 (LC (by kernel_rfl))
    refine tyAt_yes (by simp [Region.wanted, yielded, h12]) ?_
    simp [tyUpon, execOp, go_sem, Act.eval, h12, hc, Below.refl]
   ·have h12 : (EV (.bool false)) (fv 12) w1 := hp 12 (LC (by kernel_rfl))
    refine tyAt_yes (by simp [Region.wanted, yielded, h12]) ?_
    refine ty_call (f := 12) (args := #[.int .i64 1]) (by simp [execOp, go_sem, Act.eval]) ?_
    exact (HI.out w1).mono fun e w2 ⟨h1, h2⟩ => ⟨_, h1, rfl, h2⟩
   ·have h13 : (EV (.agg #[.int .u64 ((zl one.num : Nat) : Int), .string (zh one.num), .bool (zs one.num), .int .u64 ((lo (fe one) : Nat) : Int), .string (hs (fe one))])) (fv 13) w1 := hp 13 (LC (by kernel_rfl))
    have h14 : (EV (.agg #[.int .u64 ((zl one.num : Nat) : Int), .string (zh one.num), .bool (zs one.num), .int .u64 ((lo (fe one) : Nat) : Int), .string (hs (fe one))])) (fv 14) w1 := hp 14 (LC (by kernel_rfl))
    have h12 : (EV (.bool false)) (fv 12) w1 := hp 12 (LC (by kernel_rfl))
    refine tyAt_yes (by simp [Region.wanted, yielded, h13, h14, h12]) ?_
    simp [tyUpon, execOp, go_sem, Act.eval, h13, h14, h12, hne, Below.refl]
   ·have h12 : (EV (.bool false)) (fv 12) w1 := hp 12 (LC (by kernel_rfl))
    have h15 : (EV (.bool false)) (fv 15) w1 := hp 15 (LC (by kernel_rfl))
    refine tyAt_none rfl ?_
    simp [tyUpon, execOp, go_sem, Act.eval, h12, h15, Below.refl]
  intro fv u1 hb1 hv
  have e0 : fv 0 = _ := hv 0 (by omega)
  have e1 : fv 1 = _ := hv 1 (by omega)
  have e2 : fv 2 = _ := hv 2 (by omega)
  have e3 : fv 3 = _ := hv 3 (by omega)
  have e4 : fv 4 = _ := hv 4 (by omega)
  have e5 : fv 5 = _ := hv 5 (by omega)
  have e6 : fv 6 = _ := hv 6 (by omega)
  have e7 : fv 7 = _ := hv 7 (by omega)
  have e8 : fv 8 = _ := hv 8 (by omega)
  have e9 : fv 9 = _ := hv 9 (by omega)
  have e10 : fv 10 = _ := hv 10 (by omega)
  have e11 : fv 11 = _ := hv 11 (by omega)
  have e12 : fv 12 = _ := hv 12 (by omega)
  have e13 : fv 13 = _ := hv 13 (by omega)
  have e14 : fv 14 = _ := hv 14 (by omega)
  have e15 : fv 15 = _ := hv 15 (by omega)
  have e16 : fv 16 = _ := hv 16 (by omega)
  simp only [List.take_succ_cons, List.take_zero, putsV, Act.put, zP, List.drop_succ_cons, List.drop_zero, Nat.zero_add, Nat.reduceAdd, e0, e1, e2, e3, e4, e5, e6, e7, e8, e9, e10, e11, e12, e13, e14, e15, e16]
  have hb9 := below_drew hb1
  clear hv hb1 e0 e1 e2 e3 e4 e5 e6 e7 e8 e9 e10 e11 e12 e13 e14 e15 e16 fv
  replace hL0 := hL0.call hb9
  replace hm1 := hm1.below hb9
  clear hb9 hN hE HI hne hweq HSo HAg HTu HAZ HDo
  have hA := hL0.fc
  simp only [zF, Nat.reduceAdd] at hA
  go_upto_region 18 with fail
  obtain ⟨y9, hy9⟩ : ∃ y, y = u1 := ⟨_, rfl⟩
  subst hy9
 case' inr =>
  clear hcase
  replace HSo := Lib.hid HSo
  replace HAg := Lib.hid HAg
  replace HSw := Lib.hid HSw
  go_wp2_with fail
  with_reducible refine Calls.mono (HSo.out _ _ _ (mt_of hm1 hcp.out hxr.out hxc.out) hy) ?_
  rintro e x7 ⟨⟨xv, kv, rfl, hX, hVK⟩, hb⟩
  replace hL0 := hL0.call hb
  replace hm1 := hm1.below hb
  replace hy := hy.below hb
  clear hA hb
  obtain ⟨xo, xc, rfl⟩ := ptn_form hX (tabV_len _ _)
  obtain ⟨ko, kc, rfl, -⟩ := vl_form9 hVK
  replace hL0 := hL0.new rfl [.slice xo k xc, .slice ko m kc] 90
  have hb := (Below.refl x7.heap.size x7).alloc (Nat.le_refl _) (.cells #[.slice xo k xc, .slice ko m kc] 90)
  generalize hweq : x7.alloc (.cells #[.slice xo k xc, .slice ko m kc] 90) = x8 at hL0 hb
  replace hm1 := hm1.below hb
  replace hy := hy.below hb
  replace hX := hX.below hb
  replace hVK := hVK.below hb
  clear hb
  have hA := hL0.fc
  simp only [zF, Nat.reduceAdd] at hA
  go_wp2_with fail
  with_reducible refine Calls.mono (HAg.out _ _ _ (mt_of hm1 hcp.out hxr.out hxc.out) hy) ?_
  rintro e x9 ⟨rfl, hb⟩
  replace hL0 := hL0.call hb
  replace hm1 := hm1.below hb
  replace hy := hy.below hb
  replace hX := hX.below hb
  replace hVK := hVK.below hb
  clear hA hb hweq
  have hA := hL0.fc
  simp only [zF, Nat.reduceAdd] at hA
  go_wp2_with fail
  with_reducible refine Calls.mono (HSw.out _ _ _ _ _ _ _ _ _ _ hm1 hcp.out hy hX hVK (hqv.out.below hL0.bl)) ?_
  rintro e y9 ⟨rfl, hb⟩
  replace hL0 := hL0.call hb
  replace hm1 := hm1.below hb
  clear hA hb hX hVK hy HSo HAg HSw
  have hA := hL0.fc
  simp only [zF, Nat.reduceAdd] at hA
  go_upto_region 18 with fail
 all_goals
  have hb0 := Below.refl y9.heap.size y9
  go_wp2_with fail
  with_reducible refine Calls.mono (HV2.out _ (hKV.out.at hL0.bl kKV)) ?_
  rintro e z1 ⟨⟨vv, rfl, hv⟩, hb⟩
  replace hL0 := hL0.call hb
  replace hm1 := hm1.below hb
  clear hA hb hb0
  obtain ⟨vo, vc, rfl⟩ := ptn_form hv hlv.out
  have hA := hL0.fc
  simp only [zF, Nat.reduceAdd] at hA
  go_wp2_with fail
  with_reducible refine Calls.mono (HAp.out _ _ _ (mt_of hm1 hcp.out hxr.out hxc.out) hv) ?_
  rintro e z2 ⟨mv9, rfl, hmd, hb⟩
  replace hL0 := hL0.call hb
  replace hm1 := hm1.below hb
  replace hv := hv.below hb
  clear hA hb
  obtain ⟨mo, mc9, rfl⟩ := ptn_form hmd hlm.out
  have hA := hL0.fc
  simp only [zF, Nat.reduceAdd] at hA
  go_wp2_with fail
  with_reducible refine Calls.mono (HS2.out _ _ _ (mt_of hm1 hcp.out hxr.out hxc.out) hmd) ?_
  rintro e z3 ⟨⟨xv2, kv2, rfl, hX, hVK⟩, hb⟩
  replace hL0 := hL0.call hb
  replace hm1 := hm1.below hb
  replace hv := hv.below hb
  replace hmd := hmd.below hb
  clear hA hb
  obtain ⟨xo, xc, rfl⟩ := ptn_form hX (tabV_len _ _)
  obtain ⟨ko, kc, rfl, -⟩ := vl_form9 hVK
  replace hL0 := hL0.new rfl [.slice xo k xc, .slice ko m kc] 90
  have hb := (Below.refl z3.heap.size z3).alloc (Nat.le_refl _) (.cells #[.slice xo k xc, .slice ko m kc] 90)
  generalize hweq : z3.alloc (.cells #[.slice xo k xc, .slice ko m kc] 90) = z4 at hL0 hb
  replace hm1 := hm1.below hb
  replace hv := hv.below hb
  replace hmd := hmd.below hb
  replace hX := hX.below hb
  replace hVK := hVK.below hb
  clear hb
  have hA := hL0.fc
  simp only [zF, Nat.reduceAdd] at hA
  go_wp2_with fail
  with_reducible refine Calls.mono (HSv.out _ _ _ _ _ _ _ _ _ _ hm1 hcp.out hmd hX hVK (hqv.out.below hL0.bl)) ?_
  rintro e z5 ⟨rfl, hb⟩
  replace hL0 := hL0.call hb
  replace hm1 := hm1.below hb
  replace hv := hv.below hb
  replace hX := hX.below hb
  replace hVK := hVK.below hb
  clear hA hb hweq hmd
  have hA := hL0.fc
  simp only [zF, Nat.reduceAdd] at hA
  go_wp2_with fail
  with_reducible refine Calls.mono (HRd.out _ _ (mt_of hm1 hcp.out hxr.out hxc.out)) ?_
  rintro e z6 ⟨⟨rb, rN, sv, rfl, hIL⟩, hb⟩
  replace hL0 := hL0.call hb
  replace hm1 := hm1.below hb
  replace hv := hv.below hb
  replace hX := hX.below hb
  replace hVK := hVK.below hb
  clear hA hb
  obtain ⟨po, pc2, rfl, -⟩ := il_form9 hIL hnp.out
  replace hL0 := hL0.new rfl [.int .i64 (n : Int), .int .i64 (k : Int), .slice (some ⟨rb, 0, none⟩) rN rN] 56
  have hb := (Below.refl z6.heap.size z6).alloc (Nat.le_refl _) (.cells #[.int .i64 (n : Int), .int .i64 (k : Int), .slice (some ⟨rb, 0, none⟩) rN rN] 56)
  generalize hweq : z6.alloc (.cells #[.int .i64 (n : Int), .int .i64 (k : Int), .slice (some ⟨rb, 0, none⟩) rN rN] 56) = y0 at hL0 hb
  replace hv := hv.below hb
  replace hX := hX.below hb
  replace hVK := hVK.below hb
  replace hIL := hIL.below hb
  clear hb
  have hA := hL0.fc
  simp only [zF, Nat.reduceAdd] at hA
  have hS := hX
  rw [← hS0.out] at hS
  clear hX hm1
  go_wp2_with fail
  clear hweq hA
  go_loopg [31, 32, 33] k (fun gk sv av kv wr => ∃ (j : Nat) (za zj : Int) (so : Option Addr) (at9 sc : Nat), j + gk = k ∧ sv = .slice so k sc ∧ av = .int .i64 za ∧ za = (at9 : Int) ∧ kv = .int .i64 zj ∧ zj = (j : Int) ∧ at9 = (freeL pv j).length ∧ PT wr (.slice so k sc) (tabV k (S at9)) ∧ Below y0.heap.size y0 wr)
  case atStart => exact ⟨0, 0, 0, _, 0, _, Nat.zero_add k, rfl, by first | rfl | go_num, rfl, by first | rfl | go_num, rfl, rfl, hS, Below.refl _ _⟩
  case round =>
   clear hS
   obtain ⟨j, za, zj, so, at9, sc, hjk, rfl, rfl, hza, rfl, hzj, hat, hS, hb⟩ := hrel
   have hL1 := hL0.call hb
   have hA := hL1.fc
   simp only [zF, Nat.reduceAdd] at hA
   have ham : at9 ≤ m := by rw [hat, ← hm.out]; obtain ⟨L9, hL9⟩ := free_pre pv j (k - j); rw [show j + (k - j) = k by omega] at hL9; rw [hL9, List.length_append]; omega
   have hend : k ≤ j → at9 = m := fun h => by rw [hat, ← hm.out, show j = k by omega]
   replace hat := Lib.hid hat
   replace hend := Lib.hid hend
   have a0 : (0 : Int) ≤ (at9 : Int) := Int.natCast_nonneg _
   have ab : (at9 : Int) ≤ 6 := by have := hm6.out; omega
   rcases Nat.lt_or_ge j k with hj | hj
   ·subst hzj hza
    have k1 : (j : Int) < (k : Int) := by omega
    have k0 : (0 : Int) ≤ (j : Int) := Int.natCast_nonneg _
    have kb : (j : Int) ≤ 6 := by have := hk.out; omega
    rcases Nat.lt_or_ge at9 m with ha | ha
    ·have a1 : (at9 : Int) < (m : Int) := by omega
     go_wp2_with fail
     obtain ⟨wo, hwo⟩ : ∃ wo, wo = wr := ⟨_, rfl⟩
     subst hwo
     have hIL' := hIL.below hb
     go_loopg [34, 35] np (fun gk2 bv iv wr2 => ∃ (p : Nat) (zp : Int) (b : Bool), p + gk2 = np ∧ bv = .bool b ∧ iv = .int .i64 zp ∧ zp = (p : Int) ∧ (b = true ↔ j ∈ pv.take p) ∧ wr2 = wo)
     case atStart => exact ⟨0, 0, false, Nat.zero_add np, rfl, by first | rfl | go_num, rfl, by simp, rfl⟩
     case round =>
      obtain ⟨p, zp, b, hpn, rfl, rfl, hzp, hbj, rfl⟩ := hrel
      rcases Nat.lt_or_ge p np with hp | hp
      ·subst hzp
       have m1 : (p : Int) < (np : Int) := by omega
       have m0 : (0 : Int) ≤ (p : Int) := Int.natCast_nonneg _
       have mb : (p : Int) ≤ 6 := by have := hp6.out; omega
       have hpp : p < pv.length := by rw [hnp.out]; exact hp
       obtain ⟨po9, pc9, hf9, hpc⟩ := il_form9 hIL' hnp.out
       obtain ⟨rfl, rfl⟩ : po = po9 ∧ pc2 = pc9 := by simpa using hf9
       obtain ⟨pg, hpg, hcl⟩ := hpc p hpp
       subst hpg
       clear hf9 hpc
       have htk := mem_take9 (j := j) hpp
       obtain ⟨q, hq⟩ : ∃ q, q = pv[p] := ⟨_, rfl⟩
       rw [← hq] at hcl htk
       replace htk := Lib.hid htk
       replace hpp := Lib.hid hpp
       clear hq
       cases b with
       | true =>
        go_wp2_with fail
        go_roundg (np - (p + 1))
        case measure => omega
        case rel => exact ⟨p + 1, _, true, by omega, rfl, by first | rfl | go_num, by omega, ⟨fun _ => htk.out.2 (.inl (hbj.1 (by first | trivial | rfl))), fun _ => by first | trivial | rfl⟩, rfl⟩
       | false =>
        have hnj : ¬ j ∈ pv.take p := fun h => by have := hbj.2 h; simp at this
        replace hnj := Lib.hid hnj
        clear hbj
        by_cases hqj : q = j
        ·have e1 : ((q : Int) == (j : Int)) = true := by rw [hqj]; simp
         have e2 : (q : Int) = (j : Int) := by rw [hqj]
         replace e2 := Lib.hid e2
         replace hqj := Lib.hid hqj
         go_wp2_with fail
         go_roundg (np - (p + 1))
         case measure => omega
         case rel => exact ⟨p + 1, _, _, by omega, rfl, by first | rfl | go_num, by omega, ⟨fun _ => htk.out.2 (.inr hqj.out), fun _ => by first | rfl | simpa using e1⟩, rfl⟩
        ·have e1 : ((q : Int) == (j : Int)) = false := by simp; omega
         have e2 : ¬ (q : Int) = (j : Int) := by omega
         replace hqj := Lib.hid hqj
         go_wp2_with fail
         go_roundg (np - (p + 1))
         case measure => omega
         case rel => exact ⟨p + 1, _, _, by omega, rfl, by first | rfl | go_num, by omega, ⟨fun h => by first | cases h | (exfalso; simp at h; exact e2 h), fun h => absurd h fun h => (htk.out.1 h).elim hnj.out hqj.out⟩, rfl⟩
      ·obtain rfl : np = p := by omega
       subst hzp
       have m1 : ¬ (np : Int) < (np : Int) := by omega
       have hbj2 : b = true ↔ j ∈ pv := by rw [hbj, ← hnp.out, List.take_length]
       clear hbj
       cases b with
       | true =>
        have hjm : j ∈ pv := hbj2.1 (by first | trivial | rfl)
        replace hjm := Lib.hid hjm
        clear hbj2
        have hfi : freeL pv (j + 1) = freeL pv j := free_in hjm.out
        replace hfi := Lib.hid hfi
        go_wp2_with fail
        go_roundg (k - (j + 1))
        case measure => omega
        case rel => exact ⟨j + 1, _, _, so, at9, sc, by omega, rfl, by first | rfl | go_num, by omega, by first | rfl | go_num, by omega, by rw [hfi.out]; exact hat.out, hS, hb⟩
       | false =>
        have hjn : j ∉ pv := fun h => by have := hbj2.2 h; simp at this
        replace hjn := Lib.hid hjn
        clear hbj2
        have hfo : freeL pv (j + 1) = freeL pv j ++ [j] := free_out hjn.out
        have hfa := free_at hjn.out hj
        rw [← hat.out] at hfa
        obtain ⟨vb, vbc, hvb⟩ := ptp9_form hv hlv.out (by omega)
        obtain ⟨rfl, rfl⟩ : vo = some ⟨vb, 0, none⟩ ∧ vc = vbc := by simpa using hvb
        obtain ⟨p0, p1, p2, p3, p4⟩ := fsc (slq_fsE (hv.below hb) (by rw [hlv.out]; omega)) j (by rw [hlv.out]; exact hj)
        have HA := HAx.out at9 ha
        rw [hfa] at HA
        obtain ⟨q, hq⟩ : ∃ q, q = gv lv j := ⟨_, rfl⟩
        rw [← hq] at p0 p1 p2 p3 p4 HA
        clear hq hvb hfa
        obtain ⟨ko9, kc9, hkf, hke⟩ := vl_form9 (hVK.below hb)
        obtain ⟨rfl, rfl⟩ : ko = ko9 ∧ kc = kc9 := by simpa using hkf
        obtain ⟨gk2, u2, hgk, hcv, hpv⟩ := hke at9 ha
        subst hgk
        clear hkf hke
        obtain ⟨gv9, gvc, rfl⟩ := ptp9_form hpv (tabV_len _ _) (by omega)
        have hold := Lib.hid (And.intro p0 (And.intro p1 (And.intro p2 (And.intro p3 p4))))
        clear p0 p1 p2 p3 p4
        replace HA := Lib.hid HA
        replace hfo := Lib.hid hfo
        go_upto_region 35 with fail
        refine region_tel 14 13 [EV (.slice (some ⟨vb, 0, none⟩) k vc), EV (.int .i64 (j : Int)), EV (.pointer (some ⟨vb, j * 5, none⟩)), EV (.agg #[.int .u64 ((zl q.num : Nat) : Int), .string (zh q.num), .bool (zs q.num), .int .u64 ((lo (fe q) : Nat) : Int), .string (hs (fe q))]), EV (.pointer (some ⟨z3.heap.size, 1, none⟩)), EV (.slice (some ⟨gk2, 0, none⟩) m kc), EV (.int .i64 (at9 : Int)), EV (.pointer (some ⟨gk2, at9, none⟩)), EV (.slice (some ⟨gv9, 0, none⟩) k gvc), EV (.slice so k sc), PE (tabV k (S (at9 + 1))) 0, PE (tabV k (S (at9 + 1))) 0, PP (tabV k (S (at9 + 1))), EV (.int .i64 0)] (by kernel_rfl) (by kernel_rfl) ?_ ?_ ?_ ?_
        ·exact (stays_cons (stays_eq _) (stays_cons (stays_eq _) (stays_cons (stays_eq _) (stays_cons (stays_eq _) (stays_cons (stays_eq _) (stays_cons (stays_eq _) (stays_cons (stays_eq _) (stays_cons (stays_eq _) (stays_cons (stays_eq _) (stays_cons (stays_eq _) (stays_cons (stays_pe _ _) (stays_cons (stays_pe _ _) (stays_cons (stays_pt _) (stays_cons (stays_eq _) stays_nil))))))))))))))
        ·simp only [List.take_succ_cons, List.take_zero, hopsR, and_true]
         refine ⟨?_, ?_, ?_, ?_, ?_, ?_, ?_, ?_, ?_, ?_, ?_, ?_, ?_, ?_⟩ <;> intro fv w1 hb1 hp
         all_goals (simp only [putsV, Act.put, zP, Nat.zero_add, Nat.reduceAdd])
         ·refine tyAt_none rfl ?_
          simp [tyUpon, execOp, go_sem, Act.eval, Below.refl]
         ·refine tyAt_none rfl ?_
          simp [tyUpon, execOp, go_sem, Act.eval, Below.refl]
         ·have h0 : (EV (.slice (some ⟨vb, 0, none⟩) k vc)) (fv 0) w1 := hp 0 (LC (by kernel_rfl))
          have h1 : (EV (.int .i64 (j : Int))) (fv 1) w1 := hp 1 (LC (by kernel_rfl))
          refine tyAt_none rfl ?_
          simp [tyUpon, execOp, go_sem, Act.eval, h0, h1, k0, k1, Below.refl]
         ·have h2 : (EV (.pointer (some ⟨vb, j * 5, none⟩))) (fv 2) w1 := hp 2 (LC (by kernel_rfl))
          refine tyAt_none rfl ?_
          obtain ⟨p0, p1, p2, p3, p4⟩ := hold.out
          replace p0 := keepsC (below_drew hb1) p0
          replace p1 := keepsC (below_drew hb1) p1
          replace p2 := keepsC (below_drew hb1) p2
          replace p3 := keepsC (below_drew hb1) p3
          replace p4 := keepsC (below_drew hb1) p4
          simp [tyUpon, execOp, go_sem, Act.eval, h2, p0, p1, p2, p3, p4, Below.refl]
         ·refine tyAt_none rfl ?_
          simp [tyUpon, execOp, go_sem, Act.eval, Below.refl]
         ·have h4 : (EV (.pointer (some ⟨z3.heap.size, 1, none⟩))) (fv 4) w1 := hp 4 (LC (by kernel_rfl))
          refine tyAt_none rfl ?_
          have hc := (hL1.call (below_drew hb1)).fc
          simp only [zF, Nat.reduceAdd] at hc
          simp [tyUpon, execOp, go_sem, Act.eval, h4, hc, Below.refl]
         ·refine tyAt_none rfl ?_
          simp [tyUpon, execOp, go_sem, Act.eval, Below.refl]
         ·have h5 : (EV (.slice (some ⟨gk2, 0, none⟩) m kc)) (fv 5) w1 := hp 5 (LC (by kernel_rfl))
          have h6 : (EV (.int .i64 (at9 : Int))) (fv 6) w1 := hp 6 (LC (by kernel_rfl))
          refine tyAt_none rfl ?_
          simp [tyUpon, execOp, go_sem, Act.eval, h5, h6, a0, a1, Below.refl]
         ·have h7 : (EV (.pointer (some ⟨gk2, at9, none⟩))) (fv 7) w1 := hp 7 (LC (by kernel_rfl))
          refine tyAt_none rfl ?_
          have hc := keepsC (below_drew hb1) hcv
          simp [tyUpon, execOp, go_sem, Act.eval, h7, hc, Below.refl]
         ·refine tyAt_none rfl ?_
          simp [tyUpon, execOp, go_sem, Act.eval, Below.refl]
         ·have h3 : (EV (.agg #[.int .u64 ((zl q.num : Nat) : Int), .string (zh q.num), .bool (zs q.num), .int .u64 ((lo (fe q) : Nat) : Int), .string (hs (fe q))])) (fv 3) w1 := hp 3 (LC (by kernel_rfl))
          have h8 : (EV (.slice (some ⟨gv9, 0, none⟩) k gvc)) (fv 8) w1 := hp 8 (LC (by kernel_rfl))
          have h9 : (EV (.slice so k sc)) (fv 9) w1 := hp 9 (LC (by kernel_rfl))
          refine tyAt_none rfl ?_
          refine ty_call (f := 47) (args := #[.agg #[.int .u64 ((zl q.num : Nat) : Int), .string (zh q.num), .bool (zs q.num), .int .u64 ((lo (fe q) : Nat) : Int), .string (hs (fe q))], .slice (some ⟨gv9, 0, none⟩) k gvc, .slice so k sc]) (by simp [execOp, go_sem, Act.eval, h3, h8, h9]) ?_
          exact (HA.out (.slice (some ⟨gv9, 0, none⟩) k gvc) (.slice so k sc) w1 (PT.below hpv (below_drew hb1)) (PT.below hS (below_drew hb1))).mono fun e w2 ⟨pv, h1, h2, h3⟩ => ⟨_, h1, ⟨pv, rfl, h2⟩, h3⟩
         ·have h10 : (PE (tabV k (S (at9 + 1))) 0) (fv 10) w1 := hp 10 (LC (by kernel_rfl))
          refine tyAt_none rfl ?_
          simp [tyUpon, execOp, go_sem, Act.eval, Below.refl]
          exact h10
         ·have h11 : (PE (tabV k (S (at9 + 1))) 0) (fv 11) w1 := hp 11 (LC (by kernel_rfl))
          refine tyAt_none rfl ?_
          obtain ⟨pa9, pe9, pz9⟩ := h11
          simp [tyUpon, execOp, go_sem, Act.eval, pe9, Below.refl]
          exact pz9
         ·have h11 : (PE (tabV k (S (at9 + 1))) 0) (fv 11) w1 := hp 11 (LC (by kernel_rfl))
          refine tyAt_none rfl ?_
          obtain ⟨pa9, pe9, pz9⟩ := h11
          simp [tyUpon, execOp, go_sem, Act.eval, pe9, Below.refl]
        ·intro fv w1 hb1 hv9
         obtain ⟨u11, e11, -⟩ : PE (tabV k (S (at9 + 1))) 0 (fv 11) w1 := hv9 11 (by omega) (by omega)
         refine ⟨fv 12, .int .i64 0, fun o ho => ?_, fun o ho => ?_, rfl⟩
         ·obtain rfl := Option.some.inj ho
          simp [putsV, Act.put, execOp, go_sem, Act.eval]
         ·obtain rfl := Option.some.inj ho
          simp [putsV, Act.put, execOp, go_sem, Act.eval, e11]
        ·intro fw u2 hb1 hv9
         have e0 : fw 0 = _ := hv9 0 (by omega)
         have e1 : fw 1 = _ := hv9 1 (by omega)
         have e2 : fw 2 = _ := hv9 2 (by omega)
         have e3 : fw 3 = _ := hv9 3 (by omega)
         have e4 : fw 4 = _ := hv9 4 (by omega)
         have e5 : fw 5 = _ := hv9 5 (by omega)
         have e6 : fw 6 = _ := hv9 6 (by omega)
         have e7 : fw 7 = _ := hv9 7 (by omega)
         have e8 : fw 8 = _ := hv9 8 (by omega)
         have e9 : fw 9 = _ := hv9 9 (by omega)
         obtain ⟨u10, e10, -⟩ := hv9 10 (by omega)
         obtain ⟨u11, e11, -⟩ := hv9 11 (by omega)
         have eP : PP _ (fw 12) u2 := hv9 12 (by omega)
         obtain ⟨so3, sc3, e12⟩ := ptn_form eP (tabV_len _ _)
         rw [e12] at eP
         have e13 : fw 13 = _ := hv9 13 (by omega)
         simp only [List.take_succ_cons, List.take_zero, putsV, Act.put, zP, List.drop_succ_cons, List.drop_zero, Nat.zero_add, Nat.reduceAdd, e0, e1, e2, e3, e4, e5, e6, e7, e8, e9, e10, e11, e12, e13]
         have hb9 := below_drew hb1
         clear hv9 hb1 e0 e1 e2 e3 e4 e5 e6 e7 e8 e9 e10 e11 e12 e13 fw
         replace hb := hb.trans (hb9.mono hb.size)
         clear hpv hcv hS HA hL1 hb9 hold hA
         go_wp2_with fail
         go_roundg (k - (j + 1))
         case measure => omega
         case rel => exact ⟨j + 1, _, _, so3, at9 + 1, sc3, by omega, rfl, by first | rfl | go_num, by omega, by first | rfl | go_num, by omega, by rw [hfo.out, List.length_append, ← hat.out]; rfl, eP, hb⟩
    ·obtain rfl : m = at9 := by omega
     have a1 : ¬ (m : Int) < (m : Int) := by omega
     have hv2 := hv.below hb
     skip
     rw [hSm.out] at hS
     go_wp2_with fail
     with_reducible refine Calls.mono (HSx.out _ _ _ hS hv2) ?_
     rintro e v1 ⟨rfl, hb3⟩
     replace hL1 := hL1.call hb3
     clear hb3 hA hS hv2
     have hA := hL1.fc
     simp only [zF, Nat.reduceAdd] at hA
     go_wp2_with fail
     with_reducible refine Calls.mono (HW.out _ (hKT.out.at hL1.bl kKT)) ?_
     rintro e v2 ⟨rfl, hb3⟩
     replace hL1 := hL1.call hb3
     clear hb3
     go_wp2_with fail
     exact bodyPost_ret (v := .bool true) (by simp [results, Tryz.results8, go_sem]) rfl ⟨rfl, hL1.bl⟩
   ·obtain rfl : k = j := by omega
    have e9 := hend.out (Nat.le_refl _)
    subst hzj hza
    subst e9
    have k1 : ¬ (k : Int) < (k : Int) := by omega
    have hv2 := hv.below hb
    skip
    rw [hSm.out] at hS
    go_wp2_with fail
    with_reducible refine Calls.mono (HSx.out _ _ _ hS hv2) ?_
    rintro e v1 ⟨rfl, hb3⟩
    replace hL1 := hL1.call hb3
    clear hb3 hA hS hv2
    have hA := hL1.fc
    simp only [zF, Nat.reduceAdd] at hA
    go_wp2_with fail
    with_reducible refine Calls.mono (HW.out _ (hKT.out.at hL1.bl kKT)) ?_
    rintro e v2 ⟨rfl, hb3⟩
    replace hL1 := hL1.call hb3
    clear hb3
    go_wp2_with fail
    exact bodyPost_ret (v := .bool true) (by simp [results, Tryz.results8, go_sem]) rfl ⟨rfl, hL1.bl⟩
end Go.Proofs.YthffglapmkkohaaGreatDoor
namespace Go.Proofs.YthffglapmkkohaaGreatDoor
open Go.RowKit
attribute [local irreducible] lo hs sm s64 c64 d64 b64 mh ml pd pc qd qc val hiB str cmpI srD lz nb zl zh zs fe rowV tabV gv bsV turM mulM sumM oneM appV formM tabM dotL sumL mulL nulL
theorem mMOf_w (zr zc : Int) (al : Option Addr) (nl cl sa sb : Nat) (x : Mx) (KA : World → Prop) (hKA : Keeps KA) (HS : ∀ (w : World), KA w → Calls Tryz.prog 40 #[.agg #[.int .u8 zr, .int .u8 zc, .slice al nl cl], .int .i64 (sa : Int), .int .i64 (sb : Int)] w fun e w' => ∃ pv, e = .returned pv ∧ MT w' pv x ∧ Below w.heap.size w w') (ea : Int.tmod zr 7 = (sa : Int)) (eb : Int.tmod zc 7 = (sb : Int)) (sa4 : (sa : Int) ≤ 6) (sb4 : (sb : Int) ≤ 6) (hx1 : (x.r : Int) = (sa : Int)) (hx2 : (x.c : Int) = (sb : Int)) (w : World) (kKA : KA w) :
  Calls Tryz.prog 23 #[.agg #[.int .u8 zr, .int .u8 zc, .slice al nl cl]] w fun e w' => ∃ pv, e = .returned pv ∧ MT w' pv x ∧ Below w.heap.size w w' := by
 replace hKA := Lib.hid hKA
 replace HS := Lib.hid HS
 have hL0 : GL w w [] := GL.start w
 have hT : PTs w [] := PTs.nil w
 have sa0 : (0 : Int) ≤ (sa : Int) := Int.natCast_nonneg _
 have sb0 : (0 : Int) ≤ (sb : Int) := Int.natCast_nonneg _
 replace hx1 := Lib.hid hx1
 replace hx2 := Lib.hid hx2
 replace hT := ((hT.new (.cells #[.int .u8 zr, .int .u8 zc, .slice al nl cl] 51)).new (.cells #[.int .i64 0, .int .i64 0, .slice none 0 0] 56))
 replace hL0 := ((hL0.new rfl [.int .u8 zr, .int .u8 zc, .slice al nl cl] 51).new (K := w.heap.size + 1) (szA _ _) [.int .i64 0, .int .i64 0, .slice none 0 0] 56)
 generalize hweq : ((w.alloc (.cells #[.int .u8 zr, .int .u8 zc, .slice al nl cl] 51)).alloc (.cells #[.int .i64 0, .int .i64 0, .slice none 0 0] 56)) = x1 at hL0 hT
 go_enter Tryz.func23, Tryz.ntmps23
 have hN0 := cells_of _ 0 [] rfl (hL0.get _ _ (mK mZ))
 simp only [zF, Nat.reduceAdd] at hN0
 go_wp2_with fail
 clear hN0
 with_reducible refine Calls.mono (HS.out _ (hKA.out.at (hL0.bl) kKA)) ?_
 rintro e x2 ⟨v0, rfl, q0, hb⟩
 replace hL0 := hL0.call hb
 replace hT := hT.call hb
 clear hb hweq
 obtain ⟨g1, d1, g1c, rfl, hm1, hcp1⟩ := mt_form q0 hx1.out hx2.out
 replace hcp1 := Lib.hid hcp1
 replace hT := hT.cons hm1
 clear hm1
 clear q0
 have hT1 := hT.putM ((((Upd.refl (w.heap.size + 1) x2).setCell 0 (.int .i64 (sa : Int))).setCell 1 (.int .i64 (sb : Int))).setCell 2 (.slice g1 d1 g1c)) (hL0.get _ _ mZ) (by intro n; simp)
 have hA := hL0.fc
 simp only [zF, Nat.reduceAdd] at hA
 have hP := hL0.put 0 (w.heap.size + 1) _ rfl [.int .i64 (sa : Int), .int .i64 (sb : Int), .slice g1 d1 g1c] rfl
 simp only [setAll, List.set_cons_zero, List.set_cons_succ] at hP
 generalize hput1 : (((x2.setCell ⟨w.heap.size + 1, 0, none⟩ (.int .i64 (sa : Int))).setCell ⟨w.heap.size + 1, 1, none⟩ (.int .i64 (sb : Int))).setCell ⟨w.heap.size + 1, 2, none⟩ (.slice g1 d1 g1c)) = x3 at hP hT1
 have hB1 := hP.fc
 simp only [zF, Nat.reduceAdd] at hB1
 replace hL0 := hP
 replace hT := hT1
 clear hT1
 go_wp2_with fail
 exact bodyPost_ret (v := .agg #[.int .i64 (sa : Int), .int .i64 (sb : Int), .slice g1 d1 g1c]) (by simp [results, Tryz.results23, go_sem, hB1]) rfl ⟨_, rfl, (mt_of (hT.get mZ) hcp1.out hx1.out hx2.out), hL0.bl⟩
end Go.Proofs.YthffglapmkkohaaGreatDoor
namespace Go.Proofs.YthffglapmkkohaaGreatDoor
open Go.RowKit
theorem t7e {z : Int} (h : 0 ≤ z) : ∃ d : Nat, Int.tmod z 7 = (d : Int) ∧ d ≤ 6 := by
 rw [Int.tmod_eq_emod_of_nonneg h]
 exact ⟨(z % 7).toNat, by omega, by omega⟩
theorem mmofE (ql : List (Int × Int)) (zr zc : Int) (al : Option Addr) (nl cl sa sb : Nat) (ea : Int.tmod zr 7 = (sa : Int)) (eb : Int.tmod zc 7 = (sb : Int)) (ha : sa ≤ 6) (hb : sb ≤ 6) (hn : nl ≤ 1000) (w : World) (hv : QV w (.slice al nl cl) ql) :
  Calls Tryz.prog 23 #[.agg #[.int .u8 zr, .int .u8 zc, .slice al nl cl]] w fun xe w' => ∃ u, xe = .returned u ∧ MT w' u (someM ql sa sb) ∧ Below w.heap.size w w' :=
 mMOf_w zr zc al nl cl sa sb (someM ql sa sb) (fun w => QV w (.slice al nl cl) ql) (QV.keeps _ _) (fun w h => msome_w ql sa sb nl zr zc al cl (by omega) (by omega) hn w h) ea eb (by omega) (by omega) rfl rfl w hv
theorem app_tab {x : Mx} {n k : Nat} {v : Nat → Rat} (h : ∀ r, r < n → (bsV k fun t => ent x r t * v t) = 0) : appV n k x (tabV k v) = nulL n :=
 tab_ext fun r hr => (bs_congr fun t ht => by rw [gv_tab ht]).trans (h r hr)
/-- The weights of the kernel's vectors. -/
def wtE (ql : List (Int × Int)) (nc : Nat) (d i : Nat) : Rat := if i < nc then qE ql i else ((i + d : Nat) : Rat)
theorem wt_sz {ql : List (Int × Int)} (h : ∀ p ∈ ql, QR p) (nc d i : Nat) (hi : i + d ≤ 100) : Sz (wtE ql nc d i) 1 := by
 unfold wtE
 split
 ·exact qE_sz h i
 ·refine szc _ ?_ ?_
  ·rw [Rat.num_natCast]; omega
  ·rw [Rat.den_natCast]; decide
end Go.Proofs.YthffglapmkkohaaGreatDoor
namespace Go.Proofs.YthffglapmkkohaaGreatDoor
open Go.RowKit
attribute [local irreducible] lo hs sm s64 c64 d64 b64 mh ml pd pc qd qc val hiB str cmpI srD lz nb zl zh zs fe rowV tabV gv bsV tabM
theorem evec_w (ql : List (Int × Int)) (n m : Nat) (hn : n ≤ 100) (hl : ql.length = m) (hm : m ≤ 100) (v : Value) (w : World) (hv : QV w v ql) :
  Calls Tryz.prog 49 #[v, .int .i64 (n : Int)] w fun xe w' => ∃ u, xe = .returned u ∧ SlQ w' u (vecM ql n) ∧ Below w.heap.size w w' := by
 obtain ⟨ao, c, rfl, hc, hc0, hq⟩ := hv
 rw [hl] at hq ⊢
 have hmk := fun W => makeV W (n : Int) n rfl (by omega)
 replace hq := Lib.hid hq
 replace hn := Lib.hid hn
 replace hm := Lib.hid hm
 replace hl := Lib.hid hl
 clear hc hc0
 have hL0 : GL w w [] := GL.start w
 obtain ⟨x1, hweq, hL0⟩ := GL.named (hL0.new rfl (frCs (List.replicate n 0)) 36)
 rw [← rowV_zero (qE ql) n] at hL0
 go_enter Tryz.func49, Tryz.ntmps49
 go_wp2_with fail
 clear hweq hmk
 obtain ⟨g, hg⟩ : ∃ g, g = w.heap.size := ⟨_, rfl⟩
 rw [← hg] at hL0 ⊢
 replace hg := Lib.hid hg
 go_loopg [6] n (fun gk iv wr => ∃ (k : Nat) (zi : Int), k + gk = n ∧ iv = .int .i64 zi ∧ zi = (k : Int) ∧ k ≤ m ∧ GL w wr [(g, frCs (rowV (qE ql) n k))])
 case atStart => exact ⟨0, 0, Nat.zero_add n, by first | rfl | go_num, rfl, Nat.zero_le _, hL0⟩
 case round =>
  clear hL0
  obtain ⟨k, zi, hik, rfl, hzi, hkm, hL0⟩ := hrel
  have hnn := hn.out
  have hend : ∀ wz, GL w wz [(g, frCs (rowV (qE ql) n k))] → (n ≤ k ∨ m ≤ k) → SlQ wz (.slice (some ⟨g, 0, none⟩) n n) (vecM ql n) := fun wz hz ho => by
   have e : rowV (qE ql) n k = vecM ql n := by
    rcases ho with h | h
    ·obtain rfl : k = n := by omega
     exact rowV_end _ _
    ·exact rowV_stop (by omega) fun i hi => qE_out (by rw [hl.out]; omega)
   rw [e] at hz
   exact .inr ⟨g, n, by rw [vecM, tabV_len], hd_fs (hz.get _ _ mZ)⟩
  replace hend := Lib.hid hend
  rcases Nat.lt_or_ge k n with hin | hin
  ·subst hzi
   have k1 : (k : Int) < (n : Int) := by omega
   have k0 : (0 : Int) ≤ (k : Int) := Int.natCast_nonneg _
   have kb : (k : Int) ≤ 1000 := by omega
   rcases Nat.lt_or_ge k m with him | him
   ·have k2 : (k : Int) < (m : Int) := by omega
    obtain ⟨a, rfl, hsl⟩ := hq.out (by omega)
    have hki : k < ql.length := by rw [hl.out]; exact him
    have e0 := (hsl.below hL0.bl).c0 k hki
    have e1 := (hsl.below hL0.bl).c1 k hki
    obtain ⟨⟨b1, b2⟩, b3, b4⟩ := hsl.rg ql[k] (List.getElem_mem hki)
    have HQ := qof_any ql[k].1 ql[k].2 b1 b2 b3 b4
    obtain ⟨q, hqq⟩ : ∃ q, q = qm ql[k] := ⟨_, rfl⟩
    rw [show qmade ql[k].1 ql[k].2.toNat = qm ql[k] from rfl, ← hqq] at HQ
    rw [← qE_in hki] at hqq
    generalize ql[k].1 = zn at *
    generalize ql[k].2 = zd at *
    replace HQ := Lib.hid HQ
    replace hqq := Lib.hid hqq
    rw [add_one] at e1
    clear hsl b1 b2 b3 b4 hend
    go_wp2_with fail
    with_reducible refine Calls.mono (HQ.out _) ?_
    rintro e y1 ⟨rfl, hb3⟩
    replace hL0 := hL0.call hb3
    clear hb3 e0 e1 HQ
    have zh := hL0.get _ _ mZ
    have hlen := rowV_len (qE ql) n k (Nat.le_of_lt hin)
    obtain ⟨z0, z1, z2, z3, z4⟩ := (hd_fs zh).cell k (by omega)
    have zz := zh.frz
    clear zh
    have hPt := hL0.putF 0 g (rowV (qE ql) n k) rfl k q (by omega)
    simp only [List.set_cons_zero, List.set_cons_succ] at hPt
    generalize hputr : (((((y1.setCell ⟨g, k * 5, none⟩ (.int .u64 ((zl q.num : Nat) : Int))).setCell ⟨g, k * 5 + 1, none⟩ (.string (zh q.num))).setCell ⟨g, k * 5 + 2, none⟩ (.bool (zs q.num))).setCell ⟨g, k * 5 + 3, none⟩ (.int .u64 ((lo (fe q) : Nat) : Int))).setCell ⟨g, k * 5 + 4, none⟩ (.string (hs (fe q)))) = y2 at hPt
    rw [hqq.out, rowV_step (qE ql) n k hin] at hPt
    clear hL0
    have hL0 := hPt
    clear hPt
    go_wp2_with fail
    go_roundg (n - (k + 1))
    case measure => omega
    case rel => exact ⟨k + 1, _, by omega, by first | rfl | go_num, by omega, by omega, hL0⟩
   ·have k2 : ¬ (k : Int) < (m : Int) := by omega
    have hs9 := Lib.hid (hend.out _ hL0 (.inr him))
    go_wp2_with fail
    exact bodyPost_ret (v := .slice (some ⟨g, 0, none⟩) n n) (by simp [results, Tryz.results49, go_sem]) rfl ⟨_, rfl, hs9.out, hL0.bl⟩
  ·have hs9 := Lib.hid (hend.out _ hL0 (.inl hin))
   subst hzi
   have k1 : ¬ (k : Int) < (n : Int) := by omega
   go_wp2_with fail
   exact bodyPost_ret (v := .slice (some ⟨g, 0, none⟩) n n) (by simp [results, Tryz.results49, go_sem]) rfl ⟨_, rfl, hs9.out, hL0.bl⟩
end Go.Proofs.YthffglapmkkohaaGreatDoor
namespace Go.Proofs.YthffglapmkkohaaGreatDoor
open Go.RowKit
theorem sum_bd {i : Nat} (h : i ≤ 6) : i * (55282 + 2) + 59890 ≤ 700000 := by omega
section
variable {x : Mx} {n k : Nat} (gx : GM x n k 1) (hn : n ≤ 6) (hk : k ≤ 6)
include gx hn hk
/-- Solve, with a right-hand side of bounded size. -/
theorem SolveE {b : List Rat} (hl : b.length = n) (hb : ∀ i, i < n → Sz (gv b i) 19) (p q : Value) (w : World) (hp : MT w p x) (hq : PT w q b) :
  Calls Tryz.prog 50 #[p, q] w fun e w' => (((∀ i, (dsA x b).pv.length ≤ i → i < n → (dsA x b).G i k = 0) ∧ ∃ xv kv, e = .returned (.tuple #[.agg #[xv, kv], .int .i64 0]) ∧ PT w' xv (tabV k (slA x b)) ∧ VLs w' kv ((List.range (frX x).length).map fun i => tabV k (kvX x i))) ∨
   (¬ (∀ i, (dsA x b).pv.length ≤ i → i < n → (dsA x b).G i k = 0) ∧ e = .returned (.tuple #[.agg #[.slice none 0 0, .slice none 0 0], .int .i64 6]))) ∧ Below w.heap.size w w' := by
 obtain ⟨u, rfl, hu⟩ := hp
 refine (esolve_w x (gx.ok (by omega) (by omega)) b (by rw [gx.r]; exact hl) 681943 (eszA gx (by omega) hk hb) (dsA x b) rfl u q w hu hq).mono ?_
 rintro e w' ⟨h, hbl⟩
 refine ⟨?_, hbl⟩
 rcases h with ⟨hz, g, v, rfl, hH, hV⟩ | ⟨⟨i, h1, h2, h3⟩, rfl⟩
 ·rw [gx.r, gx.c] at hz
  refine .inl ⟨hz, _, _, rfl, ?_, ?_⟩
  ·have e : tabV k (slA x b) = tabV x.c (solE (dsA x b).pv (ascE (dsA x b).pv (dsA x b).G (dsA x b).pv.length) x.c) := by rw [gx.c]; unfold slA rdA; rw [gx.c]
   rw [e]
   exact .inr ⟨g, x.c, by rw [tabV_len], hd_fs hH⟩
  ·rw [← kerA gx b]
   exact hV
 ·rw [gx.r] at h2
  rw [gx.c] at h3
  exact .inr ⟨fun h => h3 (h i h1 h2), rfl⟩
/-- Against. -/
theorem AgainstE {b : List Rat} (hl : b.length = n) (hb : ∀ i, i < n → Sz (gv b i) 1) (p q : Value) (w : World) (hp : MT w p x) (hq : PT w q b) :
  Calls Tryz.prog 51 #[p, q] w fun e w' => (((∀ i, (dsG x n k b).pv.length ≤ i → i < k + 1 → (dsG x n k b).G i n = 0) ∧ ∃ pv, e = .returned (.tuple #[pv, .int .i64 0]) ∧ PT w' pv (tabV n (slG x n k b))) ∨
   (¬ (∀ i, (dsG x n k b).pv.length ≤ i → i < k + 1 → (dsG x n k b).G i n = 0) ∧ e = .returned (.tuple #[.slice none 0 0, .int .i64 6]))) ∧ Below w.heap.size w w' := by
 obtain ⟨u, rfl, hu⟩ := hp
 have ox := gx.ok (by omega) (by omega)
 have oy := gx.tur.ok (by omega) (by omega)
 refine (eagainst_w x (turM n k x) ox oy gx.c.symm gx.r.symm b (by rw [gx.r]; exact hl) 663511 (eszG gx hn hk hb) (dsG x n k b) rfl (fun u w h => MTurnG gx (by omega) (by omega) u w h) u q w hu hq).mono ?_
 rintro e w' ⟨h, hbl⟩
 refine ⟨?_, hbl⟩
 rcases h with ⟨hz, g, rfl, hH⟩ | ⟨⟨i, h1, h2, h3⟩, rfl⟩
 ·exact .inl ⟨hz, _, rfl, .inr ⟨g, n, by rw [tabV_len]; rfl, hd_fs hH⟩⟩
 ·exact .inr ⟨fun h => h3 (h i h1 h2), rfl⟩
omit hn in
/-- The sizes of a solution and the kernel's vectors upon it. -/
theorem sum_sz {b : List Rat} (hb : ∀ i, i < n → Sz (gv b i) 19) (hz : ∀ i, (dsA x b).pv.length ≤ i → i < n → (dsA x b).G i k = 0) {W : Nat → Rat} (hW : ∀ i, i < (frX x).length → Sz (W i) 1) (i : Nat) (hi : i ≤ (frX x).length) (j : Nat) (hj : j < k) : Sz (smK (slA x b) W (kvX x) i j) 700000 := by
 have hl := fr_len gx
 have hs := fun j => slA_sz gx hk hb hz j
 rcases Nat.eq_zero_or_pos (frX x).length with h0 | h0
 ·obtain rfl : i = 0 := by omega
  exact (hs j).1.mono (by omega)
 ·have hV : ∀ a, a < (frX x).length → ∀ j, j < k → Sz (kvX x a j) 55282 := fun a ha j _ => kvX_sz gx hk ha j
  exact (smK_sz (T := 59890) (fun j _ => (hs j).2 h0) hW hV i hi j hj).mono (sum_bd (by omega))
/-- What the law asks of a solution. -/
theorem SolvesE {b : List Rat} (hl : b.length = n) (hb : ∀ i, i < n → Sz (gv b i) 19) (hz : ∀ i, (dsA x b).pv.length ≤ i → i < n → (dsA x b).G i k = 0) {ql : List (Int × Int)} {nc : Nat} (hq : ql.length = nc) (hc : nc ≤ 8) (hr : ∀ p ∈ ql, QR p)
  (g1 bo xo ko ca : Option Addr) (d1 c1 bc xc kc cc : Nat) (w : World) (h1 : PT w (.slice g1 d1 c1) x.l) (h2 : d1 ≤ c1) (h3 : PT w (.slice bo n bc) b) (h4 : PT w (.slice xo k xc) (tabV k (slA x b))) (h5 : VLs w (.slice ko (frX x).length kc) ((List.range (frX x).length).map fun i => tabV k (kvX x i))) (h6 : QV w (.slice ca nc cc) ql) :
  Calls Tryz.prog 53 #[.agg #[.int .i64 (n : Int), .int .i64 (k : Int), .slice g1 d1 c1], .slice bo n bc, .agg #[.slice xo k xc, .slice ko (frX x).length kc], .slice ca nc cc] w fun e w' => e = .returned (.bool true) ∧ Below w.heap.size w w' := by
 have hfx : freeL (pvX x) k = frX x := by unfold frX; rw [gx.c]
 have hfl := fr_len gx
 have hW : ∀ i, i < (frX x).length → Sz (wtE ql nc 1 i) 1 := fun i hi => wt_sz hr nc 1 i (by omega)
 have hVs : ∀ i, i < (frX x).length → ∀ j, j < k → Sz (kvX x i j) 55282 := fun i hi j _ => kvX_sz gx hk hi j
 have hSs := fun i hi j hj => sum_sz gx hk hb hz (W := wtE ql nc 1) hW i hi j hj
 obtain ⟨s1, s2⟩ := sol_is gx b hz
 have hap : ∀ v : Nat → Rat, (∀ r, r < n → (bsV k fun t => ent x r t * v t) = gv b r) → appV n k x (tabV k v) = b := fun v hv => by
  rw [← tab_gv' hl]
  exact tab_ext fun r hr => (bs_congr fun t ht => by rw [gv_tab ht]).trans (hv r hr)
 exact esolves_w n k (frX x).length (pvX x).length nc x ql (pvX x) (kvX x) (smK (slA x b) (wtE ql nc 1) (kvX x)) (wtE ql nc 1) (slA x b) b g1 bo xo ko ca d1 c1 bc xc kc cc
  (fun p w h => KernE gx (by omega) hk p w h)
  (fun p w h => RedE9 gx (by omega) hk p w h)
  (fun i hi p q w hp hq => AxpyE (n := k) (M := 700000) (tabV_len _ _) (tabV_len _ _) (by omega) (by omega) ((hW i hi).mono (by omega)) (tab_all fun j hj => (hVs i hi j hj).mono (by omega)) (tab_all fun j hj => hSs i (by omega) j hj) (tab_ext fun j hj => by rw [gv_tab hj, gv_tab hj]; rfl) p q w hp hq)
  (fun p q w hp hq => ApplyE gx (by omega) hk (M := 700000) (tabV_len _ _) (tab_all fun j hj => hSs 0 (Nat.zero_le _) j hj) (by omega) (by omega) (hap _ s1) p q w hp hq)
  (fun p q w hp hq => ApplyE gx (by omega) hk (M := 700000) (tabV_len _ _) (tab_all fun j hj => hSs _ (Nat.le_refl _) j hj) (by omega) (by omega) (hap _ fun r hr => by
   rw [smK_app (fun t => ent x r t) (fun i hi => ker_app gx hi r hr) _ (Nat.le_refl _)]; exact s1 r hr) p q w hp hq)
  (fun p q w hp hq => sameT (x := b) (n := n) (k := 19) ⟨hl, fun q hq => by
   obtain ⟨i, hi, rfl⟩ := List.getElem_of_mem hq
   rw [← gv_get hi]; exact hb i (by omega)⟩ (by omega) p q w hp hq)
  (fun i hi p q w hp hq => sameT (x := tabV k (kvX x i)) (n := k) (k := 55282) (GV.tab fun j hj => hVs i hi j hj) (by omega) p q w hp hq)
  (by rw [gx.r]) (by rw [gx.c]) hn hk (by rw [hfx]) rfl (by omega) hq hc hl (fun i hi => rfl) rfl (fun j _ hj => s2 j hj) (by omega) w h1 h2 h3 h4 h5 h6
end
theorem efred_any (l0 l1 l2 l3 : List (Int × Int)) (x0 y0 : Int) (a0 a1 a2 a3 : Option Addr) (n0 c0 n1 c1 n2 c2 n3 c3 : Nat) (b0 : 0 ≤ x0) (b1 : 0 ≤ y0) (w : World)
  (h0 : QV w (.slice a0 n0 c0) l0) (h1 : QV w (.slice a1 n1 c1) l1) (h2 : QV w (.slice a2 n2 c2) l2) (h3 : QV w (.slice a3 n3 c3) l3) (ht : Tab w) :
  Calls Tryz.prog 8 #[.agg #[.int .u8 x0, .int .u8 y0, .slice a0 n0 c0], .slice a1 n1 c1, .slice a2 n2 c2, .slice a3 n3 c3] w fun e w' => e = .returned (.bool true) ∧ Below w.heap.size w w' := by
 by_cases g1 : n0 ≤ 40
 case neg => exact efred_l x0 y0 a0 a1 a2 a3 n0 c0 n1 c1 n2 c2 n3 c3 (.inl fun v w h => efew_any [n0] false ⟨(fun h => by cases h), fun h => absurd (h n0 (by simp)) g1⟩ (by simp) v w h) Tab Keeps.tab eworks_any w ht
 have HF := fun (v : Value) (w : World) (h : FWs w v [n0]) => efew_any [n0] true ⟨fun _ l hl => by
  rw [List.mem_singleton.1 hl]; exact g1, fun _ => rfl⟩ (by simp) v w h
 by_cases g2 : 20 < n1
 ·exact efred_l x0 y0 a0 a1 a2 a3 n0 c0 n1 c1 n2 c2 n3 c3 (.inr (.inl ⟨HF, decide_eq_true (by omega), decide_eq_true g2⟩)) Tab Keeps.tab eworks_any w ht
 by_cases g3 : 20 < n2
 ·exact efred_l x0 y0 a0 a1 a2 a3 n0 c0 n1 c1 n2 c2 n3 c3 (.inr (.inr (.inl ⟨HF, decide_eq_false (by omega), decide_eq_false g2, decide_eq_true (by omega), decide_eq_true g3⟩))) Tab Keeps.tab eworks_any w ht
 by_cases g4 : 8 < n3
 ·exact efred_l x0 y0 a0 a1 a2 a3 n0 c0 n1 c1 n2 c2 n3 c3 (.inr (.inr (.inr ⟨HF, decide_eq_false (by omega), decide_eq_false g2, decide_eq_false (by omega), decide_eq_false g3, decide_eq_true (by omega), decide_eq_true g4⟩))) Tab Keeps.tab eworks_any w ht
 obtain ⟨na, ea, na6⟩ := t7e b0
 obtain ⟨nb, eb, nb6⟩ := t7e b1
 have gx := someM_gm (qv_rg h0) na nb
 have HMo := fun w hv => mmofE l0 x0 y0 a0 n0 c0 na nb ea eb na6 nb6 (by omega) w hv
 have HV1 := fun w hv => evec_w l1 na n1 (by omega) (qv_len h1) (by omega) (.slice a1 n1 c1) w hv
 have HV2 := fun w hv => evec_w l2 nb n2 (by omega) (qv_len h2) (by omega) (.slice a2 n2 c2) w hv
 have gb := vecM_gv (qv_rg h1) na
 have gv1 := vecM_gv (qv_rg h2) nb
 generalize someM l0 na nb = x at gx HMo
 generalize vecM l1 na = lb at gb HV1
 generalize vecM l2 nb = lv at gv1 HV2
 have hfx : freeL (pvX x) nb = frX x := by unfold frX; rw [gx.c]
 have hfl := fr_len gx
 have hb1 : ∀ i, i < na → Sz (gv lb i) 1 := fun i hi => gb.at i hi
 have hb19 : ∀ i, i < na → Sz (gv lb i) 19 := fun i hi => (gb.at i hi).mono (by omega)
 have gm := (gx.app gv1).mono (show nb * (1 + 1 + 1) + 1 ≤ 19 by omega)
 have hm19 : ∀ i, i < na → Sz (gv (appV na nb x lv) i) 19 := fun i hi => gm.at i hi
 have hmv : ∀ i, i < na → (bsV nb fun t => ent x i t * gv lv t) = gv (appV na nb x lv) i := fun i hi => (gv_tab (f := fun i => bsV nb fun t => ent x i t * gv lv t) hi).symm
 have hz2 : ∀ i, (dsA x (appV na nb x lv)).pv.length ≤ i → i < na → (dsA x (appV na nb x lv)).G i nb = 0 := (sol_iff9 gx (appV na nb x lv)).2 ⟨gv lv, hmv⟩
 have hone := one_of gx lb
 obtain ⟨W, hW⟩ : ∃ W : Nat → Rat, W = fun i => gv lv ((freeL (pvX x) nb).getD i 0) := ⟨_, rfl⟩
 have hW2 : W = fun i => gv lv ((frX x).getD i 0) := by rw [hW, hfx]
 have hW1 : ∀ i, i < (frX x).length → Sz (W i) 1 := fun i hi => by
  rw [hW2]
  exact gv1.at _ (by rw [← gx.c]; exact (fr_mem hi).1)
 have hSs := fun i hi j hj => sum_sz gx nb6 hm19 hz2 hW1 i hi j hj
 have hVs : ∀ i, i < (frX x).length → ∀ j, j < nb → Sz (kvX x i j) 55282 := fun i hi j _ => kvX_sz gx nb6 hi j
 have hSm : tabV nb (smK (slA x (appV na nb x lv)) W (kvX x) (frX x).length) = lv := by
  rw [hW2]
  exact (tab_ext fun j hj => ker_sum gx (appV na nb x lv) (v := gv lv) hmv hz2 j hj).trans (tab_gv' gv1.len)
 refine efred_law x0 y0 a0 a1 a2 a3 n0 c0 n1 c1 n2 c2 n3 c3 na nb (frX x).length (pvX x).length x (turM na nb x) l3 (pvX x) (kvX x) (smK (slA x (appV na nb x lv)) W (kvX x)) (slA x lb) (slA x (appV na nb x lv)) lb lv (appV na nb x lv) (tabV na (slG x na nb lb)) 1
  HF (fun w => QV w (.slice a0 n0 c0) l0) (QV.keeps _ _) HMo
  (fun w => QV w (.slice a1 n1 c1) l1) (QV.keeps _ _) (fun w h => (HV1 w h).mono fun e w' ⟨u, h1, h2, h3⟩ => ⟨⟨u, h1, h2⟩, h3⟩)
  (fun w => QV w (.slice a2 n2 c2) l2) (QV.keeps _ _) (fun w h => (HV2 w h).mono fun e w' ⟨u, h1, h2, h3⟩ => ⟨⟨u, h1, h2⟩, h3⟩)
  ?_
  (fun p q w hp hq => ApplyE gx (by omega) nb6 (M := 1) gv1.len gv1.sz (by omega) (by omega) rfl p q w hp hq)
  (fun p q w hp hq => (SolveE gx na6 nb6 gm.len hm19 p q w hp hq).mono fun e w' ⟨h, hb⟩ => h.elim (fun ⟨_, xv, kv, h1, h2, h3⟩ => ⟨⟨xv, kv, h1, h2, h3⟩, hb⟩) fun ⟨hn, _⟩ => absurd hz2 hn)
  (fun g1 bo xo ko d1 c1 bc xc kc w q1 q2 q3 q4 q5 q6 => SolvesE gx na6 nb6 gm.len hm19 hz2 (qv_len h3) (by omega) (qv_rg h3) g1 bo xo ko a3 d1 c1 bc xc kc c3 w q1 q2 q3 q4 q5 q6)
  (fun p w h => RedE9 gx (by omega) nb6 p w h)
  (fun i hi p q w hp hq => by
   have hc := hW1 i hi
   rw [hW] at hc
   exact AxpyE (n := nb) (M := 700000) (tabV_len _ _) (tabV_len _ _) (by omega) (by omega) (hc.mono (by omega)) (tab_all fun j hj => (hVs i hi j hj).mono (by omega)) (tab_all fun j hj => hSs i (by omega) j hj) (tab_ext fun j hj => by rw [gv_tab hj, gv_tab hj, hW]; rfl) p q w hp hq)
  (fun p q w hp hq => sameT (GV.nul nb) (by omega) p q w hp hq)
  (fun p q w hp hq => sameT gv1 (by omega) p q w hp hq)
  Tab Keeps.tab eworks_any
  (by rw [gx.r]) (by rw [gx.c]) (by rw [gx.tur.r]) (by rw [gx.tur.c]) na6 nb6 (by rw [hfx]) rfl (by omega) (qv_len h3) gb.len gv1.len gm.len (tabV_len _ _) rfl rfl hSm (by omega)
  (decide_eq_false (by omega)) (decide_eq_false g2) (decide_eq_false (by omega)) (decide_eq_false g3) (decide_eq_false (by omega)) (decide_eq_false g4) w h0 h1 h2 h3 ht
 by_cases hz1 : ∀ i, (dsA x lb).pv.length ≤ i → i < na → (dsA x lb).G i nb = 0
 ·have hn1 := hone.1 hz1
  exact .inr ⟨fun p q w hp hq => (SolveE gx na6 nb6 gb.len hb19 p q w hp hq).mono fun e w' ⟨h, hb⟩ => h.elim (fun ⟨_, xv, kv, h1, h2, h3⟩ => ⟨⟨xv, kv, h1, h2, h3⟩, hb⟩) fun ⟨hn, _⟩ => absurd hz1 hn,
   fun p q w hp hq => (AgainstE gx na6 nb6 gb.len hb1 p q w hp hq).mono fun e w' ⟨h, hb⟩ => h.elim (fun ⟨hy, _⟩ => absurd hy hn1) fun ⟨_, h1⟩ => ⟨h1, hb⟩,
   fun g1 bo xo ko d1 c1 bc xc kc w q1 q2 q3 q4 q5 q6 => SolvesE gx na6 nb6 gb.len hb19 hz1 (qv_len h3) (by omega) (qv_rg h3) g1 bo xo ko a3 d1 c1 bc xc kc c3 w q1 q2 q3 q4 q5 q6⟩
 ·have hy1 : ∀ i, (dsG x na nb lb).pv.length ≤ i → i < nb + 1 → (dsG x na nb lb).G i na = 0 := Classical.byContradiction fun hc => hz1 (hone.2 hc)
  obtain ⟨z1, z2⟩ := ag_is (x := x) (k := nb) lb hy1
  refine .inl ⟨fun p q w hp hq => (SolveE gx na6 nb6 gb.len hb19 p q w hp hq).mono fun e w' ⟨h, hb⟩ => h.elim (fun ⟨hy, _⟩ => absurd hy hz1) fun ⟨_, h1⟩ => ⟨h1, hb⟩,
   fun p q w hp hq => (AgainstE gx na6 nb6 gb.len hb1 p q w hp hq).mono fun e w' ⟨h, hb⟩ => h.elim (fun ⟨_, pv, h1, h2⟩ => ⟨pv, h1, h2, hb⟩) fun ⟨hn, _⟩ => absurd hy1 hn,
   fun p w hp => MTurnG gx (by omega) (by omega) p w hp,
   fun p q w hp hq => ApplyE gx.tur (by omega) na6 (M := 663511) (tabV_len _ _) (tab_all fun j hj => slG_sz gx na6 nb6 hb1 j hj) (by omega) (by omega) (app_tab fun r hr => (bs_congr fun t ht => by rw [turM, ent_tab hr ht]).trans (z1 r hr)) p q w hp hq,
   fun p q w hp hq => ?_⟩
  have hd := mDotV (tabV na (slG x na nb lb)) lb na 663511 (tabV_len _ _) gb.len (by omega) (by omega) (by omega) (tab_all fun j hj => slG_sz gx na6 nb6 hb1 j hj) (fun q hq => (gb.sz q hq).mono (by omega)) p q w hp.rq hq.rq
  rw [show (bsV na fun i => gv (tabV na (slG x na nb lb)) i * gv lb i) = 1 from (bs_congr fun t ht => by rw [gv_tab ht]; grind).trans z2] at hd
  exact hd
end Go.Proofs.YthffglapmkkohaaGreatDoor
namespace Go.Proofs.YthffglapmkkohaaGreatDoor
open Go.ChangeShapes Go.WideShapes Go.ChangeAt Go.RowKit
theorem own : ownKnob Tryz.prog.godebug = none := by kernel_rfl
theorem laidOut : laidOutB Tryz.prog = true := by kernel_rfl
theorem cells24 : Tryz.prog.cellsOf 30 = 1 := by kernel_rfl
/-- The variables that every row of this layer lists. -/
def laidAll : List (String × DataW Unit) := [("math/bits.deBruijn32tab", Rows.laid_math_bits_deBruijn32tab), ("math/bits.deBruijn64tab", Rows.laid_math_bits_deBruijn64tab), ("internal/strconv.uint64pow10", Rows.laid_internal_strconv_uint64pow10)]
theorem gPow : Tryz.prog.globalNamed "internal/strconv.uint64pow10" = some 3 := by kernel_rfl
theorem gPowType : (Tryz.prog.globals[3]?).map (·.type) = some 257 := by kernel_rfl
theorem cells20 : Tryz.prog.cellsOf 257 = 20 := by kernel_rfl
theorem tab_of {W : World} (h : laidMetH Tryz.prog laidAll W) : Tab W := by
 have h1 := laidMetH.filter (fun x => x.1 == "internal/strconv.uint64pow10") h
 have e : laidAll.filter (fun x => x.1 == "internal/strconv.uint64pow10") = [("internal/strconv.uint64pow10", Rows.laid_internal_strconv_uint64pow10)] := by kernel_rfl
 rw [e, MakeChecks.laidMetH_plain _ _ _ (by kernel_rfl)] at h1
 exact Lib.tabIs_of_head (rest := []) gPow gPowType Tryz.underlying257 Tryz.underlying30 cells24 cells20 (show laidMet Tryz.prog (("internal/strconv.uint64pow10", Lib.tabData .u64 Lib.pow10Tab) :: []) W from h1)
end Go.Proofs.YthffglapmkkohaaGreatDoor
namespace Go.Proofs.YthffglapmkkohaaGreatDoor
open Go.ChangeShapes Go.WideShapes Go.ChangeAt Go.RowKit Go.Joins
theorem cellsQ : Tryz.prog.cellsOf 40 = 2 := by kernel_rfl
theorem cellsI : Tryz.prog.cellsOf 2 = 1 := by kernel_rfl
theorem cellsU : Tryz.prog.cellsOf 38 = 1 := by kernel_rfl
end Go.Proofs.YthffglapmkkohaaGreatDoor
namespace Go.Proofs.YthffglapmkkohaaGreatDoor
open Go.ChangeShapes Go.WideShapes Go.ChangeAt Go.RowKit Go.Joins
section
variable {H : Type} {enc : TypeId × Value → H} {P : Program} {w : World} {base : Nat} {spare : Nat → Bool} {held : Bool}
end
theorem addaddV (a : Addr) (i j : Nat) : (a.add i).add j = a.add (i + j) := by
 unfold Addr.add
 by_cases h : i = 0
 ·subst h; simp
 ·by_cases h2 : j = 0
  ·subst h2; simp [h]
  ·simp [h, h2, Nat.add_assoc]
theorem qv_of {H : Type} {enc : TypeId × Value → H} {W : World} {base : Nat} {v : Value} {d : DataW H} {p : List MemPlace} (hv : Value.okWide Tryz.prog W .any base 22 v)
  (h : DataW.Trod enc Tryz.prog W 0 (fun _ => true) true 22 v d p) : ∃ a n c l, v = .slice a n c ∧ QV W (.slice a n c) l := by
 obtain ⟨a0, len, cap, rfl⟩ := okWide_slice Tryz.underlying22 hv
 obtain ⟨fuel, hf⟩ := h
 rcases Go.Deep.open_slice_pairs Tryz.underlying22 Tryz.underlying40 cellsQ rfl rfl cellsI cellsU hf with ⟨hcs, hx⟩ | ⟨a, len', cap', m, n, V0, V1, D0, D1, P0, P1, hcs, _, hl, _, hm, hx, hcell⟩
 ·simp [Value.cells] at hcs
  obtain ⟨rfl, rfl, rfl⟩ := hcs
  exact ⟨none, 0, 0, [], rfl, none, 0, rfl, Nat.le_refl _, fun _ => rfl, fun h => absurd h (Nat.lt_irrefl _)⟩
 ·simp [Value.cells] at hcs
  obtain ⟨rfl, rfl, rfl⟩ := hcs
  simp only [if_true] at hm
  by_cases h0 : len = 0
  ·subst h0
   exact ⟨some a, 0, cap, [], rfl, some a, cap, rfl, Nat.zero_le _, (fun h => by cases h), fun h => absurd h (Nat.lt_irrefl _)⟩
  have each : ∀ i, i < len → ∃ z : Int × Int, W.cell? (a.add (i * 2)) = some (.int .i64 z.1) ∧ W.cell? ((a.add (i * 2)).add 1) = some (.int .u32 z.2) ∧ (-9223372036854775808 ≤ z.1 ∧ z.1 < 9223372036854775808) ∧ 0 ≤ z.2 ∧ z.2 < 4294967296 := by
   intro i hi
   obtain ⟨e0, e1, g0, g1⟩ := hcell i (by omega)
   obtain ⟨x, y0, -, f0⟩ := DataW.trod_int Tryz.underlying2 g0
   obtain ⟨y, y1, -, f1⟩ := DataW.trod_int Tryz.underlying38 g1
   simp only [List.cons.injEq, and_true] at y0 y1
   rw [y0] at e0
   rw [y1] at e1
   have b0 := bounds_i64 f0
   have b1 := bounds_u32 f1
   exact ⟨(x, y), e0, by rw [addaddV]; exact e1, by omega, by omega⟩
  obtain ⟨q, hq⟩ := Go.Deep.choose_lt each
  refine ⟨some a, len, cap, (List.range len).map q, rfl, some a, cap, by simp, by simpa using hl, (fun h => by cases h), fun _ => ⟨a, rfl, fun i hi => ?_, fun i hi => ?_, fun z hz => ?_, ?_⟩⟩
  ·have hi' : i < len := by simpa using hi
   have := (hq i hi').1
   simpa using this
  ·have hi' : i < len := by simpa using hi
   have := (hq i hi').2.1
   simpa using this
  ·obtain ⟨i, hi, rfl⟩ := List.mem_map.1 hz
   exact (hq i (List.mem_range.1 hi)).2.2
  ·have e := (hq 0 (by omega)).1
   have := World.block_lt_of_cell? W _ e
   rw [add_blk] at this
   exact this
end Go.Proofs.YthffglapmkkohaaGreatDoor
namespace Go.Proofs.YthffglapmkkohaaGreatDoor
open Go.ChangeShapes Go.WideShapes Go.ChangeAt Go.RowKit Go.Joins
section
variable {H : Type} {enc : TypeId × Value → H} {P : Program} {w : World} {base : Nat} {spare : Nat → Bool} {held : Bool}
end
theorem qv_of_trod {H : Type} {enc : TypeId × Value → H} {W : World} {fuel : Nat} {v : Value} {y : DataW H × List MemPlace}
  (hf : DataW.trod enc Tryz.prog W 0 (fun _ => true) true fuel 22 [v] = some y) : ∃ a n c l, v = .slice a n c ∧ QV W (.slice a n c) l := by
 obtain ⟨d, p⟩ := y
 rcases Go.Deep.open_slice_pairs Tryz.underlying22 Tryz.underlying40 cellsQ rfl rfl cellsI cellsU hf with ⟨hcs, hx⟩ | ⟨a, len, cap, m, n, V0, V1, D0, D1, P0, P1, hcs, _, hl, _, hm, hx, hcell⟩
 ·simp only [List.cons.injEq, and_true] at hcs
  subst hcs
  exact ⟨none, 0, 0, [], rfl, none, 0, rfl, Nat.le_refl _, fun _ => rfl, fun h => absurd h (Nat.lt_irrefl _)⟩
 ·simp only [List.cons.injEq, and_true] at hcs
  subst hcs
  simp only [if_true] at hm
  by_cases h0 : len = 0
  ·subst h0
   exact ⟨some a, 0, cap, [], rfl, some a, cap, rfl, Nat.zero_le _, (fun h => by cases h), fun h => absurd h (Nat.lt_irrefl _)⟩
  have each : ∀ i, i < len → ∃ z : Int × Int, W.cell? (a.add (i * 2)) = some (.int .i64 z.1) ∧ W.cell? ((a.add (i * 2)).add 1) = some (.int .u32 z.2) ∧ (-9223372036854775808 ≤ z.1 ∧ z.1 < 9223372036854775808) ∧ 0 ≤ z.2 ∧ z.2 < 4294967296 := by
   intro i hi
   obtain ⟨e0, e1, g0, g1⟩ := hcell i (by omega)
   obtain ⟨x, y0, -, f0⟩ := DataW.trod_int Tryz.underlying2 g0
   obtain ⟨y, y1, -, f1⟩ := DataW.trod_int Tryz.underlying38 g1
   simp only [List.cons.injEq, and_true] at y0 y1
   rw [y0] at e0
   rw [y1] at e1
   have b0 := bounds_i64 f0
   have b1 := bounds_u32 f1
   exact ⟨(x, y), e0, by rw [addaddV]; exact e1, by omega, by omega⟩
  obtain ⟨q, hq⟩ := Go.Deep.choose_lt each
  refine ⟨some a, len, cap, (List.range len).map q, rfl, some a, cap, by simp, by simpa using hl, (fun h => by cases h), fun _ => ⟨a, rfl, fun i hi => ?_, fun i hi => ?_, fun z hz => ?_, ?_⟩⟩
  ·have hi' : i < len := by simpa using hi
   have := (hq i hi').1
   simpa using this
  ·have hi' : i < len := by simpa using hi
   have := (hq i hi').2.1
   simpa using this
  ·obtain ⟨i, hi, rfl⟩ := List.mem_map.1 hz
   exact (hq i (List.mem_range.1 hi)).2.2
  ·have e := (hq 0 (by omega)).1
   have := World.block_lt_of_cell? W _ e
   rw [add_blk] at this
   exact this
theorem cellsM : Tryz.prog.cellsOf 51 = 3 := by kernel_rfl
theorem m_of {H : Type} {enc : TypeId × Value → H} {W : World} {base : Nat} {v : Value} {d : DataW H} {p : List MemPlace} (hv : Value.okWide Tryz.prog W .any base 51 v)
  (h : DataW.Trod enc Tryz.prog W 0 (fun _ => true) true 51 v d p) : ∃ (x y : Int) (a : Option Addr) (n c : Nat) (l : List (Int × Int)), v = .agg #[.int .u8 x, .int .u8 y, .slice a n c] ∧ (0 ≤ x ∧ x < 256) ∧ (0 ≤ y ∧ y < 256) ∧ QV W (.slice a n c) l := by
 obtain ⟨v0, v1, v2, y0, y1, y2, m, rfl, rfl, rfl, h0, h1, h2⟩ := open_agg3 Tryz.underlying51 (by kernel_rfl) cellsM hv h
 obtain ⟨x, e0, -, f0⟩ := DataW.trod_int Tryz.underlying5 h0
 obtain ⟨y, e1, -, f1⟩ := DataW.trod_int Tryz.underlying5 h1
 simp only [List.cons.injEq, and_true] at e0 e1
 subst e0 e1
 obtain ⟨a, n, c, l, rfl, hq⟩ := qv_of_trod h2
 have b0 := bounds_u8 f0
 have b1 := bounds_u8 f1
 exact ⟨x, y, a, n, c, l, rfl, by omega, by omega, hq⟩
end Go.Proofs.YthffglapmkkohaaGreatDoor
