/-
  The law answers true at every input, and leaves its arguments as they were: a part of the proof. CONDITIONS: the package-level tables start as the program's text lays them (the card ties them).
-/
import Derived.Test.YtkdbhacimoaohaaGreatDoorZac
import Derived.Test.YtkdbhacimoaohaaGreatDoorRows
set_option linter.unusedVariables false
set_option linter.unusedSimpArgs false
set_option maxHeartbeats 16000000
set_option maxRecDepth 100000
namespace Go.Proofs.YtkdbhacimoaohaaGreatDoor
open Go.RowKit
attribute [local irreducible] lo hs sm s64 c64 d64 b64 mh ml pd pc qd qc val hiB str cmpI srD lz nb zl zh zs fe klT ordZ
theorem toL_take (l : List TI) (k : Nat) : toL (l.take k) = (toL l).take k := by unfold toL; rw [List.map_take]
theorem sumP (l : List TI) (K : Nat) (hv : VdL l) (hs : SzL (toL l) K) (hK : K ≤ 1000000) (hl : l.length ≤ 10000) (w : World) (v : Value) (h : PT w v l) :
  Calls Tryz.prog 41 #[v] w fun xe w' => ∃ v', xe = .returned v' ∧ PT w' v' (ofL (nfL (toL l))) ∧ Below w.heap.size w w' := by
 obtain ⟨ao, n, c, rfl, hn⟩ := pt_form h
 refine psum_w l ao n c 0 rfl hn.symm (by omega) hv (fun k hk w => addF _ _ K ?_ ?_ (by omega) w) (fun w => intF 0 (by omega) (by omega) w) psort_any clip_w w (pt_parts h).2
 ·rw [toL_take]; exact hs.coef k _
 ·exact hs.mem (t := toT l[k]) (List.mem_map.2 ⟨_, List.getElem_mem hk, rfl⟩)
theorem ofP (l : List TI) (K : Nat) (hs : VdL l → SzL (toL l) K) (hK : K ≤ 1000000) (hl : l.length ≤ 10000) (w : World) (v : Value) (h : PT w v l) :
  Calls Tryz.prog 35 #[v] w fun xe w' => ∃ v', xe = .returned (.tuple #[v', .int .i64 (errL l)]) ∧ PT w' v' (ofL (nrm l)) ∧ Below w.heap.size w w' := by
 obtain ⟨ao, n, c, rfl, hn⟩ := pt_form h
 exact pof_w l ao n c hn.symm (by omega) (fun i hi w => pfault_any _ w) (fun hv w hq => sumP l K hv (hs hv) hK hl w _ (pt_mk hn hq)) w (pt_parts h).2
theorem normP (l : List TI) (K : Nat) (hs : VdL l → SzL (toL l) K) (hK : K ≤ 1000000) (hl : l.length ≤ 10000) (w : World) (v : Value) (h : PT w v l) :
  Calls Tryz.prog 43 #[v] w fun xe w' => ∃ v', xe = .returned v' ∧ PT w' v' (ofL (nrm l)) ∧ Below w.heap.size w w' := by
 obtain ⟨ao, n, c, rfl, hn⟩ := pt_form h
 obtain ⟨b, hb⟩ : ∃ b : Bool, b = true ↔ (VdL l ∧ NF (toL l)) := by
  by_cases hc : VdL l ∧ NF (toL l)
  ·exact ⟨true, by simp [hc]⟩
  ·exact ⟨false, by simp [hc]⟩
 refine pnorm_w l ao n c b (errL l) hb (fun w hq => pok_w l ao n c b 0 rfl hb hn.symm (by omega) (fun i hi w => pfault_any _ w) (fun w => intF 0 (by omega) (by omega) w) (fun i hi h1 h2 w => (porder_any _ _ h1 h2 w).mono fun _ _ ⟨he, hb⟩ => ⟨he, hb.1⟩) w (pt_parts hq).2) (fun w hq => ofP l K hs hK hl w _ hq) w h
/-- .. of a normal form: the same terms. -/
theorem normN (p : TL) (hp : NF p) (hb : TB p 12) (K : Nat) (hs : SzL p K) (hK : K ≤ 1000000) (hl : p.length ≤ 10000) (w : World) (v : Value) (h : PT w v (ofL p)) :
  Calls Tryz.prog 43 #[v] w fun xe w' => ∃ v', xe = .returned v' ∧ PT w' v' (ofL p) ∧ Below w.heap.size w w' := by
 have := normP (ofL p) K (fun _ => by rw [toL_ofL]; exact hs) hK (by rw [show (ofL p).length = p.length from List.length_map _]; exact hl) w v h
 rwa [nrm_ofL hp hb] at this
theorem ofL_length (p : TL) : (ofL p).length = p.length := List.length_map _
theorem ofL_get {p : TL} {k : Nat} (h : k < p.length) (h2 : k < (ofL p).length) {a b : Nat} {q : Rat} (e : p[k] = (a, b, q)) : (ofL p)[k] = ((a : Int), (b : Int), q) := by
 have : (ofL p)[k]? = some ((a : Int), (b : Int), q) := by
  unfold ofL
  rw [List.getElem?_map, List.getElem?_eq_getElem h, e]; rfl
 exact (List.getElem?_eq_some_iff.1 this).2
/-- The degree of a normal form. -/
def degI (p : TL) : Int := match p.getLast? with | none => -1 | some t => ((t.1 : Nat) : Int) + ((t.2.1 : Nat) : Int)
theorem degI_at {p : TL} {m : Nat} (h : m + 1 = p.length) : degI p = ((p[m].1 : Nat) : Int) + ((p[m].2.1 : Nat) : Int) := by
 unfold degI
 have : p.getLast? = some p[m] := by rw [List.getLast?_eq_getElem?, show p.length - 1 = m by omega]; exact List.getElem?_eq_getElem (by omega)
 rw [this]
theorem degI_le {p : TL} {d : Nat} (h : TB p d) : degI p ≤ d := by
 unfold degI
 cases hg : p.getLast? with
 | none => simp only; omega
 | some t => have := h t (List.mem_of_getLast? hg); simp only; omega
theorem degI_ge (p : TL) : -1 ≤ degI p := by
 unfold degI
 cases p.getLast? <;> simp only <;> omega
theorem pdeg_w (l : List TI) (P : TL) (hPb : TB P 12) (hPl : P.length ≤ 10000) (ao : Option Addr) (n c : Nat) (d : Int) (hd : d = degI P)
  (HN : ∀ w : World, PT w (.slice ao n c) l → Calls Tryz.prog 43 #[.slice ao n c] w fun xe w' => ∃ v', xe = .returned v' ∧ PT w' v' (ofL P) ∧ Below w.heap.size w w')
  (w : World) (hq : PT w (.slice ao n c) l) :
  Calls Tryz.prog 57 #[.slice ao n c] w fun xe w' => xe = .returned (.int .i64 d) ∧ Below w.heap.size w w' := by
 replace HN := Lib.hid HN
 replace hq := Lib.hid hq
 replace hd := Lib.hid hd
 replace hPb := Lib.hid hPb
 replace hPl := Lib.hid hPl
 go_enter Tryz.func57, Tryz.ntmps57
 go_wp2_with fail
 with_reducible refine Calls.mono (HN.out w hq.out) ?_
 rintro e y1 ⟨v, rfl, hpt, hb⟩
 obtain ⟨a2, n2, c2, rfl, hn2⟩ := pt_form hpt
 have hpp := (pt_parts hpt).2
 have hnl : n2 = P.length := by rw [hn2]; exact List.length_map _
 clear hn2 hpt
 rcases Nat.eq_zero_or_pos n2 with h0 | h0
 ·subst h0
  have hdd := Lib.hid (show d = -1 from by rw [hd.out, List.eq_nil_of_length_eq_zero hnl.symm]; rfl)
  clear hpp hnl
  go_wp2_with fail
  go_ret
  exact ⟨by rw [hdd.out]; rfl, hb⟩
 ·obtain ⟨g, rfl, hts⟩ := hpp h0
  obtain ⟨m, hm⟩ : ∃ m, n2 = m + 1 := ⟨n2 - 1, by omega⟩
  have hmP : m < P.length := by omega
  have hmo : m < (ofL P).length := by rw [show (ofL P).length = P.length from List.length_map _]; exact hmP
  have hf := hts.cell m hmo
  obtain ⟨i, j, q, hP⟩ : ∃ i j q, P[m] = (i, j, q) := ⟨_, _, _, rfl⟩
  have ho := ofL_get hmP hmo hP
  simp only [ho] at hf
  have hij : i + j ≤ 12 := by have := hPb.out _ (List.getElem_mem hmP); rw [hP] at this; exact this
  have hdd := Lib.hid (show d = (i : Int) + (j : Int) from by rw [hd.out, degI_at (m := m) (by omega), hP])
  have hn3 := hPl.out
  have k3 : ¬ n2 = 0 := by omega
  have b1 : (((n2 : Nat) : Int) == 0) = false := by simp; omega
  have w1 : IntKind.i64.wrap ((n2 : Int) - 1) = (m : Int) := by simp [IntKind.wrap, IntKind.bits, IntKind.signed]; omega
  have w2 : wrap64 ((n2 : Int) - 1) = (m : Int) := by simp [wrap64]; omega
  have kk1 : (m : Int) < (n2 : Int) := by omega
  have kk0 : (0 : Int) ≤ (m : Int) := Int.natCast_nonneg _
  obtain ⟨s, hsm⟩ : ∃ s, s = (i : Int) + (j : Int) := ⟨_, rfl⟩
  have w3 : IntKind.i64.wrap ((i : Int) + (j : Int)) = s := by rw [hsm]; simp [IntKind.wrap, IntKind.bits, IntKind.signed]; omega
  have w4 : wrap64 ((i : Int) + (j : Int)) = s := by rw [hsm]; simp [wrap64]; omega
  rw [← hsm] at hdd
  replace hm := Lib.hid hm
  replace hsm := Lib.hid hsm
  replace hP := Lib.hid hP
  replace hij := Lib.hid hij
  replace h0 := Lib.hid h0
  clear hts hpp ho hn3 hnl
  obtain ⟨f0, f1, f2, f3, f4, f5, f6⟩ := hf
  have hL0 : GL y1 y1 [] := GL.start y1
  replace hL0 := hL0.new rfl [.int .i64 (i : Int), .int .i64 (j : Int), .int .u64 ((zl q.num : Nat) : Int), .string (zh q.num), .bool (zs q.num), .int .u64 ((lo (fe q) : Nat) : Int), .string (hs (fe q))] 80
  generalize hweq : y1.alloc (.cells #[.int .i64 (i : Int), .int .i64 (j : Int), .int .u64 ((zl q.num : Nat) : Int), .string (zh q.num), .bool (zs q.num), .int .u64 ((lo (fe q) : Nat) : Int), .string (hs (fe q))] 80) = y2 at hL0
  have hN0 := cells_of _ 0 [] rfl (hL0.get _ _ mZ)
  simp only [zF, Nat.reduceAdd] at hN0
  go_wp2_with fail
  go_ret
  exact ⟨by rw [hdd.out]; rfl, hb.trans (hL0.bl.mono hb.size)⟩
theorem degP (l : List TI) (K : Nat) (hs : VdL l → SzL (toL l) K) (hK : K ≤ 1000000) (hl : l.length ≤ 10000) (w : World) (v : Value) (h : PT w v l) :
  Calls Tryz.prog 57 #[v] w fun xe w' => xe = .returned (.int .i64 (degI (nrm l))) ∧ Below w.heap.size w w' := by
 obtain ⟨ao, n, c, rfl, hn⟩ := pt_form h
 exact pdeg_w l (nrm l) (nrm_tb l) (Nat.le_trans (nrm_len l) hl) ao n c _ rfl (fun w hq => normP l K hs hK hl w _ hq) w h
def coefZ (P : TL) (i j : Int) : Rat := match P.find? (fun t => decide (((t.1 : Nat) : Int) = i ∧ ((t.2.1 : Nat) : Int) = j)) with | none => 0 | some t => t.2.2
theorem coefZ_at {P : TL} {i j : Int} {k : Nat} (hk : k < P.length) (h1 : ((P[k].1 : Nat) : Int) = i ∧ ((P[k].2.1 : Nat) : Int) = j) (h2 : ∀ m (hm : m < k), ¬ (((P[m].1 : Nat) : Int) = i ∧ ((P[m].2.1 : Nat) : Int) = j)) : coefZ P i j = P[k].2.2 := by
 unfold coefZ
 have : P.find? (fun t => decide (((t.1 : Nat) : Int) = i ∧ ((t.2.1 : Nat) : Int) = j)) = some P[k] := by
  rw [List.find?_eq_some_iff_getElem]
  exact ⟨decide_eq_true h1, k, hk, rfl, fun m hm => by simp only [Bool.not_eq_true', decide_eq_false_iff_not]; exact h2 m hm⟩
 rw [this]
theorem coefZ_none {P : TL} {i j : Int} (h2 : ∀ m (hm : m < P.length), ¬ (((P[m].1 : Nat) : Int) = i ∧ ((P[m].2.1 : Nat) : Int) = j)) : coefZ P i j = 0 := by
 unfold coefZ
 have : P.find? (fun t => decide (((t.1 : Nat) : Int) = i ∧ ((t.2.1 : Nat) : Int) = j)) = none := by
  rw [List.find?_eq_none]
  intro t ht
  obtain ⟨m, hm, rfl⟩ := List.getElem_of_mem ht
  have := h2 m hm
  simpa using this
 rw [this]
theorem pcoef_w (l : List TI) (P : TL) (hPl : P.length ≤ 10000) (ao : Option Addr) (n c : Nat) (i j : Int) (r z0 : Rat) (hr : r = coefZ P i j) (hz0 : z0 = 0)
  (HN : ∀ w : World, PT w (.slice ao n c) l → Calls Tryz.prog 43 #[.slice ao n c] w fun xe w' => ∃ v', xe = .returned v' ∧ PT w' v' (ofL P) ∧ Below w.heap.size w w')
  (HI : ∀ w : World, Calls Tryz.prog 20 #[.int .i64 0] w fun xe w' => xe = .returned (fracV z0) ∧ Below w.heap.size w w')
  (w : World) (hq : PT w (.slice ao n c) l) :
  Calls Tryz.prog 61 #[.slice ao n c, .int .i64 i, .int .i64 j] w fun xe w' => xe = .returned (fracV r) ∧ Below w.heap.size w w' := by
 replace HN := Lib.hid HN
 replace HI := Lib.hid HI
 replace hq := Lib.hid hq
 replace hr := Lib.hid hr
 replace hz0 := Lib.hid hz0
 replace hPl := Lib.hid hPl
 have hL0 : GL w w [] := GL.start w
 obtain ⟨x1, hweq, hL0⟩ := GL.named (hL0.new rfl [.int .u64 0, .string ⟨#[]⟩, .bool false, .int .u64 0, .string ⟨#[]⟩] 38)
 go_enter Tryz.func61, Tryz.ntmps61
 go_wp2_with fail
 with_reducible refine Calls.mono (HN.out x1 (hq.out.below hL0.bl)) ?_
 rintro e y1 ⟨v, rfl, hpt, hb⟩
 replace hL0 := hL0.call hb
 clear hb hweq
 obtain ⟨a2, n2, c2, rfl, hn2⟩ := pt_form hpt
 have hpp := Lib.hid (pt_parts hpt).2
 have hnl : n2 = P.length := by rw [hn2]; exact List.length_map _
 have hnb : n2 ≤ 10000 := by rw [hnl]; exact hPl.out
 replace hnl := Lib.hid hnl
 clear hn2 hpt
 generalize hbx : w.heap.size = bx at hL0
 replace hbx := Lib.hid hbx
 go_wp2_with fail
 go_loopg [12] n2 (fun gk iv wr => ∃ (k : Nat) (zi : Int), k + gk = n2 ∧ iv = .int .i64 zi ∧ zi = (k : Int) ∧ (∀ m (hm : m < P.length), m < k → ¬ (((P[m].1 : Nat) : Int) = i ∧ ((P[m].2.1 : Nat) : Int) = j)) ∧ Below y1.heap.size y1 wr ∧ GL w wr [(bx, [.int .u64 0, .string ⟨#[]⟩, .bool false, .int .u64 0, .string ⟨#[]⟩])])
 case atStart => exact ⟨0, 0, Nat.zero_add n2, by first | rfl | go_num, rfl, fun m _ h => absurd h (Nat.not_lt_zero _), Below.refl _ _, hL0⟩
 case round =>
  clear hL0
  obtain ⟨k, zi, hik, rfl, hzi, hno, hB, hL0⟩ := hrel
  replace hno := Lib.hid hno
  rcases Nat.lt_or_ge k n2 with hin | hin
  ·subst hzi
   have hkP : k < P.length := by rw [← hnl.out]; exact hin
   have hko : k < (ofL P).length := by rw [show (ofL P).length = P.length from List.length_map _]; exact hkP
   obtain ⟨g, rfl, hts⟩ := hpp.out (by omega)
   have hf := (hts.below hB).cell k hko
   have k1 : (k : Int) < (n2 : Int) := by omega
   have k0 : (0 : Int) ≤ (k : Int) := Int.natCast_nonneg _
   obtain ⟨a, b, q, hP⟩ : ∃ a b q, P[k] = (a, b, q) := ⟨_, _, _, rfl⟩
   have ho := ofL_get hkP hko hP
   simp only [ho] at hf
   obtain ⟨ai, hai⟩ : ∃ ai, ai = (a : Int) := ⟨_, rfl⟩
   obtain ⟨bi, hbi⟩ : ∃ bi, bi = (b : Int) := ⟨_, rfl⟩
   rw [← hai, ← hbi] at hf
   replace hai := Lib.hid hai
   replace hbi := Lib.hid hbi
   replace hP := Lib.hid hP
   clear ho hts
   obtain ⟨f0, f1, f2, f3, f4, f5, f6⟩ := hf
   have hsz : wr.heap.size = wr.heap.size := rfl
   replace hL0 := hL0.new rfl [.int .i64 ai, .int .i64 bi, .int .u64 ((zl q.num : Nat) : Int), .string (zh q.num), .bool (zs q.num), .int .u64 ((lo (fe q) : Nat) : Int), .string (hs (fe q))] 80
   generalize hweq : wr.alloc (.cells #[.int .i64 ai, .int .i64 bi, .int .u64 ((zl q.num : Nat) : Int), .string (zh q.num), .bool (zs q.num), .int .u64 ((lo (fe q) : Nat) : Int), .string (hs (fe q))] 80) = y2 at hL0
   have hB2 : Below y1.heap.size y1 y2 := by rw [← hweq]; exact hB.alloc hB.size _
   have hN0 := cells_of _ 0 [] rfl (hL0.get _ _ mZ)
   simp only [zF, Nat.reduceAdd] at hN0
   clear hsz
   by_cases hc : ai = i ∧ bi = j
   ·obtain ⟨hc1, hc2⟩ := hc
    have hrr : r = q := by
     rw [hr.out, coefZ_at hkP (by rw [hP.out]; exact ⟨hai.out.symm.trans hc1, hbi.out.symm.trans hc2⟩) (fun m hm => hno.out m (by omega) hm), hP.out]
    replace hrr := Lib.hid hrr
    subst hc1 hc2
    have hN1 := cells_of _ 0 [] rfl (hL0.get _ _ (mK mZ))
    simp only [zF, Nat.reduceAdd] at hN1
    have hA := hL0.fc
    simp only [zF, Nat.reduceAdd] at hA
    have hPt := hL0.put 1 bx _ rfl [.int .u64 ((zl q.num : Nat) : Int), .string (zh q.num), .bool (zs q.num), .int .u64 ((lo (fe q) : Nat) : Int), .string (hs (fe q))] rfl
    simp only [setAll, List.set_cons_zero, List.set_cons_succ] at hPt
    clear hN0 hN1
    generalize hput1 : (((((y2.setCell ⟨bx, 0, none⟩ (.int .u64 ((zl q.num : Nat) : Int))).setCell ⟨bx, 1, none⟩ (.string (zh q.num))).setCell ⟨bx, 2, none⟩ (.bool (zs q.num))).setCell ⟨bx, 3, none⟩ (.int .u64 ((lo (fe q) : Nat) : Int))).setCell ⟨bx, 4, none⟩ (.string (hs (fe q)))) = y3 at hPt
    have hB1 := hPt.fc
    simp only [zF, Nat.reduceAdd] at hB1
    go_wp2_with fail
    exact bodyPost_ret (v := fracV q) (by simp [results, Tryz.results61, go_sem, hB1]) rfl ⟨by rw [hrr.out], hPt.bl⟩
   ·have hno2 := Lib.hid (show ∀ m (hm : m < P.length), m < k + 1 → ¬ (((P[m].1 : Nat) : Int) = i ∧ ((P[m].2.1 : Nat) : Int) = j) from fun m hm hmk => by
     rcases Nat.lt_or_ge m k with h | h
     ·exact hno.out m hm h
     ·obtain rfl : m = k := by omega
      rw [hP.out]
      intro h
      exact hc ⟨hai.out.trans h.1, hbi.out.trans h.2⟩)
    have hL1 := hL0.weak (List.Sublist.cons _ (List.Sublist.refl _))
    replace hL1 := Lib.hid hL1
    rcases (show (ai == i) = false ∨ ((ai == i) = true ∧ (bi == j) = false) from by
     by_cases h1 : ai = i
     ·exact .inr ⟨by simpa using h1, by simpa using fun h => hc ⟨h1, h⟩⟩
     ·exact .inl (by simpa using h1)) with b1 | ⟨b1, b2⟩
    all_goals (
     replace hc := Lib.hid hc
     go_wp2_with fail
     go_roundg (gk - 1)
     case measure => omega
     case rel => exact ⟨k + 1, _, by omega, by first | rfl | go_num, by omega, hno2.out, hB2, hL1.out⟩)
  ·obtain rfl : k = n2 := by omega
   subst hzi
   have k1 : ¬ (k : Int) < (k : Int) := by omega
   have hrr : r = z0 := by rw [hr.out, hz0.out]; exact coefZ_none fun m hm => hno.out m hm (by rw [hnl.out]; exact hm)
   replace hrr := Lib.hid hrr
   go_wp2_with fail
   with_reducible refine Calls.mono (HI.out _) ?_
   rintro e y2 ⟨rfl, hb⟩
   replace hL0 := hL0.call hb
   clear hb
   have hA := hL0.fc
   simp only [zF, Nat.reduceAdd] at hA
   have hPt := hL0.put 0 bx _ rfl [.int .u64 ((zl z0.num : Nat) : Int), .string (zh z0.num), .bool (zs z0.num), .int .u64 ((lo (fe z0) : Nat) : Int), .string (hs (fe z0))] rfl
   simp only [setAll, List.set_cons_zero, List.set_cons_succ] at hPt
   generalize hput1 : (((((y2.setCell ⟨bx, 0, none⟩ (.int .u64 ((zl z0.num : Nat) : Int))).setCell ⟨bx, 1, none⟩ (.string (zh z0.num))).setCell ⟨bx, 2, none⟩ (.bool (zs z0.num))).setCell ⟨bx, 3, none⟩ (.int .u64 ((lo (fe z0) : Nat) : Int))).setCell ⟨bx, 4, none⟩ (.string (hs (fe z0)))) = y3 at hPt
   have hB1 := hPt.fc
   simp only [zF, Nat.reduceAdd] at hB1
   go_wp2_with fail
   exact bodyPost_ret (v := fracV z0) (by simp [results, Tryz.results61, go_sem, hB1]) rfl ⟨by rw [hrr.out], hPt.bl⟩
theorem coefP (l : List TI) (i j : Int) (K : Nat) (hs : VdL l → SzL (toL l) K) (hK : K ≤ 1000000) (hl : l.length ≤ 10000) (w : World) (v : Value) (h : PT w v l) :
  Calls Tryz.prog 61 #[v, .int .i64 i, .int .i64 j] w fun xe w' => xe = .returned (fracV (coefZ (nrm l) i j)) ∧ Below w.heap.size w w' := by
 obtain ⟨ao, n, c, rfl, hn⟩ := pt_form h
 exact pcoef_w l (nrm l) (Nat.le_trans (nrm_len l) hl) ao n c i j _ 0 rfl rfl (fun w hq => normP l K hs hK hl w _ hq) (fun w => intF 0 (by omega) (by omega) w) w h
end Go.Proofs.YtkdbhacimoaohaaGreatDoor
namespace Go.Proofs.YtkdbhacimoaohaaGreatDoor
open Go.RowKit
attribute [local irreducible] lo hs sm s64 c64 d64 b64 mh ml pd pc qd qc val hiB str cmpI srD lz nb zl zh zs fe klT ordZ
theorem run_append_pt {w : World} {B n : Nat} {v : Value} {L : List TI} (h : OwnT w B v n L) (c : Nat) (ty : TypeId) {i : TypeInfo} (hi : Tryz.prog.info? 80 = some i) :
  (Builtin.append_ #[30, 30] ty #[v, .slice none 0 c]).run Tryz.prog w = .ok v w := by
 rcases h.2 with ⟨rfl, rfl⟩ | ⟨g, cap, cur, rfl, _, _, hnc, _⟩
 ·simp [Builtin.append_, run_underlying Tryz.underlying30, sizeOf, typeInfo, hi, Builtin.lenOf, Builtin.firstCells]
 ·simp [Builtin.append_, run_underlying Tryz.underlying30, sizeOf, typeInfo, hi, Builtin.lenOf, Builtin.firstCells, hnc, storeCells]
/-- append(v, u...) of terms onto a slice of one's own. -/
theorem wp_append_pt {w : World} {ops : Array Oper} {rest : List Oper} {o : Oper} {a : Act} {Q : Exit → Act → World → Prop} (hgd : o.guard = none) (s x : Operand)
  (ho : o.op = .call { callee := .builtin .append, args := #[s, x], argTypes := #[30, 30] }) (B : Nat) (v : Value) (n : Nat) (L : List TI) (hs : a.eval s = v) (hown : OwnT w B v n L) (u : Value) (l : List TI) (hx : a.eval x = u) (hu : PT w u l)
  (hn : n ≤ 100000) (hl : l.length ≤ 100000) (hbase : B ≤ w.heap.size)
  (h : ∀ v' w', OwnT w' B v' (n + l.length) (L ++ l) → w.grownBy w' v.ownBlock → wpList Tryz.prog ops Q rest (a.put o.dst v') w') : wpList Tryz.prog ops Q (o :: rest) a w := by
 obtain ⟨i0, hi, hz1, hz2, hz3⟩ := info_parts infoT
 have key : ∀ (g c m : Nat), u = .slice (some ⟨g, 0, none⟩) m c → m = l.length → (∀ j e, (tmCs l)[j]? = some e → w.cell? ⟨g, j, none⟩ = some e) → wpList Tryz.prog ops Q (o :: rest) a w := by
  intro g c m hu2 hm hc
  refine wpList_append_own w hgd s x 30 ho B 80 i0 (.agg #[.int .i64 0, .int .i64 0, .int .u64 0, .string ⟨#[]⟩, .bool false, .int .u64 0, .string ⟨#[]⟩]) 7 72 Tryz.underlying30 hi hz1 hz2 hz3 rfl (by decide) v n (tmCs L) hs hown ⟨g, 0, none⟩ m c (tmCs l) (hx.trans hu2) (by rw [tmCs_length, hm]) (fun j e he => by rw [add0H]; exact hc j e he) (tmCs_one l) (by unfold maxLen; omega) (by omega) hbase ?_
  intro v' w' h1 h2 _
  refine h v' w' ?_ h2
  unfold OwnT
  rw [tmCs_append, ← hm]; exact h1
 rcases hu with ⟨ao, c, rfl, rfl⟩ | ⟨g, c, rfl, hts⟩
 ·cases ao with
  | none =>
   have hr := run_append_pt hown c o.type hi
   refine Lib.wpList_append_run w hgd s x 30 30 ho _ _ hs hx _ _ hr ?_
   refine h v w ?_ ⟨rfl, rfl, rfl, Nat.le_refl _, fun _ _ _ => rfl⟩
   rw [List.append_nil]; exact hown
  | some ad =>
   refine wpList_append_own w hgd s x 30 ho B 80 i0 (.agg #[.int .i64 0, .int .i64 0, .int .u64 0, .string ⟨#[]⟩, .bool false, .int .u64 0, .string ⟨#[]⟩]) 7 72 Tryz.underlying30 hi hz1 hz2 hz3 rfl (by decide) v n (tmCs L) hs hown ad 0 c [] hx rfl (fun j e he => by cases he) (fun u hu => by cases hu) (by unfold maxLen; omega) (by omega) hbase ?_
   intro v' w' h1 h2 _
   refine h v' w' ?_ h2
   rw [List.append_nil] at h1 ⊢; exact h1
 ·exact key g c l.length rfl rfl fun j e he => hts.cells j e he
theorem pgrow_w (n : Nat) (hn : n ≤ 100000) (w : World) : Calls Tryz.prog 78 #[.slice none 0 0, .int .i64 (n : Int)] w fun xe w' => ∃ v, xe = .returned v ∧ OwnT w' w.heap.size v 0 [] ∧ Below w.heap.size w w' := by
 rcases Nat.eq_zero_or_pos n with h0 | h0
 ·subst h0
  go_enter Tryz.func78, Tryz.ntmps78
  go_wp2_with fail
  go_ret
  exact ⟨_, rfl, World.ownsRow_nil _ _ _ _, Below.refl _ _⟩
 ·obtain ⟨i0, hi, hz1, hz2, hz3⟩ := info_parts infoT
  have hrun := fun ty => Lib.run_append_nil_zeros (P := Tryz.prog) w 30 3 ty 80 i0 (.agg #[.int .i64 0, .int .i64 0, .int .u64 0, .string ⟨#[]⟩, .bool false, .int .u64 0, .string ⟨#[]⟩]) .i64 .i64 Tryz.underlying30 Tryz.underlying3 hi hz1 n h0 (by rw [hz2]; omega) (by omega) (by rw [hz3]; omega)
  have hge := grownCap_ge w n 0 80
  have hle := grownCap_le_maxLen w n 0 80 (by unfold maxLen; omega)
  have hown : OwnT (w.drew.alloc (.cells (Builtin.zeroCells (Value.cells (.agg #[.int .i64 0, .int .i64 0, .int .u64 0, .string ⟨#[]⟩, .bool false, .int .u64 0, .string ⟨#[]⟩])) n ++ Builtin.zeroCells (Value.cells (.agg #[.int .i64 0, .int .i64 0, .int .u64 0, .string ⟨#[]⟩, .bool false, .int .u64 0, .string ⟨#[]⟩])) (grownCap w n 0 80 - n)) 80)) w.heap.size (.slice (some ⟨w.heap.size, 0, none⟩) 0 (grownCap w n 0 80)) 0 [] := by
   refine ⟨rfl, .inr ⟨w.heap.size, grownCap w n 0 80, _, rfl, Nat.le_refl _, heap_alloc_new w.drew _, Nat.zero_le _, hle, ?_, ?_⟩⟩
   ·rw [Array.size_append, size_zeroCells, size_zeroCells, ← Nat.add_mul, Nat.add_sub_cancel' hge]; rfl
   ·simp [tmCs_nil]
  have hbl : Below w.heap.size w (w.drew.alloc (.cells (Builtin.zeroCells (Value.cells (.agg #[.int .i64 0, .int .i64 0, .int .u64 0, .string ⟨#[]⟩, .bool false, .int .u64 0, .string ⟨#[]⟩])) n ++ Builtin.zeroCells (Value.cells (.agg #[.int .i64 0, .int .i64 0, .int .u64 0, .string ⟨#[]⟩, .bool false, .int .u64 0, .string ⟨#[]⟩])) (grownCap w n 0 80 - n)) 80)) := (Below.refl _ _).drew.alloc (Nat.le_refl _) _
  generalize hcap : grownCap w n 0 80 = cp at hrun hge hle hown hbl
  generalize hwq : w.drew.alloc (.cells (Builtin.zeroCells (Value.cells (.agg #[.int .i64 0, .int .i64 0, .int .u64 0, .string ⟨#[]⟩, .bool false, .int .u64 0, .string ⟨#[]⟩])) n ++ Builtin.zeroCells (Value.cells (.agg #[.int .i64 0, .int .i64 0, .int .u64 0, .string ⟨#[]⟩, .bool false, .int .u64 0, .string ⟨#[]⟩])) (cp - n)) 80) = x1 at hrun hown hbl
  replace hrun := Lib.hid hrun
  replace hown := Lib.hid hown
  replace hbl := Lib.hid hbl
  replace hwq := Lib.hid hwq
  replace hcap := Lib.hid hcap
  replace hi := Lib.hid hi
  replace hz1 := Lib.hid hz1
  replace hz2 := Lib.hid hz2
  replace hz3 := Lib.hid hz3
  have k1 : (0 : Int) < (n : Int) := by omega
  have k2 : ¬ (n : Int) < 0 := by omega
  have k3 : 0 < n := h0
  have w1 : IntKind.i64.wrap (n : Int) = (n : Int) := by simp [IntKind.wrap, IntKind.bits, IntKind.signed]; omega
  have w2 : wrap64 (n : Int) = (n : Int) := by simp [wrap64]; omega
  have hsl : ∀ W : World, (Instr.slice 30 (.slice (some ⟨w.heap.size, 0, none⟩) n cp) none (some (.int .i64 0)) none).run Tryz.prog W = .ok (.slice (some ⟨w.heap.size, 0, none⟩) 0 cp) W := fun W => by
   simp [Instr.slice, Instr.sliceBounds, run_underlying Tryz.underlying30, run_sliceBound, go_sem] <;> rfl
  have hsn : ∀ W : World, (Instr.slice 30 (.slice none 0 0) none (some (.int .i64 0)) none).run Tryz.prog W = .ok (.slice none 0 0) W := fun W => by
   simp [Instr.slice, Instr.sliceBounds, run_underlying Tryz.underlying30, run_sliceBound, go_sem] <;> rfl
  clear hge hle
  go_enter Tryz.func78, Tryz.ntmps78
  go_wp2_with (at_builtin; refine Lib.wpList_append_run _ rfl _ _ 30 3 rfl (.slice none 0 0) (.int .i64 (n : Int)) rfl rfl (.slice (some ⟨w.heap.size, 0, none⟩) n cp) x1 (hrun.out _) ?_)
  go_ret
  exact ⟨_, rfl, hown.out, hbl.out⟩
theorem pconcat_w (l m : List TI) (ao bo : Option Addr) (n c n2 c2 g : Nat) (hl : l.length = n) (hm : m.length = n2) (hn : n ≤ 40000) (hn2 : n2 ≤ 40000) (s : Nat) (hs8 : s = n + n2)
  (HG : ∀ w : World, Calls Tryz.prog 78 #[.slice none 0 0, .int .i64 (s : Int)] w fun xe w' => ∃ v, xe = .returned v ∧ OwnT w' w.heap.size v 0 [] ∧ Below w.heap.size w w')
  (w : World) (c0 : w.cell? ⟨g, 0, none⟩ = some (.slice ao n c)) (c1 : w.cell? ⟨g, 1, none⟩ = some (.slice bo n2 c2)) (hg : g < w.heap.size) (h1 : PT w (.slice ao n c) l) (h2 : PT w (.slice bo n2 c2) m) :
  Calls Tryz.prog 42 #[.slice (some ⟨g, 0, none⟩) 2 2] w fun xe w' => ∃ v, xe = .returned v ∧ PT w' v (l ++ m) ∧ Below w.heap.size w w' := by
 replace HG := Lib.hid HG
 replace h1 := Lib.hid h1
 replace h2 := Lib.hid h2
 replace hl := Lib.hid hl
 replace hm := Lib.hid hm
 replace hs8 := Lib.hid hs8
 have w1 : IntKind.i64.wrap (n : Int) = (n : Int) := by simp [IntKind.wrap, IntKind.bits, IntKind.signed]; omega
 have w2 : wrap64 (n : Int) = (n : Int) := by simp [wrap64]; omega
 have w3 : IntKind.i64.wrap ((n : Int) + (n2 : Int)) = (s : Int) := by rw [hs8.out]; simp [IntKind.wrap, IntKind.bits, IntKind.signed]; omega
 have w4 : wrap64 ((n : Int) + (n2 : Int)) = (s : Int) := by rw [hs8.out]; simp [wrap64]; omega
 have k0 : ¬ (n : Int) < 0 := by omega
 have k9 : ¬ (s : Int) < 0 := by omega
 go_enter Tryz.func42, Tryz.ntmps42
 go_wp2_with fail
 go_loopg [3, 11] 2 (fun gk sv iv wr => ∃ (i : Nat) (zi zs : Int), i + gk = 2 ∧ sv = .int .i64 zs ∧ iv = .int .i64 zi ∧ zi = (i : Int) ∧ (i = 0 → zs = 0) ∧ (i = 1 → zs = (n : Int)) ∧ (i = 2 → zs = (s : Int)) ∧ wr = w)
 case atStart => exact ⟨0, 0, 0, rfl, by first | rfl | go_num, by first | rfl | go_num, rfl, fun _ => rfl, fun h => absurd h (by omega), fun h => absurd h (by omega), rfl⟩
 case round =>
  obtain ⟨i, zi, zs, hik, rfl, rfl, hzi, z0, z1, z2, rfl⟩ := hrel
  replace z0 := Lib.hid z0
  replace z1 := Lib.hid z1
  replace z2 := Lib.hid z2
  obtain rfl | rfl | rfl : i = 0 ∨ i = 1 ∨ i = 2 := by omega
  ·have hz : zi = 0 := by omega
   have hzz : zs = 0 := z0.out rfl
   clear hzi z0 z1 z2
   subst hz hzz
   go_wp2_with fail
   go_roundg 1
   case measure => omega
   case rel => exact ⟨1, 1, _, by omega, by first | rfl | go_num, by first | rfl | go_num, rfl, fun h => absurd h (by omega), fun _ => (by first | rfl | go_num), fun h => absurd h (by omega), rfl⟩
  ·have hz : zi = 1 := by omega
   have hzz : zs = (n : Int) := z1.out rfl
   clear hzi z0 z1 z2
   subst hz hzz
   go_wp2_with fail
   go_roundg 0
   case measure => omega
   case rel => exact ⟨2, 2, _, by omega, by first | rfl | go_num, by first | rfl | go_num, rfl, fun h => absurd h (by omega), fun h => absurd h (by omega), fun _ => (by first | rfl | go_num), rfl⟩
  ·have hz : zi = 2 := by omega
   have hzz : zs = (s : Int) := z2.out rfl
   clear hzi z0 z1 z2
   subst hz hzz
   go_wp2_with fail
   with_reducible refine Calls.mono (HG.out _) ?_
   rintro e y1 ⟨v0, rfl, hown0, hb0⟩
   replace hown0 := Lib.hid hown0
   replace hb0 := Lib.hid hb0
   go_wp2_with fail
   go_loopg [6, 27] 2 (fun gk vv iv w9 => ∃ (i : Nat) (zi : Int) (k : Nat) (L : List TI), i + gk = 2 ∧ iv = .int .i64 zi ∧ zi = (i : Int) ∧ (i = 0 → k = 0 ∧ L = []) ∧ (i = 1 → k = n ∧ L = l) ∧ (i = 2 → k = s ∧ L = l ++ m) ∧ OwnT w9 wr.heap.size vv k L ∧ Below wr.heap.size wr w9)
   case atStart => exact ⟨0, 0, 0, [], rfl, by first | rfl | go_num, rfl, fun _ => ⟨rfl, rfl⟩, fun h => absurd h (by omega), fun h => absurd h (by omega), hown0.out, hb0.out⟩
   case round =>
    clear hown0 hb0
    obtain ⟨i, zi, k, L, hik, rfl, hzi, z0, z1, z2, hown, hB⟩ := hrel
    replace z0 := Lib.hid z0
    replace z1 := Lib.hid z1
    replace z2 := Lib.hid z2
    obtain rfl | rfl | rfl : i = 0 ∨ i = 1 ∨ i = 2 := by omega
    ·have hz : zi = 0 := by omega
     obtain ⟨hk, hL⟩ := z0.out rfl
     clear hzi z0 z1 z2
     subst hz
     rw [hk, hL] at hown
     clear hk hL
     have d0 := (hB.cell (p := ⟨g, 0, none⟩) hg).trans c0
     have d1 := (hB.cell (p := ⟨g, 1, none⟩) hg).trans c1
     have hp := Lib.hid (h1.out.below hB)
     replace hown := Lib.hid hown
     obtain ⟨W, hW⟩ : ∃ W, W = wr := ⟨_, rfl⟩
     rename_i w8
     go_wp2_with (at_builtin; refine wp_append_pt rfl _ _ rfl _ _ _ _ rfl hown.out _ l rfl hp.out (by omega) (by rw [hl.out]; omega) hB.size ?_)
     intro v' w5 hown' hgrow
     have hB5 := hB.grown hgrow hB.size (fun j hj => (hown.out.lt j hj).1)
     have hown5 := Lib.hid hown'
     rw [hl.out] at hown5
     clear hown' hgrow hp d0 d1 hW
     go_wp2_with fail
     go_roundg 1
     case measure => omega
     case rel => exact ⟨1, 1, n, l, by omega, by first | rfl | go_num, rfl, fun h => absurd h (by omega), fun _ => ⟨rfl, rfl⟩, fun h => absurd h (by omega), by first | exact hown5.out | (have := hown5.out; rwa [Nat.zero_add, List.nil_append] at this), hB5⟩
    ·have hz : zi = 1 := by omega
     obtain ⟨hk, hL⟩ := z1.out rfl
     clear hzi z0 z1 z2
     subst hz
     rw [hk, hL] at hown
     clear hk hL
     have d0 := (hB.cell (p := ⟨g, 0, none⟩) hg).trans c0
     have d1 := (hB.cell (p := ⟨g, 1, none⟩) hg).trans c1
     have hp := Lib.hid (h2.out.below hB)
     replace hown := Lib.hid hown
     obtain ⟨W, hW⟩ : ∃ W, W = wr := ⟨_, rfl⟩
     rename_i w8
     go_wp2_with (at_builtin; refine wp_append_pt rfl _ _ rfl _ _ _ _ rfl hown.out _ m rfl hp.out (by omega) (by rw [hm.out]; omega) hB.size ?_)
     intro v' w5 hown' hgrow
     have hB5 := hB.grown hgrow hB.size (fun j hj => (hown.out.lt j hj).1)
     have hown5 := Lib.hid hown'
     rw [hm.out] at hown5
     clear hown' hgrow hp d0 d1 hW
     go_wp2_with fail
     go_roundg 0
     case measure => omega
     case rel => exact ⟨2, 2, s, (l ++ m), by omega, by first | rfl | go_num, rfl, fun h => absurd h (by omega), fun h => absurd h (by omega), fun _ => ⟨rfl, rfl⟩, by rw [hs8.out]; exact hown5.out, hB5⟩
    ·have hz : zi = 2 := by omega
     obtain ⟨hk, hL⟩ := z2.out rfl
     clear hzi z0 z1 z2
     subst hz
     have hpt := ownT_pt hown (by rw [hL, List.length_append, hl.out, hm.out, ← hs8.out, hk])
     rw [hL] at hpt
     replace hpt := Lib.hid hpt
     clear hL hk hown
     go_wp2_with fail
     go_ret
     exact ⟨_, rfl, hpt.out, hB⟩
theorem padd_w (l m P Q R : List TI) (ao bo : Option Addr) (n c n2 c2 : Nat) (hP : P.length ≤ 40000) (hQ : Q.length ≤ 40000)
  (HN1 : ∀ w : World, PT w (.slice ao n c) l → Calls Tryz.prog 43 #[.slice ao n c] w fun xe w' => ∃ v', xe = .returned v' ∧ PT w' v' P ∧ Below w.heap.size w w')
  (HN2 : ∀ w : World, PT w (.slice bo n2 c2) m → Calls Tryz.prog 43 #[.slice bo n2 c2] w fun xe w' => ∃ v', xe = .returned v' ∧ PT w' v' Q ∧ Below w.heap.size w w')
  (HG : ∀ (s : Nat) (w : World), s ≤ 100000 → Calls Tryz.prog 78 #[.slice none 0 0, .int .i64 (s : Int)] w fun xe w' => ∃ v, xe = .returned v ∧ OwnT w' w.heap.size v 0 [] ∧ Below w.heap.size w w')
  (HS : ∀ (v : Value) (w : World), PT w v (P ++ Q) → Calls Tryz.prog 41 #[v] w fun xe w' => ∃ v', xe = .returned v' ∧ PT w' v' R ∧ Below w.heap.size w w')
  (w : World) (h1 : PT w (.slice ao n c) l) (h2 : PT w (.slice bo n2 c2) m) :
  Calls Tryz.prog 11 #[.slice ao n c, .slice bo n2 c2] w fun xe w' => ∃ v, xe = .returned v ∧ PT w' v R ∧ Below w.heap.size w w' := by
 replace HN1 := Lib.hid HN1
 replace HN2 := Lib.hid HN2
 replace HG := Lib.hid HG
 replace HS := Lib.hid HS
 replace h1 := Lib.hid h1
 replace h2 := Lib.hid h2
 replace hP := Lib.hid hP
 replace hQ := Lib.hid hQ
 go_enter Tryz.func11, Tryz.ntmps11
 go_wp2_with fail
 with_reducible refine Calls.mono (HN1.out w h1.out) ?_
 rintro e y1 ⟨v1, rfl, hp1, hb1⟩
 go_wp2_with fail
 with_reducible refine Calls.mono (HN2.out y1 (h2.out.below hb1)) ?_
 rintro e y2 ⟨v2, rfl, hp2, hb2⟩
 replace hp1 := hp1.below hb2
 have hbb := hb1.trans (hb2.mono hb1.size)
 clear hb1 hb2
 obtain ⟨ao1, m1, d1, rfl, hm1⟩ := pt_form hp1
 obtain ⟨ao2, m2, d2, rfl, hm2⟩ := pt_form hp2
 have hL0 : GL y2 y2 [] := GL.start y2
 replace hL0 := hL0.new rfl [.slice ao1 m1 d1, .slice ao2 m2 d2] 30
 generalize hweq : y2.alloc (.cells #[.slice ao1 m1 d1, .slice ao2 m2 d2] 30) = y3 at hL0
 have hN0 := cells_of _ 0 [] rfl (hL0.get _ _ mZ)
 simp only [zF, Nat.reduceAdd] at hN0
 have hlt : y2.heap.size < y3.heap.size := (hL0.get _ _ mZ).lt
 have hC := pconcat_w P Q ao1 ao2 m1 d1 m2 d2 y2.heap.size hm1.symm hm2.symm (by rw [hm1]; exact hP.out) (by rw [hm2]; exact hQ.out) (m1 + m2) rfl (fun w => HG.out (m1 + m2) w (by rw [hm1, hm2]; have := hP.out; have := hQ.out; omega)) y3 hN0.1 hN0.2 hlt (hp1.below hL0.bl) (hp2.below hL0.bl)
 replace hC := Lib.hid hC
 have hb3 := hbb.trans (hL0.bl.mono hbb.size)
 clear hN0 hlt hp1 hp2 hm1 hm2 hL0 hbb
 go_wp2_with (first | fail | (go_at_call 42; with_reducible refine Calls.mono hC.out ?_; rintro e y4 ⟨v4, rfl, hp4, hb4⟩; replace hp4 := Lib.hid hp4; replace hb4 := Lib.hid hb4) | (go_at_call 41; with_reducible refine Calls.mono (HS.out _ _ hp4.out) ?_; rintro e y5 ⟨v5, rfl, hp5, hb5⟩; replace hp5 := Lib.hid hp5; replace hb5 := Lib.hid hb5))
 go_ret
 exact ⟨_, rfl, hp5.out, hb3.trans ((hb4.out.trans (hb5.out.mono hb4.out.size)).mono hb3.size)⟩
theorem addP (l m : List TI) (K : Nat) (hs : VdL l → SzL (toL l) K) (hs2 : VdL m → SzL (toL m) K) (hK : K ≤ 100000) (hl : l.length ≤ 10000) (hm : m.length ≤ 10000) (hlm : (nrm l).length + (nrm m).length ≤ 10000) (w : World) (v u : Value) (h : PT w v l) (g : PT w u m) :
  Calls Tryz.prog 11 #[v, u] w fun xe w' => ∃ v', xe = .returned v' ∧ PT w' v' (ofL (nfL (nrm l ++ nrm m))) ∧ Below w.heap.size w w' := by
 obtain ⟨ao, n, c, rfl, hn⟩ := pt_form h
 obtain ⟨bo, n2, c2, rfl, hn2⟩ := pt_form g
 refine padd_w l m (ofL (nrm l)) (ofL (nrm m)) _ ao bo n c n2 c2 (by rw [ofL_length]; omega) (by rw [ofL_length]; omega) (fun w hq => normP l K hs (by omega) hl w _ hq) (fun w hq => normP m K hs2 (by omega) hm w _ hq) (fun s w hs => pgrow_w s hs w) (fun v w hv => ?_) w h g
 have e : ofL (nrm l) ++ ofL (nrm m) = ofL (nrm l ++ nrm m) := by unfold ofL; rw [List.map_append]
 rw [e] at hv
 have hsz : ∀ {l : List TI}, (VdL l → SzL (toL l) K) → SzL (nrm l) (K + 1) := by
  intro l h
  unfold nrm
  split
  ·rename_i hv; exact (h hv).nf.mono (by omega)
  ·exact SzL.nil _ (by omega)
 have := sumP (ofL (nrm l ++ nrm m)) (K + 1 + (K + 1) + 1) (vd_ofL.2 fun t ht => by
  rcases List.mem_append.1 ht with ht | ht
  ·exact nrm_tb l t ht
  ·exact nrm_tb m t ht) (by rw [toL_ofL]; exact (hsz hs).append (hsz hs2)) (by omega) (by rw [ofL_length, List.length_append]; exact hlm) w v hv
 rw [toL_ofL] at this
 exact this
end Go.Proofs.YtkdbhacimoaohaaGreatDoor
namespace Go.Proofs.YtkdbhacimoaohaaGreatDoor
open Go.RowKit
section
variable {P : Program} {ops : Array Oper} {C : World → Prop}
/-- What an operation does: its value has the property in the world that it leaves. -/
def tyUpon (P : Program) (w : World) (T : Value → World → Prop) : Result Next → Prop
 | .ok (.value u) w' => Below w.heap.size w w' ∧ T u w'
 | .ok .skip w' => Below w.heap.size w w' ∧ T undef w'
 | .ok (.enter f args) w' => w' = w ∧ Calls P f args w (fun e w'' => ∃ u, e = .returned u ∧ T u w'' ∧ Below w.heap.size w w'')
 | _ => False
def TyAt (P : Program) (ops : Array Oper) (o : Oper) (a : Act) (w : World) (T : Value → World → Prop) : Prop :=
 if Region.wanted o (yielded ops a.tmps) then tyUpon P w T ((execOp a.eval o).run P w) else T undef w
theorem tyAt_none {o : Oper} {a : Act} {w : World} {T : Value → World → Prop} (hg : o.guard = none) (h : tyUpon P w T ((execOp a.eval o).run P w)) : TyAt P ops o a w T := by
 unfold TyAt
 rw [if_pos (by unfold Region.wanted; rw [hg])]
 exact h
/-- A call whose contract gives the property. -/
theorem ty_call {o : Oper} {a : Act} {w : World} {T : Value → World → Prop} {f : FuncId} {args : Array Value} (hr : (execOp a.eval o).run P w = .ok (.enter f args) w) (h : Calls P f args w fun e w'' => ∃ u, e = .returned u ∧ T u w'' ∧ Below w.heap.size w w'') : tyUpon P w T ((execOp a.eval o).run P w) := by
 rw [hr]; exact ⟨rfl, h⟩
/-- The frame with the values of the operations that have come up. -/
def putsIf : List Oper → Nat → (Nat → Bool) → (Nat → Value) → Act → Act
 | [], _, _, _, a => a
 | o :: l, k, b, v, a => putsIf l (k + 1) b v (if b k then a.put o.dst (v k) else a)
def putsV : List Oper → Nat → (Nat → Value) → Act → Act
 | [], _, _, a => a
 | o :: l, k, v, a => putsV l (k + 1) v (a.put o.dst (v k))
theorem putsIf_all {v : Nat → Value} {b : Nat → Bool} : ∀ (l : List Oper) (k : Nat) (a : Act), (∀ i, k ≤ i → i < k + l.length → b i = true) → putsIf l k b v a = putsV l k v a
 | [], _, _, _ => rfl
 | o :: l, k, a, h => by
  rw [putsIf, putsV, if_pos (h k (Nat.le_refl k) (by rw [List.length_cons]; omega))]
  exact putsIf_all l (k + 1) _ fun i h1 h2 => h i (by omega) (by rw [List.length_cons]; omega)
theorem putsIf_none {v : Nat → Value} {b : Nat → Bool} : ∀ (l : List Oper) (k : Nat) (a : Act), (∀ i, k ≤ i → i < k + l.length → b i = false) → putsIf l k b v a = a
 | [], _, _, _ => rfl
 | o :: l, k, a, h => by
  rw [putsIf, if_neg (by rw [h k (Nat.le_refl k) (by rw [List.length_cons]; omega)]; exact Bool.false_ne_true)]
  exact putsIf_none l (k + 1) _ fun i h1 h2 => h i (by omega) (by rw [List.length_cons]; omega)
theorem putsIf_congr {v v' : Nat → Value} {b b' : Nat → Bool} : ∀ (l : List Oper) (k : Nat) (a : Act), (∀ i, k ≤ i → i < k + l.length → b i = b' i ∧ (b i = true → v i = v' i)) → putsIf l k b v a = putsIf l k b' v' a
 | [], _, _, _ => rfl
 | o :: l, k, a, h => by
  obtain ⟨h1, h2⟩ := h k (Nat.le_refl k) (by rw [List.length_cons]; omega)
  rw [putsIf, putsIf]
  have e : (if b k = true then a.put o.dst (v k) else a) = (if b' k = true then a.put o.dst (v' k) else a) := by
   rw [← h1]
   by_cases hb : b k = true
   ·rw [if_pos hb, if_pos hb, h2 hb]
   ·rw [if_neg hb, if_neg hb]
  rw [e]
  exact putsIf_congr l (k + 1) _ fun i h1 h2 => h i (by omega) (by rw [List.length_cons]; omega)
/-- No two of them write one slot. -/
def apartD (d : Option Tmp) (l : List Oper) : Bool := l.all fun o => match d, o.dst with
 | some x, some y => !(x == y)
 | _, _ => true
def nodupD : List Oper → Bool
 | [] => true
 | o :: l => apartD o.dst l && nodupD l
theorem apartD_spec {d : Option Tmp} {l : List Oper} (h : apartD d l = true) {o : Oper} (ho : o ∈ l) {x : Tmp} (hx : d = some x) : o.dst ≠ some x := by
 intro e
 have := (List.all_eq_true.1 h) o ho
 subst hx
 simp only [e] at this
 simp at this
theorem put_late {v : Nat → Value} {b : Nat → Bool} {d : Option Tmp} {u : Value} : ∀ (l : List Oper) (k : Nat) (a : Act), apartD d l = true → putsIf l k b v (a.put d u) = (putsIf l k b v a).put d u
 | [], _, _, _ => rfl
 | o :: l, k, a, h => by
  have h0 := h
  simp only [apartD, List.all_cons, Bool.and_eq_true] at h
  rw [putsIf, putsIf]
  by_cases hb : b k = true
  ·rw [if_pos hb, if_pos hb]
   have : (a.put d u).put o.dst (v k) = (a.put o.dst (v k)).put d u := by
    cases d with
    | none => rfl
    | some x =>
     cases ho : o.dst with
     | none => rfl
     | some y =>
      have hne : y ≠ x := fun e => apartD_spec h0 List.mem_cons_self rfl (by rw [ho, e])
      exact Act.put_comm a u (v k) (fun d hd e => hne (Option.some.inj (e.trans hd.symm)))
   rw [this]
   exact put_late l (k + 1) _ h.2
  ·rw [if_neg hb, if_neg hb]; exact put_late l (k + 1) _ h.2
theorem put_at {v v' : Nat → Value} {b b' : Nat → Bool} {j : Nat} {u : Value} (hb : b j = false) (hb' : b' j = true) (hv : v' j = u) (hbb : ∀ i, i ≠ j → b' i = b i ∧ v' i = v i) :
  ∀ (l : List Oper) (k : Nat) (a : Act) (o : Oper), nodupD l = true → k ≤ j → l[j - k]? = some o → (putsIf l k b v a).put o.dst u = putsIf l k b' v' a
 | [], _, _, _, _, _, h => by simp at h
 | o1 :: l, k, a, o, hn, hk, h => by
  simp only [nodupD, Bool.and_eq_true] at hn
  rw [putsIf, putsIf]
  by_cases e : j = k
  ·subst e
   simp only [Nat.sub_self, List.getElem?_cons_zero, Option.some.injEq] at h
   subst h
   rw [if_neg (by rw [hb]; exact Bool.false_ne_true), if_pos hb', hv, ← put_late l (j + 1) a hn.1]
   exact putsIf_congr l (j + 1) _ fun i h1 h2 => ⟨(hbb i (by omega)).1.symm, fun _ => (hbb i (by omega)).2.symm⟩
  ·have hk' : k + 1 ≤ j := by omega
   rw [show j - k = (j - (k + 1)) + 1 by omega, List.getElem?_cons_succ] at h
   obtain ⟨h1, h2⟩ := hbb k (fun e' => e e'.symm)
   rw [h1, h2]
   exact put_at hb hb' hv hbb l (k + 1) _ o hn.2 hk' h
theorem put_get (a : Act) (d : Option Tmp) (u : Value) (t : Nat) : (a.put d u).tmps[t]? = if d = some t then (if t < a.tmps.size then some u else none) else a.tmps[t]? := by
 cases d with
 | none => simp [Act.put]
 | some x =>
  simp only [Act.put, Array.getElem?_setIfInBounds, Option.some.injEq]
  by_cases h : x = t
  ·subst h; simp
  ·simp [h]
theorem get_puts {v : Nat → Value} {b : Nat → Bool} {t : Nat} : ∀ (l : List Oper) (k : Nat) (a a' : Act), a.tmps[t]? = a'.tmps[t]? → (∀ i o, l[i]? = some o → o.dst = some t → b (k + i) = true) → (putsIf l k b v a).tmps[t]? = (putsV l k v a').tmps[t]?
 | [], _, _, _, h, _ => h
 | o :: l, k, a, a', h, hd => by
  rw [putsIf, putsV]
  refine get_puts l (k + 1) _ _ ?_ fun i o' ho' hd' => by have := hd (i + 1) o' (by simpa using ho') hd'; rwa [show k + (i + 1) = k + 1 + i by omega] at this
  have hsz : t < a.tmps.size ↔ t < a'.tmps.size := by
   constructor <;> intro h1
   ·rw [Array.getElem?_eq_getElem h1] at h; exact (Array.getElem?_eq_some_iff.1 h.symm).1
   ·rw [Array.getElem?_eq_getElem h1] at h; exact (Array.getElem?_eq_some_iff.1 h).1
  by_cases e : o.dst = some t
  ·have hb := hd 0 o (by simp) e
   rw [Nat.add_zero] at hb
   rw [if_pos hb, put_get, put_get, if_pos e, if_pos e]
   by_cases h2 : t < a.tmps.size
   ·rw [if_pos h2, if_pos (hsz.1 h2)]
   ·rw [if_neg h2, if_neg fun h3 => h2 (hsz.2 h3)]
  ·by_cases hb : b k = true
   ·rw [if_pos hb, put_get, put_get, if_neg e, if_neg e]; exact h
   ·rw [if_neg hb, put_get, if_neg e]; exact h
theorem wanted_same {a a' : Act} {o : Oper} (h : ∀ t ∈ o.looksAt ops, a.tmps[t]? = a'.tmps[t]?) : Region.wanted o (yielded ops a.tmps) = Region.wanted o (yielded ops a'.tmps) := by
 unfold Region.wanted
 cases hg : o.guard with
 | none => rfl
 | some gw =>
  obtain ⟨gg, want⟩ := gw
  have hy : yielded ops a.tmps gg = yielded ops a'.tmps gg := by
   unfold yielded
   cases ht : (ops[gg]?).bind (·.dst) with
   | none => rfl
   | some t =>
    have := h t (List.mem_append_right _ (by simp [hg, ht]))
    simp [this]
  simp only [hy]
theorem exec_same {a a' : Act} {o : Oper} (hs : ∀ cs b, o.op ≠ .select cs b) (h : ∀ t ∈ o.looksAt ops, a.tmps[t]? = a'.tmps[t]?) : execOp a.eval o = execOp a'.eval o :=
 execOp_congr o hs fun x hx => by
  cases x with
  | tmp t =>
   have ht : t ∈ o.looksAt ops := List.mem_append_left _ (List.mem_filterMap.2 ⟨_, by simpa using hx, rfl⟩)
   simp only [Act.eval, Array.getD_eq_getD_getElem?, h t ht]
  | _ => rfl
/-- Each of the first n waits for earlier ones alone, and for each of them that writes a slot that it looks at. -/
def depB (ops : Array Oper) (n : Nat) : Bool :=
 (List.range n).all fun j => (predsOf .any ops j).all (fun i => decide (i < j)) && match ops[j]? with
  | some o => (o.looksAt ops).all fun t => (List.range n).all fun i => match (ops[i]?).bind (·.dst) with
    | some d => !(d == t) || (predsOf .any ops j).contains i
    | none => true
  | none => true
theorem depB_pred {n j i : Nat} (h : depB ops n = true) (hj : j < n) (hi : i ∈ predsOf .any ops j) : i < j := by
 simp only [depB, List.all_eq_true, List.mem_range, Bool.and_eq_true, decide_eq_true_eq] at h
 exact (h j hj).1 i hi
theorem depB_looks {n j i : Nat} (h : depB ops n = true) (hj : j < n) (hi : i < n) {o o' : Oper} (ho : ops[j]? = some o) (ho' : ops[i]? = some o') {t : Tmp} (ht : t ∈ o.looksAt ops) (hd : o'.dst = some t) : i ∈ predsOf .any ops j := by
 simp only [depB, List.all_eq_true, List.mem_range, Bool.and_eq_true, decide_eq_true_eq] at h
 have h1 := (h j hj).2
 rw [ho] at h1
 simp only [List.all_eq_true, List.mem_range] at h1
 have h2 := h1 t ht i hi
 rw [ho'] at h2
 simp only [Option.bind_some, hd, beq_self_eq_true, Bool.not_true, Bool.false_or] at h2
 exact List.contains_iff_mem.1 h2
/-- A property that later worlds keep. -/
def Stays (T : Value → World → Prop) : Prop := ∀ v w w', Below w.heap.size w w' → T v w → T v w'
/-- How many of the first n have not come up. -/
def left (n : Nat) (listed : Array Bool) : Nat := (List.range n).countP fun i => !listed.getD i false
theorem left_zero {n : Nat} {listed : Array Bool} (h : left n listed = 0) : doneN n listed = true := by
 refine doneN_iff.2 fun i hi => ?_
 have := (List.countP_eq_zero.1 h) i (List.mem_range.2 hi)
 simpa using this
theorem left_some {n m : Nat} {listed : Array Bool} (h : left n listed = m + 1) : doneN n listed = false := by
 refine Bool.eq_false_iff.2 fun hd => ?_
 have : left n listed = 0 := List.countP_eq_zero.2 fun i hi => by simp [doneN_iff.1 hd i (List.mem_range.1 hi)]
 omega
theorem countP_drop {p q : Nat → Bool} {j : Nat} (hpq : ∀ i, i ≠ j → q i = p i) (hp : p j = true) (hq : q j = false) : ∀ (r : List Nat), r.Nodup → j ∈ r → r.countP p = r.countP q + 1
 | [], _, h => by cases h
 | x :: r, hn, h => by
  rw [List.nodup_cons] at hn
  rcases List.mem_cons.1 h with rfl | h
  ·rw [List.countP_cons_of_pos hp, List.countP_cons_of_neg (by rw [hq]; exact Bool.false_ne_true)]
   congr 1
   refine List.countP_congr fun i hi => ?_
   rw [hpq i (fun e => hn.1 (e ▸ hi))]
  ·have hx : x ≠ j := fun e => hn.1 (e ▸ h)
   have ih := countP_drop hpq hp hq r hn.2 h
   by_cases hpx : p x = true
   ·rw [List.countP_cons_of_pos hpx, List.countP_cons_of_pos (by rw [hpq x hx]; exact hpx), ih]
   ·rw [List.countP_cons_of_neg hpx, List.countP_cons_of_neg (by rw [hpq x hx]; exact hpx), ih]
theorem left_set {n j m : Nat} {listed : Array Bool} (hs : listed.size = ops.size) (hj : j < n) (hjs : j < ops.size) (hu : listed.getD j false = false) (h : left n listed = m + 1) : left n (listed.setIfInBounds j true) = m := by
 have := countP_drop (p := fun i => !listed.getD i false) (q := fun i => !(listed.setIfInBounds j true).getD i false) (j := j) (fun i hi => by simp only [getD_set_ne false (fun e => hi e.symm)]) (by simp [hu]) (by simp [hs, hjs]) (List.range n) List.nodup_range (List.mem_range.2 hj)
 unfold left at h ⊢
 omega
theorem ready_some {n m : Nat} {listed : Array Bool} (hs : listed.size = ops.size) (hn : n ≤ ops.size) (hD : depB ops n = true) (h : left n listed = m + 1) : Region.ready .any ops listed ≠ [] := by
  have hnd := left_some h
  have ex : ∃ i, i < n ∧ listed.getD i false = false := Classical.byContradiction fun hc => by
    have : doneN n listed = true := doneN_iff.2 fun i hi => by
      cases hv : listed.getD i false with
      | true => rfl
      | false => exact absurd ⟨i, hi, hv⟩ hc
    rw [this] at hnd; cases hnd
  have key : ∀ k i, i ≤ k → i < n → listed.getD i false = false → ∃ i, i ∈ Region.ready .any ops listed := by
    intro k
    induction k with
    | zero =>
      intro i hi h1 h2
      obtain rfl : i = 0 := by omega
      have ho : 0 < ops.size := by omega
      refine ⟨0, mem_ready.2 ⟨by have h3 : 0 < listed.size := by omega
                                 simpa [h3] using h2, ops[0], Array.getElem?_eq_getElem ho, fun e he hb => ?_⟩⟩
      have : e.on ∈ predsOf .any ops 0 := by
        unfold predsOf; rw [Array.getElem?_eq_getElem ho]
        exact List.mem_map.2 ⟨e, List.mem_filter.2 ⟨by simpa using he, hb⟩, rfl⟩
      have := depB_pred hD h1 this
      omega
    | succ k ih =>
      intro i hi h1 h2
      have ho : i < ops.size := by omega
      by_cases hall : ∀ p ∈ predsOf .any ops i, listed.getD p false = true
      · refine ⟨i, mem_ready.2 ⟨by have h3 : i < listed.size := by omega
                                   simpa [h3] using h2, ops[i], Array.getElem?_eq_getElem ho, fun e he hb => hall _ ?_⟩⟩
        unfold predsOf; rw [Array.getElem?_eq_getElem ho]
        exact List.mem_map.2 ⟨e, List.mem_filter.2 ⟨by simpa using he, hb⟩, rfl⟩
      · have : ∃ p, p ∈ predsOf .any ops i ∧ listed.getD p false = false := Classical.byContradiction fun hc => hall fun p hp => by
          cases hv : listed.getD p false with
          | true => rfl
          | false => exact absurd ⟨p, hp, hv⟩ hc
        obtain ⟨p, hp, hv⟩ := this
        have := depB_pred hD h1 hp
        exact ih p (by omega) (by omega) hv
  obtain ⟨i, h1, h2⟩ := ex
  obtain ⟨i, hi⟩ := key i i (Nat.le_refl _) h1 h2
  exact List.ne_nil_of_mem hi
theorem preds_of_ready {j : Nat} {listed : Array Bool} (hj : j ∈ Region.ready .any ops listed) : ∀ p ∈ predsOf .any ops j, listed.getD p false = true := by
 obtain ⟨-, o, ho, hall⟩ := mem_ready.1 hj
 intro p hp
 unfold predsOf at hp
 simp only [ho, List.mem_map, List.mem_filter] at hp
 obtain ⟨e, ⟨he, hb⟩, rfl⟩ := hp
 exact hall e (by simpa using he) hb
theorem wpAny_ty {n s : Nat} {l : List Oper} {T : Nat → Value → World → Prop} {w0 : World} {a0 : Act} {Q : Exit → Act → World → Prop} (hT : ∀ i, Stays (T i)) (hsel : Region.noSelect l.toArray = true) (hn : n ≤ l.length)
  (hB : barB .any l.toArray n = true) (hN : nodupD (l.take n) = true) (hD : depB l.toArray n = true)
  (hops : ∀ j o, j < n → l[j]? = some o → ∀ v w, Below w0.heap.size w0 w → (∀ p ∈ predsOf .any l.toArray j, T p (v p) w) → TyAt P l.toArray o (putsV (l.take n) 0 v a0) w (T j))
  (hend : ∀ v w, Below w0.heap.size w0 w → (∀ i, i < n → T i (v i) w) → wpAny P .any l.toArray Q s (canonL l.length n) (putsV (l.take n) 0 v a0) w) :
  ∀ (m : Nat) (listed : Array Bool) (v : Nat → Value) (w : World), left n listed = m → closedL .any l.toArray listed → sufL n l.toArray listed → Below w0.heap.size w0 w →
   (∀ i, i < n → listed.getD i false = true → T i (v i) w) → wpAny P .any l.toArray Q (s + m) listed (putsIf (l.take n) 0 (fun i => listed.getD i false) v a0) w := by
 intro m
 have hlen : (l.take n).length = n := by rw [List.length_take]; omega
 induction m with
 | zero =>
  intro listed v w hl hc hu hb ht
  have hd := left_zero hl
  rw [putsIf_all (l.take n) 0 a0 fun i _ h2 => doneN_iff.1 hd i (by omega)]
  have e := canon_of hu hd
  rw [show l.toArray.size = l.length by simp] at e
  rw [e]
  exact hend v w hb fun i hi => ht i hi (doneN_iff.1 hd i hi)
 | succ m ih =>
  intro listed v w hl hc hu hb ht
  have hnd := left_some hl
  refine ⟨fun h0 => absurd h0 (ready_some hu.1 (by simpa using hn) hD hl), fun j hj => ?_⟩
  have hjn := bar hB hc hj hnd
  obtain ⟨hju, o, ho, -⟩ := mem_ready.1 hj
  have hpre := preds_of_ready hj
  have hol : l[j]? = some o := by simpa using ho
  have hjs : j < l.toArray.size := (Array.getElem?_eq_some_iff.1 ho).1
  have hty := hops j o hjn hol v w hb fun p hp => ht p (by have := depB_pred hD hjn hp; omega) (hpre p hp)
  have hag : ∀ t ∈ o.looksAt l.toArray, (putsIf (l.take n) 0 (fun i => listed.getD i false) v a0).tmps[t]? = (putsV (l.take n) 0 v a0).tmps[t]? := fun t ht' =>
   get_puts (l.take n) 0 a0 a0 rfl fun i o' ho' hd' => by
    have hin : i < n := by rw [← hlen]; exact (List.getElem?_eq_some_iff.1 ho').1
    have ho2 : l.toArray[i]? = some o' := by rw [List.getElem?_take, if_pos hin] at ho'; simpa using ho'
    rw [Nat.zero_add]
    exact hpre i (depB_looks hD hjn hin ho ho2 ht' hd')
  have step : ∀ u w', Below w.heap.size w w' → T j u w' → wpAny P .any l.toArray Q (s + m) (listed.setIfInBounds j true) ((putsIf (l.take n) 0 (fun i => listed.getD i false) v a0).put o.dst u) w' := by
   intro u w' hw' hu'
   have e := put_at (v := v) (v' := fun i => if i = j then u else v i) (b := fun i => listed.getD i false) (b' := fun i => (listed.setIfInBounds j true).getD i false) (j := j) (u := u) (unl hju) (by simp [hu.1]; simpa using hjs) (by simp)
    (fun i hi => ⟨getD_set_ne false fun e => hi e.symm, by simp [hi]⟩) (l.take n) 0 a0 o hN (Nat.zero_le _) (by rw [Nat.sub_zero, List.getElem?_take, if_pos hjn]; exact hol)
   rw [e]
   refine ih _ _ w' (left_set (ops := l.toArray) hu.1 hjn hjs (unl hju) hl) (hc.set hj) ⟨by simpa using hu.1, fun k hk hks => by rw [getD_set_ne true (by omega)]; exact hu.2 k hk hks⟩ (hb.trans (hw'.mono hb.size)) fun i hi hli => ?_
   by_cases e : i = j
   ·subst e; simpa using hu'
   ·rw [getD_set_ne false fun e' => e e'.symm] at hli
    simp only [if_neg e]
    exact hT i _ _ _ hw' (ht i hi hli)
  unfold wpOp
  simp only [ho]
  unfold TyAt at hty
  rw [← wanted_same hag] at hty
  by_cases hw : Region.wanted o (yielded l.toArray (putsIf (l.take n) 0 (fun i => listed.getD i false) v a0).tmps) = true
  ·simp only [hw, if_true] at hty ⊢
   refine .inl ?_
   unfold Oper.wp
   rw [exec_same (fun cs b => Region.noSelect_spec hsel j o cs b ho) hag]
   generalize (execOp (putsV (l.take n) 0 v a0).eval o).run P w = r at *
   cases r with
   | ok nx w' =>
    cases nx <;> simp only [tyUpon] at hty <;> simp only [Oper.upon]
    case value u => exact step u w' hty.1 hty.2
    case skip => exact step undef w' hty.1 hty.2
    case enter f args =>
     obtain ⟨rfl, hcall⟩ := hty
     exact hcall.mono fun e w'' ⟨u, he, h1, h2⟩ => by subst he; exact step u w'' h2 h1
   | halt x w' => simp only [tyUpon] at hty
  ·simp only [hw] at hty ⊢
   exact step undef w (Below.refl _ _) hty
def tyB (n : Nat) (l : List Oper) : Bool :=
 Region.noSelect l.toArray && decide (n ≤ l.length) && barB .any l.toArray n && nodupD (l.take n) && depB l.toArray n && seqB .any l.toArray (l.length - n) n (canonL l.length n)
/-- **A region whose first n operations each give a value of a property; then the others, in their order.** -/
theorem region_ty (n : Nat) (T : Nat → Value → World → Prop) {id : Nat} {Q : Exit → Act → World → Prop} {a : Act} {w : World} {l : List Oper} (hm : P.follows .mixedOrders = true) (hB : tyB n l = true) (hT : ∀ i, Stays (T i))
  (hops : ∀ j o, j < n → l[j]? = some o → ∀ v w1, Below w.drew.heap.size w.drew w1 → (∀ p ∈ predsOf .any l.toArray j, T p (v p) w1) → TyAt P l.toArray o (putsV (l.take n) 0 v a) w1 (T j))
  (hend : ∀ v w1, Below w.drew.heap.size w.drew w1 → (∀ i, i < n → T i (v i) w1) → wpList P l.toArray Q (l.drop n) (putsV (l.take n) 0 v a) w1) : (Code.region id l.toArray true).wp P Q a w := by
 simp only [tyB, Bool.and_eq_true, decide_eq_true_eq] at hB
 obtain ⟨⟨⟨⟨⟨hs, hn⟩, hb⟩, hN⟩, hD⟩, hq⟩ := hB
 refine wp_region_any hm ?_
 have hrep : ∀ i, (Array.replicate l.length false).getD i false = false := fun i => by
  rcases Nat.lt_or_ge i l.length with h' | h' <;> simp [h']
 have h0 : closedL .any l.toArray (Array.replicate l.length false) := fun j o _ hl => by rw [hrep] at hl; cases hl
 have hleft : left n (Array.replicate l.length false) = n := by
  unfold left
  rw [List.countP_eq_length.2 fun i _ => by rw [hrep]; rfl, List.length_range]
 have h2 := wpAny_ty (P := P) (s := l.length - n) (Q := Q) (a0 := a) hT hs hn hb hN hD hops (fun v w1 h1 h2 => by
   have h3 := wpAny_of_seq (md := .any) (P := P) (Q' := Q) (l.drop n) n (canonL l.length n) (putsV (l.take n) 0 v a) w1 (fun j hj => by simp [List.getElem?_drop]) (by rw [List.length_drop]; exact hq) (hend v w1 h1 h2)
   rw [List.length_drop] at h3
   exact h3) n (Array.replicate l.length false) (fun _ => undef) w.drew hleft h0 ⟨by simp, fun j _ hj => by simp at hj; simp [hj]⟩ (Below.refl _ _) (fun i _ hl => by rw [hrep] at hl; cases hl)
 rw [putsIf_none (l.take n) 0 a fun i _ _ => hrep i, Nat.sub_add_cancel hn] at h2
 simpa using h2
theorem stays_nil : ∀ i : Nat, Stays (([] : List (Value → World → Prop)).getD i (fun _ _ => True)) := fun i => by simp [Stays]
theorem stays_cons {T : Value → World → Prop} {L : List (Value → World → Prop)} (h : Stays T) (hL : ∀ i : Nat, Stays (L.getD i (fun _ _ => True))) : ∀ i : Nat, Stays ((T :: L).getD i (fun _ _ => True))
 | 0 => h
 | i + 1 => by simpa using hL i
theorem stays_eq (c : Value) : Stays (fun u _ => u = c) := fun _ _ _ _ h => h
/-- The operations, one obligation each. -/
def hopsR (P : Program) (ops : Array Oper) (T : Nat → Value → World → Prop) (w0 : World) (F : (Nat → Value) → Act) : List Oper → Nat → Prop
 | [], _ => True
 | o :: l, k => (∀ v w1, Below w0.heap.size w0 w1 → (∀ p ∈ predsOf .any ops k, T p (v p) w1) → TyAt P ops o (F v) w1 (T k)) ∧ hopsR P ops T w0 F l (k + 1)
theorem hops_of {T : Nat → Value → World → Prop} {w0 : World} {F : (Nat → Value) → Act} : ∀ (l : List Oper) (k : Nat), hopsR P ops T w0 F l k → ∀ j o, l[j]? = some o → ∀ v w1, Below w0.heap.size w0 w1 → (∀ p ∈ predsOf .any ops (k + j), T p (v p) w1) → TyAt P ops o (F v) w1 (T (k + j))
 | [], _, _, j, o, h => by simp at h
 | o' :: l, k, hh, 0, o, h => by
  simp only [List.getElem?_cons_zero, Option.some.injEq] at h
  subst h; exact hh.1
 | o' :: l, k, hh, j + 1, o, h => by
  have := hops_of l (k + 1) hh.2 j o (by simpa using h)
  rwa [show k + 1 + j = k + (j + 1) by omega] at this
/-- region_ty, with its properties as a list. -/
theorem region_tl (n : Nat) (L : List (Value → World → Prop)) {id : Nat} {Q : Exit → Act → World → Prop} {a : Act} {w : World} {l : List Oper} (hm : P.follows .mixedOrders = true) (hB : tyB n l = true) (hT : ∀ i, Stays (L.getD i (fun _ _ => True)))
  (hops : hopsR P l.toArray (fun i => L.getD i (fun _ _ => True)) w.drew (fun v => putsV (l.take n) 0 v a) (l.take n) 0)
  (hend : ∀ v w1, Below w.drew.heap.size w.drew w1 → (∀ i, i < n → L.getD i (fun _ _ => True) (v i) w1) → wpList P l.toArray Q (l.drop n) (putsV (l.take n) 0 v a) w1) : (Code.region id l.toArray true).wp P Q a w :=
 region_ty n (fun i => L.getD i (fun _ _ => True)) hm hB hT (fun j o hj ho v w1 hb hp => by
  have := hops_of (l.take n) 0 hops j o (by rw [List.getElem?_take, if_pos hj]; exact ho) v w1 hb (by rw [Nat.zero_add]; exact hp)
  rwa [Nat.zero_add] at this) hend
end
end Go.Proofs.YtkdbhacimoaohaaGreatDoor
namespace Go.Proofs.YtkdbhacimoaohaaGreatDoor
open Go.RowKit
section
variable {P : Program} {ops : Array Oper} {C : World → Prop}
theorem alloc_run {P : Program} {o : Oper} {ev : Operand → Value} {e t : TypeId} {c : Array Value} (he : o.op = .alloc e) (h : ∀ w, (Instr.alloc e true (.tuple #[])).run P w = .ok (.pointer (some ⟨w.heap.size, 0, none⟩)) (w.alloc (.cells c t))) (w : World) :
  (execOp ev o).run P w = .ok (.value (.pointer (some ⟨w.heap.size, 0, none⟩))) (w.alloc (.cells c t)) := by
 simp only [execOp, he]
 rw [Sem.run_bind, h w]
 rfl
/-- What the operations that make boxes do. -/
def newR (P : Program) (l : List Oper) : List Nat → Prop
 | [] => True
 | j :: A => (∃ o e c t, l[j]? = some o ∧ o.guard = none ∧ o.op = .alloc e ∧ ∀ w, (Instr.alloc e true (.tuple #[])).run P w = .ok (.pointer (some ⟨w.heap.size, 0, none⟩)) (w.alloc (.cells c t))) ∧ newR P l A
theorem newR_spec {P : Program} {l : List Oper} : ∀ {A : List Nat}, newR P l A → ∀ j o, l[j]? = some o → A.contains j = true → o.guard = none ∧ ∃ e c t, o.op = .alloc e ∧ ∀ w, (Instr.alloc e true (.tuple #[])).run P w = .ok (.pointer (some ⟨w.heap.size, 0, none⟩)) (w.alloc (.cells c t))
 | [], _, _, _, _, hA => by simp at hA
 | k :: A, h, j, o, ho, hA => by
  obtain ⟨⟨o', e, c, t, h1, h2, h3, h4⟩, hr⟩ := h
  rcases List.mem_cons.1 (List.contains_iff_mem.1 hA) with e1 | e1
  ·subst e1
   rw [ho] at h1
   obtain rfl := Option.some.inj h1
   exact ⟨h2, e, c, t, h3, h4⟩
  ·exact newR_spec hr j o ho (List.contains_iff_mem.2 e1)
theorem wpAny_ta {n s : Nat} {l : List Oper} {T : Nat → Value → World → Prop} {w0 : World} {a0 : Act} {Q : Exit → Act → World → Prop} {A : Nat → Bool} (hT : ∀ i, Stays (T i)) (hsel : Region.noSelect l.toArray = true) (hn : n ≤ l.length)
  (hB : barB .any l.toArray n = true) (hN : nodupD (l.take n) = true) (hD : depB l.toArray n = true)
  (hops : ∀ j o, j < n → l[j]? = some o → ∀ v w, Below w0.heap.size w0 w → (∀ p ∈ predsOf .any l.toArray j, T p (v p) w) → TyAt P l.toArray o (putsV (l.take n) 0 v a0) w (T j))
  (hptr : ∀ j, A j = true → ∀ u w, T j u w → ∃ k, u = .pointer (some ⟨k, 0, none⟩) ∧ k < w.heap.size)
  (hnew : ∀ j o, l[j]? = some o → A j = true → o.guard = none ∧ ∃ e c t, o.op = .alloc e ∧ ∀ w, (Instr.alloc e true (.tuple #[])).run P w = .ok (.pointer (some ⟨w.heap.size, 0, none⟩)) (w.alloc (.cells c t)))
  (hend : ∀ v w, Below w0.heap.size w0 w → (∀ i, i < n → T i (v i) w) → (∀ i j, i < n → j < n → i ≠ j → A i = true → A j = true → v i ≠ v j) → wpAny P .any l.toArray Q s (canonL l.length n) (putsV (l.take n) 0 v a0) w) :
  ∀ (m : Nat) (listed : Array Bool) (v : Nat → Value) (w : World), left n listed = m → closedL .any l.toArray listed → sufL n l.toArray listed → Below w0.heap.size w0 w →
   (∀ i, i < n → listed.getD i false = true → T i (v i) w) → (∀ i j, i < n → j < n → i ≠ j → A i = true → A j = true → listed.getD i false = true → listed.getD j false = true → v i ≠ v j) → wpAny P .any l.toArray Q (s + m) listed (putsIf (l.take n) 0 (fun i => listed.getD i false) v a0) w := by
 intro m
 have hlen : (l.take n).length = n := by rw [List.length_take]; omega
 induction m with
 | zero =>
  intro listed v w hl hc hu hb ht hne
  have hd := left_zero hl
  rw [putsIf_all (l.take n) 0 a0 fun i _ h2 => doneN_iff.1 hd i (by omega)]
  have e := canon_of hu hd
  rw [show l.toArray.size = l.length by simp] at e
  rw [e]
  exact hend v w hb (fun i hi => ht i hi (doneN_iff.1 hd i hi)) fun i j hi hj hij ha hb' => hne i j hi hj hij ha hb' (doneN_iff.1 hd i hi) (doneN_iff.1 hd j hj)
 | succ m ih =>
  intro listed v w hl hc hu hb ht hne
  have hnd := left_some hl
  refine ⟨fun h0 => absurd h0 (ready_some hu.1 (by simpa using hn) hD hl), fun j hj => ?_⟩
  have hjn := bar hB hc hj hnd
  obtain ⟨hju, o, ho, -⟩ := mem_ready.1 hj
  have hpre := preds_of_ready hj
  have hol : l[j]? = some o := by simpa using ho
  have hjs : j < l.toArray.size := (Array.getElem?_eq_some_iff.1 ho).1
  have hty := hops j o hjn hol v w hb fun p hp => ht p (by have := depB_pred hD hjn hp; omega) (hpre p hp)
  have hag : ∀ t ∈ o.looksAt l.toArray, (putsIf (l.take n) 0 (fun i => listed.getD i false) v a0).tmps[t]? = (putsV (l.take n) 0 v a0).tmps[t]? := fun t ht' =>
   get_puts (l.take n) 0 a0 a0 rfl fun i o' ho' hd' => by
    have hin : i < n := by rw [← hlen]; exact (List.getElem?_eq_some_iff.1 ho').1
    have ho2 : l.toArray[i]? = some o' := by rw [List.getElem?_take, if_pos hin] at ho'; simpa using ho'
    rw [Nat.zero_add]
    exact hpre i (depB_looks hD hjn hin ho ho2 ht' hd')
  have step : ∀ u w', Below w.heap.size w w' → T j u w' → (A j = true → u = .pointer (some ⟨w.heap.size, 0, none⟩)) → wpAny P .any l.toArray Q (s + m) (listed.setIfInBounds j true) ((putsIf (l.take n) 0 (fun i => listed.getD i false) v a0).put o.dst u) w' := by
   intro u w' hw' hu' hun
   have e := put_at (v := v) (v' := fun i => if i = j then u else v i) (b := fun i => listed.getD i false) (b' := fun i => (listed.setIfInBounds j true).getD i false) (j := j) (u := u) (unl hju) (by simp [hu.1]; simpa using hjs) (by simp)
    (fun i hi => ⟨getD_set_ne false fun e => hi e.symm, by simp [hi]⟩) (l.take n) 0 a0 o hN (Nat.zero_le _) (by rw [Nat.sub_zero, List.getElem?_take, if_pos hjn]; exact hol)
   rw [e]
   refine ih _ _ w' (left_set (ops := l.toArray) hu.1 hjn hjs (unl hju) hl) (hc.set hj) ⟨by simpa using hu.1, fun k hk hks => by rw [getD_set_ne true (by omega)]; exact hu.2 k hk hks⟩ (hb.trans (hw'.mono hb.size)) (fun i hi hli => ?_) ?_
   ·by_cases e : i = j
    ·subst e; simpa using hu'
    ·rw [getD_set_ne false fun e' => e e'.symm] at hli
     simp only [if_neg e]
     exact hT i _ _ _ hw' (ht i hi hli)
   intro i k hi hk hik hAi hAk hli hlk
   by_cases e : i = j
   ·subst e
    have e2 : k ≠ i := fun e => hik e.symm
    rw [getD_set_ne false fun e' => e2 e'.symm] at hlk
    simp only [if_neg e2, if_pos]
    obtain ⟨b, hb1, hb2⟩ := hptr k hAk _ _ (ht k hk hlk)
    rw [hb1, hun hAi]
    intro he
    simp only [Value.pointer.injEq, Option.some.injEq, Addr.mk.injEq, and_true] at he
    omega
   ·rw [getD_set_ne false fun e' => e e'.symm] at hli
    by_cases e2 : k = j
    ·subst e2
     simp only [if_neg e, if_pos]
     obtain ⟨b, hb1, hb2⟩ := hptr i hAi _ _ (ht i hi hli)
     rw [hb1, hun hAk]
     intro he
     simp only [Value.pointer.injEq, Option.some.injEq, Addr.mk.injEq, and_true] at he
     omega
    ·rw [getD_set_ne false fun e' => e2 e'.symm] at hlk
     simp only [if_neg e, if_neg e2]
     exact hne i k hi hk hik hAi hAk hli hlk
  unfold wpOp
  simp only [ho]
  unfold TyAt at hty
  rw [← wanted_same hag] at hty
  by_cases hw : Region.wanted o (yielded l.toArray (putsIf (l.take n) 0 (fun i => listed.getD i false) v a0).tmps) = true
  ·simp only [hw, if_true] at hty ⊢
   refine .inl ?_
   unfold Oper.wp
   rw [exec_same (fun cs b => Region.noSelect_spec hsel j o cs b ho) hag]
   have hal : A j = true → ∀ u w', (execOp (putsV (l.take n) 0 v a0).eval o).run P w = .ok (.value u) w' → u = .pointer (some ⟨w.heap.size, 0, none⟩) := fun hA u w' hr => by
    obtain ⟨_, e, c, t, he, hal⟩ := hnew j o hol hA
    rw [alloc_run he hal] at hr
    simp only [Result.ok.injEq, Next.value.injEq] at hr
    exact hr.1.symm
   have hal2 : A j = true → ∀ w', (execOp (putsV (l.take n) 0 v a0).eval o).run P w ≠ .ok .skip w' := fun hA w' hr => by
    obtain ⟨_, e, c, t, he, hal⟩ := hnew j o hol hA
    rw [alloc_run he hal] at hr
    cases hr
   have hal3 : A j = true → ∀ f args w', (execOp (putsV (l.take n) 0 v a0).eval o).run P w ≠ .ok (.enter f args) w' := fun hA f args w' hr => by
    obtain ⟨_, e, c, t, he, hal⟩ := hnew j o hol hA
    rw [alloc_run he hal] at hr
    cases hr
   generalize (execOp (putsV (l.take n) 0 v a0).eval o).run P w = r at *
   cases r with
   | ok nx w' =>
    cases nx <;> simp only [tyUpon] at hty <;> simp only [Oper.upon]
    case value u => exact step u w' hty.1 hty.2 fun hA => hal hA u w' rfl
    case skip => exact step undef w' hty.1 hty.2 fun hA => absurd rfl (hal2 hA w')
    case enter f args =>
     obtain ⟨rfl, hcall⟩ := hty
     exact hcall.mono fun e w'' ⟨u, he, h1, h2⟩ => by subst he; exact step u w'' h2 h1 fun hA => absurd rfl (hal3 hA f args _)
   | halt x w' => simp only [tyUpon] at hty
  ·simp only [hw] at hty ⊢
   exact step undef w (Below.refl _ _) hty fun hA => by
    obtain ⟨hg, _⟩ := hnew j o hol hA
    exact absurd (by unfold Region.wanted; rw [hg]) hw
/-- **A region whose first n operations each give a value of a property; then the others, in their order.** -/
theorem region_ta (n : Nat) (T : Nat → Value → World → Prop) (A : Nat → Bool) {id : Nat} {Q : Exit → Act → World → Prop} {a : Act} {w : World} {l : List Oper} (hm : P.follows .mixedOrders = true) (hB : tyB n l = true) (hT : ∀ i, Stays (T i))
  (hops : ∀ j o, j < n → l[j]? = some o → ∀ v w1, Below w.drew.heap.size w.drew w1 → (∀ p ∈ predsOf .any l.toArray j, T p (v p) w1) → TyAt P l.toArray o (putsV (l.take n) 0 v a) w1 (T j))
  (hptr : ∀ j, A j = true → ∀ u w, T j u w → ∃ k, u = .pointer (some ⟨k, 0, none⟩) ∧ k < w.heap.size)
  (hnew : ∀ j o, l[j]? = some o → A j = true → o.guard = none ∧ ∃ e c t, o.op = .alloc e ∧ ∀ w, (Instr.alloc e true (.tuple #[])).run P w = .ok (.pointer (some ⟨w.heap.size, 0, none⟩)) (w.alloc (.cells c t)))
  (hend : ∀ v w1, Below w.drew.heap.size w.drew w1 → (∀ i, i < n → T i (v i) w1) → (∀ i j, i < n → j < n → i ≠ j → A i = true → A j = true → v i ≠ v j) → wpList P l.toArray Q (l.drop n) (putsV (l.take n) 0 v a) w1) : (Code.region id l.toArray true).wp P Q a w := by
 simp only [tyB, Bool.and_eq_true, decide_eq_true_eq] at hB
 obtain ⟨⟨⟨⟨⟨hs, hn⟩, hb⟩, hN⟩, hD⟩, hq⟩ := hB
 refine wp_region_any hm ?_
 have hrep : ∀ i, (Array.replicate l.length false).getD i false = false := fun i => by
  rcases Nat.lt_or_ge i l.length with h' | h' <;> simp [h']
 have h0 : closedL .any l.toArray (Array.replicate l.length false) := fun j o _ hl => by rw [hrep] at hl; cases hl
 have hleft : left n (Array.replicate l.length false) = n := by
  unfold left
  rw [List.countP_eq_length.2 fun i _ => by rw [hrep]; rfl, List.length_range]
 have h2 := wpAny_ta (A := A) (P := P) (s := l.length - n) (Q := Q) (a0 := a) hT hs hn hb hN hD hops hptr hnew (fun v w1 h1 h2 hdis => by
   have h3 := wpAny_of_seq (md := .any) (P := P) (Q' := Q) (l.drop n) n (canonL l.length n) (putsV (l.take n) 0 v a) w1 (fun j hj => by simp [List.getElem?_drop]) (by rw [List.length_drop]; exact hq) (hend v w1 h1 h2 hdis)
   rw [List.length_drop] at h3
   exact h3) n (Array.replicate l.length false) (fun _ => undef) w.drew hleft h0 ⟨by simp, fun j _ hj => by simp at hj; simp [hj]⟩ (Below.refl _ _) (fun i _ hl => by rw [hrep] at hl; cases hl) (fun i j _ _ _ _ _ hl => by rw [hrep] at hl; cases hl)
 rw [putsIf_none (l.take n) 0 a fun i _ _ => hrep i, Nat.sub_add_cancel hn] at h2
 simpa using h2
/-- region_ta, with its properties as a list; A: the operations that make boxes. -/
theorem region_tal (n : Nat) (L : List (Value → World → Prop)) (A : List Nat) {id : Nat} {Q : Exit → Act → World → Prop} {a : Act} {w : World} {l : List Oper} (hm : P.follows .mixedOrders = true) (hB : tyB n l = true) (hT : ∀ i, Stays (L.getD i (fun _ _ => True)))
  (hops : hopsR P l.toArray (fun i => L.getD i (fun _ _ => True)) w.drew (fun v => putsV (l.take n) 0 v a) (l.take n) 0)
  (hptr : ∀ j, A.contains j = true → ∀ u w, L.getD j (fun _ _ => True) u w → ∃ k, u = .pointer (some ⟨k, 0, none⟩) ∧ k < w.heap.size)
  (hnew : newR P l A)
  (hend : ∀ v w1, Below w.drew.heap.size w.drew w1 → (∀ i, i < n → L.getD i (fun _ _ => True) (v i) w1) → (∀ i j, i < n → j < n → i ≠ j → A.contains i = true → A.contains j = true → v i ≠ v j) → wpList P l.toArray Q (l.drop n) (putsV (l.take n) 0 v a) w1) : (Code.region id l.toArray true).wp P Q a w :=
 region_ta n (fun i => L.getD i (fun _ _ => True)) (fun i => A.contains i) hm hB hT (fun j o hj ho v w1 hb hp => by
  have := hops_of (l.take n) 0 hops j o (by rw [List.getElem?_take, if_pos hj]; exact ho) v w1 hb (by rw [Nat.zero_add]; exact hp)
  rwa [Nat.zero_add] at this) hptr (fun j o ho hA => newR_spec hnew j o ho hA) hend
end
end Go.Proofs.YtkdbhacimoaohaaGreatDoor
namespace Go.Proofs.YtkdbhacimoaohaaGreatDoor.Rx
open Go.RowKit
/-- The number that digits spell. -/
def tv : List Nat → Nat
 | [] => 0
 | d :: l => d + 10000 * tv l
theorem tv_nil : tv [] = 0 := rfl
/-- The digits of a number. -/
def td (n : Nat) : List Nat := if h : n = 0 then [] else n % 10000 :: td (n / 10000)
theorem td_zero : td 0 = [] := by rw [td, dif_pos rfl]
theorem td_pos {n : Nat} (h : n ≠ 0) : td n = n % 10000 :: td (n / 10000) := by rw [td, dif_neg h]
theorem td_lt (n : Nat) : ∀ d ∈ td n, d < 10000 := by
 induction n using Nat.strongRecOn with
 | _ n ih =>
  by_cases h : n = 0
  ·rw [h, td_zero]; intro d hd; cases hd
  ·rw [td_pos h]
   intro d hd
   rcases List.mem_cons.1 hd with rfl | hd
   ·omega
   ·exact ih (n / 10000) (by omega) d hd
theorem td_nil {n : Nat} : td n = [] ↔ n = 0 := by
 by_cases h : n = 0
 ·rw [h, td_zero]; simp
 ·rw [td_pos h]; simp [h]
theorem tv_append (l m : List Nat) : tv (l ++ m) = tv l + 10000 ^ l.length * tv m := by
 induction l with
 | nil => simp [tv]
 | cons d l ih => rw [List.cons_append, tv, ih, tv, List.length_cons, Nat.pow_succ, Nat.mul_add, Nat.mul_comm _ 10000, Nat.mul_assoc]; omega
theorem tv_lt {l : List Nat} (h : ∀ d ∈ l, d < 10000) : tv l < 10000 ^ l.length := by
 induction l with
 | nil => exact Nat.one_pos
 | cons d l ih =>
  have h1 := ih fun x hx => h x (List.mem_cons_of_mem _ hx)
  have h2 := h d List.mem_cons_self
  rw [tv, List.length_cons, Nat.pow_succ]
  omega
theorem tv_zeros (k : Nat) : tv (List.replicate k 0) = 0 := by
 induction k with
 | zero => rfl
 | succ k ih => rw [List.replicate_succ, tv, ih]
theorem td_length {n k : Nat} : (td n).length ≤ k ↔ n < 10000 ^ k := by
 induction k generalizing n with
 | zero =>
  rw [Nat.pow_zero]
  constructor
  ·intro h; have := td_nil.1 (List.eq_nil_of_length_eq_zero (l := td n) (by omega)); omega
  ·intro h; rw [show n = 0 by omega, td_zero]; exact Nat.le_refl _
 | succ k ih =>
  by_cases h : n = 0
  ·rw [h, td_zero]; exact ⟨fun _ => Nat.pow_pos (by omega), fun _ => Nat.zero_le _⟩
  ·rw [td_pos h, List.length_cons, Nat.pow_succ]
   have := ih (n := n / 10000)
   constructor
   ·intro h1; have := this.1 (by omega); omega
   ·intro h1; have := this.2 (by omega); omega
theorem tv_snoc (l : List Nat) (d : Nat) : tv (l ++ [d]) = tv l + 10000 ^ l.length * d := by rw [tv_append]; simp [tv]
theorem tv_take_getElem {l : List Nat} {k : Nat} (h : k < l.length) : tv (l.take (k + 1)) = tv (l.take k) + 10000 ^ k * l[k] := by
 rw [List.take_succ_eq_append_getElem h, tv_snoc, List.length_take, Nat.min_eq_left (Nat.le_of_lt h)]
/-- A digit, or 0 behind the last one. -/
def dg (l : List Nat) (i : Nat) : Nat := l.getD i 0
theorem dg_lt {l : List Nat} (h : ∀ d ∈ l, d < 10000) (i : Nat) : dg l i < 10000 := by
 unfold dg
 rcases Nat.lt_or_ge i l.length with hi | hi
 ·simp [hi]; exact h _ (List.getElem_mem hi)
 ·simp [hi]
theorem dg_in {l : List Nat} {i : Nat} (h : i < l.length) : dg l i = l[i] := by unfold dg; simp [h]
theorem dg_out {l : List Nat} {i : Nat} (h : l.length ≤ i) : dg l i = 0 := by unfold dg; simp [h]
theorem tv_take (l : List Nat) (k : Nat) : tv (l.take (k + 1)) = tv (l.take k) + 10000 ^ k * dg l k := by
 rcases Nat.lt_or_ge k l.length with h | h
 ·rw [tv_take_getElem h, dg_in h]
 ·rw [dg_out h, List.take_of_length_le (by omega), List.take_of_length_le h]; omega
/-- A slice of ints that can be read. -/
structure Sd (w : World) (a : Addr) (l : List Nat) : Prop where
 cell : ∀ (i : Nat) (h : i < l.length), w.cell? (a.add i) = some (.int .i64 ((l[i] : Nat) : Int))
 blk : a.block < w.heap.size
theorem addB (a : Addr) (i : Nat) : (a.add i).block = a.block := by unfold Addr.add; split <;> rfl
theorem Sd.below {w w' : World} {a : Addr} {l : List Nat} (h : Sd w a l) (hb : Below w.heap.size w w') : Sd w' a l :=
 ⟨fun i hi => (hb.cell (p := a.add i) (by rw [addB]; exact h.blk)).trans (h.cell i hi), Nat.lt_of_lt_of_le h.blk hb.size⟩
theorem Sd.left {w : World} {a : Addr} {l m : List Nat} (h : Sd w a (l ++ m)) : Sd w a l :=
 ⟨fun i hi => by rw [h.cell i (by rw [List.length_append]; omega), List.getElem_append_left hi], h.blk⟩
def Sl (w : World) (v : Value) (l : List Nat) : Prop := (∃ ao c, v = .slice ao 0 c ∧ l = [] ∧ (ao = none → c = 0)) ∨ ∃ a c, v = .slice (some a) l.length c ∧ l.length ≤ c ∧ Sd w a l
theorem Sl.below {w w' : World} {v : Value} {l : List Nat} (h : Sl w v l) (hb : Below w.heap.size w w') : Sl w' v l := by
 rcases h with h | ⟨a, c, h1, h2, h3⟩
 ·exact .inl h
 ·exact .inr ⟨a, c, h1, h2, h3.below hb⟩
theorem Sl.form {w : World} {v : Value} {l : List Nat} (h : Sl w v l) : ∃ ao c, v = .slice ao l.length c := by
 rcases h with ⟨ao, c, rfl, rfl, -⟩ | ⟨a, c, rfl, _⟩
 ·exact ⟨_, _, rfl⟩
 ·exact ⟨_, _, rfl⟩
theorem Sl.nil (w : World) : Sl w (.slice none 0 0) [] := .inl ⟨_, _, rfl, rfl, fun _ => rfl⟩
theorem Sl.drew {w : World} {v : Value} {l : List Nat} (h : Sl w v l) : Sl w.drew v l := by
 rcases h with h | ⟨a, c, h1, h2, h3⟩
 ·exact .inl h
 ·exact .inr ⟨a, c, h1, h2, h3.cell, h3.blk⟩
abbrev iv (d : Nat) : Value := .int .i64 (d : Int)
end Go.Proofs.YtkdbhacimoaohaaGreatDoor.Rx
namespace Go.Proofs.YtkdbhacimoaohaaGreatDoor.Rx
open Go.RowKit
attribute [local irreducible] tv dg
def lenOf : Value → Nat | .slice _ n _ => n | _ => 0
end Go.Proofs.YtkdbhacimoaohaaGreatDoor.Rx
namespace Go.Proofs.YtkdbhacimoaohaaGreatDoor.Rx
open Go.RowKit
attribute [local irreducible] tv dg
/-- What the digits so far spell, with what is left. -/
theorem td_step {n k : Nat} (hk : k < (td n).length) : n / 10000 ^ k ≠ 0 ∧ (td n)[k] = n / 10000 ^ k % 10000 := by
 induction k generalizing n with
 | zero =>
  have h0 : n ≠ 0 := fun e => by rw [e, td_zero] at hk; exact absurd hk (by simp)
  simp only [Nat.pow_zero, Nat.div_one]
  refine ⟨h0, ?_⟩
  simp only [td_pos h0, List.getElem_cons_zero]
 | succ k ih =>
  have h0 : n ≠ 0 := fun e => by rw [e, td_zero] at hk; exact absurd hk (by simp)
  have hk' : k < (td (n / 10000)).length := by rw [td_pos h0, List.length_cons] at hk; omega
  have := ih hk'
  rw [Nat.div_div_eq_div_mul, Nat.mul_comm, ← Nat.pow_succ] at this
  refine ⟨this.1, ?_⟩
  simp only [td_pos h0, List.getElem_cons_succ]
  exact this.2
theorem td_end {n k : Nat} (hk : (td n).length ≤ k) : n / 10000 ^ k = 0 := Nat.div_eq_of_lt (td_length.1 hk)
end Go.Proofs.YtkdbhacimoaohaaGreatDoor.Rx
namespace Go.Proofs.YtkdbhacimoaohaaGreatDoor.Rx
open Go.RowKit
attribute [local irreducible] tv dg
/-- What Add's rounds keep. -/
structure AddS (A B S : List Nat) (i c : Nat) : Prop where
 len : S.length = i
 lt : ∀ d ∈ S, d < 10000
 car : c ≤ 1
 eq : tv S + 10000 ^ i * c = tv (A.take i) + tv (B.take i)
theorem AddS.step {A B S : List Nat} {i c : Nat} (h : AddS A B S i c) (hA : ∀ d ∈ A, d < 10000) (hB : ∀ d ∈ B, d < 10000) :
  AddS A B (S ++ [(dg A i + dg B i + c) % 10000]) (i + 1) ((dg A i + dg B i + c) / 10000) := by
 have h1 := dg_lt hA i
 have h2 := dg_lt hB i
 have h3 := h.car
 refine ⟨by rw [List.length_append, h.len]; rfl, fun d hd => ?_, by omega, ?_⟩
 ·rcases List.mem_append.1 hd with hd | hd
  ·exact h.lt d hd
  ·rw [List.mem_singleton.1 hd]; omega
 ·rw [tv_snoc, h.len, tv_take, tv_take, Nat.pow_succ]
  have h4 := h.eq
  generalize dg A i = x at *
  generalize dg B i = y at *
  have h5 : (x + y + c) % 10000 + 10000 * ((x + y + c) / 10000) = x + y + c := by omega
  have h6 : 10000 ^ i * ((x + y + c) % 10000) + 10000 ^ i * 10000 * ((x + y + c) / 10000) = 10000 ^ i * x + 10000 ^ i * y + 10000 ^ i * c := by
   rw [Nat.mul_assoc, ← Nat.mul_add, h5, Nat.mul_add, Nat.mul_add]
  generalize 10000 ^ i * ((x + y + c) % 10000) = p at *
  generalize 10000 ^ i * 10000 * ((x + y + c) / 10000) = q at *
  omega
end Go.Proofs.YtkdbhacimoaohaaGreatDoor.Rx
namespace Go.Proofs.YtkdbhacimoaohaaGreatDoor.Rx
open Go.RowKit
attribute [local irreducible] tv dg
theorem add0 (g i : Nat) : (⟨g, 0, none⟩ : Addr).add i = ⟨g, i, none⟩ := by
 unfold Addr.add
 split <;> simp_all
/-- Block g holds just these ints. -/
def IB (w : World) (g : Nat) (l : List Nat) : Prop := w.heap[g]? = some (.cells (l.map iv).toArray 3 (0, 0))
section
variable {w w' : World} {g : Nat} {l : List Nat}
theorem IB.lt (h : IB w g l) : g < w.heap.size := (Array.getElem?_eq_some_iff.1 h).1
theorem IB.cell (h : IB w g l) (i : Nat) (hi : i < l.length) : w.cell? ⟨g, i, none⟩ = some (.int .i64 ((l[i] : Nat) : Int)) := by
 rw [cell_of_row w g i _ _ _ h]; simp [hi]
theorem IB.frozen (h : IB w g l) (i : Nat) : w.frozen? ⟨g, i, none⟩ = false := frozen_of_row w g i _ _ h
theorem IB.set (h : IB w g l) (i : Nat) (d : Nat) : IB (w.setCell ⟨g, i, none⟩ (.int .i64 (d : Int))) g (l.set i d) := by
 unfold IB at *
 rw [heap_setCell_same w g i _ _ _ h]
 congr 2
 rw [List.map_set]; simp
theorem IB.keep (h : IB w g l) (hk : w'.heap[g]? = w.heap[g]?) : IB w' g l := hk.trans h
theorem IB.below {B : Nat} (h : IB w g l) (hb : Below B w w') (hg : g < B) : IB w' g l := h.keep (hb.block g hg)
theorem IB.drewN (h : IB w g l) (n : Nat) : IB (w.drewN n) g l := h
end
/-- Zeros, as make lays them. -/
def zobjI (n : Nat) : Obj := .cells ((List.replicate n 0).map iv).toArray 3
theorem IB.zeros (w : World) (n : Nat) : IB (w.alloc (zobjI n)) w.heap.size (List.replicate n 0) := heap_alloc_new w _
theorem tv_set {l : List Nat} {j : Nat} (h : j < l.length) (d : Nat) : tv (l.set j d) + 10000 ^ j * l[j] = tv l + 10000 ^ j * d := by
 induction l generalizing j with
 | nil => exact absurd h (by simp)
 | cons x l ih =>
  cases j with
  | zero => simp only [List.set_cons_zero, List.getElem_cons_zero, tv, Nat.pow_zero, Nat.one_mul]; omega
  | succ j =>
   have hj : j < l.length := by simpa using h
   have := ih (j := j) hj
   simp only [List.set_cons_succ, List.getElem_cons_succ, tv, Nat.pow_succ]
   rw [Nat.mul_comm (10000 ^ j) 10000, Nat.mul_assoc, Nat.mul_assoc]
   generalize 10000 ^ j * l[j] = p at *
   generalize 10000 ^ j * d = q at *
   omega
/-- What Mul's inner rounds keep. -/
structure MulS (A B X : List Nat) (i k c : Nat) : Prop where
 len : X.length = A.length + B.length
 lt : ∀ d ∈ X, d < 10000
 car : c < 10000
 eq : tv X + 10000 ^ (i + k) * c = tv (A.take i) * tv B + 10000 ^ i * (dg A i * tv (B.take k))
theorem MulS.step {A B X : List Nat} {i k c : Nat} (h : MulS A B X i k c) (hA : ∀ d ∈ A, d < 10000) (hB : ∀ d ∈ B, d < 10000) (hj : i + k < X.length) {s : Nat} (hs : s = X[i + k] + dg A i * dg B k + c) :
  s < 100000000 ∧ MulS A B (X.set (i + k) (s % 10000)) i (k + 1) (s / 10000) := by
 have h1 := dg_lt hA i
 have h2 := dg_lt hB k
 have h3 := h.car
 have hx := h.lt _ (List.getElem_mem hj)
 have hp : dg A i * dg B k ≤ 9999 * 9999 := Nat.mul_le_mul (by omega) (by omega)
 have hs1 : s < 100000000 := by omega
 refine ⟨hs1, by rw [List.length_set]; exact h.len, fun d hd => ?_, by omega, ?_⟩
 ·rcases List.mem_or_eq_of_mem_set hd with hd | hd
  ·exact h.lt d hd
  ·omega
 ·have e1 := tv_set hj (s % 10000)
  have e2 := h.eq
  rw [tv_take, ← Nat.add_assoc, Nat.pow_succ]
  have e3 : s % 10000 + 10000 * (s / 10000) = X[i + k] + dg A i * dg B k + c := by omega
  have e4 : 10000 ^ (i + k) * (s % 10000) + 10000 ^ (i + k) * 10000 * (s / 10000) = 10000 ^ (i + k) * X[i + k] + 10000 ^ (i + k) * (dg A i * dg B k) + 10000 ^ (i + k) * c := by
   rw [Nat.mul_assoc, ← Nat.mul_add, e3, Nat.mul_add, Nat.mul_add]
  have e5 : 10000 ^ i * (dg A i * (tv (B.take k) + 10000 ^ k * dg B k)) = 10000 ^ i * (dg A i * tv (B.take k)) + 10000 ^ (i + k) * (dg A i * dg B k) := by
   rw [Nat.mul_add, Nat.mul_add, Nat.pow_add, Nat.mul_left_comm (dg A i), Nat.mul_assoc (10000 ^ i)]
  rw [e5]
  generalize 10000 ^ (i + k) * (s % 10000) = p1 at *
  generalize 10000 ^ (i + k) * 10000 * (s / 10000) = p2 at *
  generalize 10000 ^ (i + k) * X[i + k] = p3 at *
  generalize 10000 ^ (i + k) * (dg A i * dg B k) = p4 at *
  generalize 10000 ^ (i + k) * c = p5 at *
  generalize 10000 ^ i * (dg A i * tv (B.take k)) = p6 at *
  generalize tv (A.take i) * tv B = p7 at *
  generalize tv (X.set (i + k) (s % 10000)) = p8 at *
  generalize tv X = p9 at *
  omega
/-- Behind b's digits one carry may be left, and no more. -/
theorem MulS.carry {A B X : List Nat} {i k c : Nat} (h : MulS A B X i k c) (hA : ∀ d ∈ A, d < 10000) (hB : ∀ d ∈ B, d < 10000) (hi : i < A.length) (hk : B.length + 1 ≤ k) : c = 0 := by
 rcases Nat.eq_zero_or_pos c with h0 | h0
 ·exact h0
 ·have e := h.eq
  have e2 : tv (A.take i) * tv B + 10000 ^ i * (dg A i * tv (B.take k)) = tv (A.take (i + 1)) * tv B := by
   rw [List.take_of_length_le (l := B) (by omega), tv_take, Nat.add_mul, Nat.mul_assoc]
  have e3 : tv (A.take (i + 1)) < 10000 ^ (i + 1) := by
   have := tv_lt (l := A.take (i + 1)) fun d hd => hA d (List.mem_of_mem_take hd)
   rwa [List.length_take, Nat.min_eq_left (by omega)] at this
  have e4 := tv_lt hB
  have e5 : tv (A.take (i + 1)) * tv B < 10000 ^ (i + 1) * 10000 ^ B.length := Nat.lt_of_le_of_lt (Nat.mul_le_mul_left _ (Nat.le_of_lt e4)) (Nat.mul_lt_mul_of_pos_right e3 (Nat.pow_pos (by omega)))
  rw [← Nat.pow_add] at e5
  have e6 : 10000 ^ (i + 1 + B.length) ≤ 10000 ^ (i + k) := Nat.pow_le_pow_right (by omega) (by omega)
  have e7 : 10000 ^ (i + k) ≤ 10000 ^ (i + k) * c := Nat.le_mul_of_pos_right _ h0
  omega
theorem MulS.done {A B X : List Nat} {i k : Nat} (h : MulS A B X i k 0) (hk : B.length ≤ k) : MulS A B X (i + 1) 0 0 := by
 refine ⟨h.len, h.lt, by omega, ?_⟩
 have e := h.eq
 rw [List.take_of_length_le hk] at e
 rw [List.take_zero, tv_take, Nat.add_mul, Nat.mul_assoc]
 rw [Nat.mul_zero, Nat.add_zero] at e ⊢
 rw [e]
 have : tv [] = 0 := by unfold tv; rfl
 rw [this, Nat.mul_zero, Nat.mul_zero, Nat.add_zero]
theorem MulS.start (A B : List Nat) : MulS A B (List.replicate (A.length + B.length) 0) 0 0 0 := by
 refine ⟨List.length_replicate, fun d hd => by rw [(List.mem_replicate.1 hd).2]; omega, by omega, ?_⟩
 have : tv [] = 0 := by unfold tv; rfl
 rw [tv_zeros, List.take_zero, List.take_zero, this]
 simp
end Go.Proofs.YtkdbhacimoaohaaGreatDoor.Rx
namespace Go.Proofs.YtkdbhacimoaohaaGreatDoor.Rx
open Go.RowKit
attribute [local irreducible] tv dg
/-- A slice that holds a number's digits. -/
abbrev Rn (w : World) (v : Value) (n : Nat) : Prop := Sl w v (td n)
end Go.Proofs.YtkdbhacimoaohaaGreatDoor.Rx
namespace Go.Proofs.YtkdbhacimoaohaaGreatDoor.Rx
open Go.RowKit
attribute [local irreducible] tv dg cmpI
end Go.Proofs.YtkdbhacimoaohaaGreatDoor.Rx
namespace Go.Proofs.YtkdbhacimoaohaaGreatDoor.Rx
open Go.RowKit
attribute [local irreducible] tv dg cmpI
/-- What Sub's rounds keep. -/
structure SubS (A B S : List Nat) (i c : Nat) : Prop where
 len : S.length = i
 lt : ∀ d ∈ S, d < 10000
 car : c ≤ 1
 eq : tv (A.take i) + 10000 ^ i * c = tv S + tv (B.take i)
theorem SubS.step {A B S : List Nat} {i c d c' : Nat} (h : SubS A B S i c) (hd : d < 10000) (hc : c' ≤ 1) (he : d + dg B i + c = dg A i + 10000 * c') : SubS A B (S ++ [d]) (i + 1) c' := by
 refine ⟨by rw [List.length_append, h.len]; rfl, fun x hx => ?_, hc, ?_⟩
 ·rcases List.mem_append.1 hx with hx | hx
  ·exact h.lt x hx
  ·rw [List.mem_singleton.1 hx]; exact hd
 ·rw [tv_snoc, h.len, tv_take, tv_take, Nat.pow_succ]
  have h4 := h.eq
  have h6 : 10000 ^ i * d + 10000 ^ i * dg B i + 10000 ^ i * c = 10000 ^ i * dg A i + 10000 ^ i * 10000 * c' := by
   rw [Nat.mul_assoc, ← Nat.mul_add, ← Nat.mul_add, ← Nat.mul_add, he]
  generalize 10000 ^ i * d = p1 at *
  generalize 10000 ^ i * dg B i = p2 at *
  generalize 10000 ^ i * c = p3 at *
  generalize 10000 ^ i * dg A i = p4 at *
  generalize 10000 ^ i * 10000 * c' = p5 at *
  omega
theorem SubS.done {A B S : List Nat} {c : Nat} (h : SubS A B S A.length c) (hB : B.length ≤ A.length) (hle : tv B ≤ tv A) : tv S = tv A - tv B := by
 have e := h.eq
 rw [List.take_of_length_le (Nat.le_refl _), List.take_of_length_le hB] at e
 have h1 := tv_lt h.lt
 rw [h.len] at h1
 have hc := h.car
 rcases Nat.eq_zero_or_pos c with h0 | h0
 ·rw [h0, Nat.mul_zero] at e; omega
 ·rw [show c = 1 by omega, Nat.mul_one] at e; omega
end Go.Proofs.YtkdbhacimoaohaaGreatDoor.Rx
namespace Go.Proofs.YtkdbhacimoaohaaGreatDoor.Rx
open Go.RowKit
open Go.Lib (decDigits)
attribute [local irreducible] tv dg cmpI
/-- What Text has written behind digit i. -/
def TS (n i : Nat) (T : List UInt8) : Prop := (i < (td n).length ∧ decDigits n = decDigits (n / 10000 ^ i) ++ T) ∨ (i = (td n).length ∧ T = decDigits n)
theorem TS.start {n : Nat} (h : 0 < (td n).length) : TS n 0 [] := .inl ⟨h, by simp⟩
theorem TS.step {n i : Nat} {T : List UInt8} (h : TS n i T) (hl : i < (td n).length) (hi : i + 1 < (td n).length) : TS n (i + 1) (pad 4 ((td n)[i]'hl) ++ T) := by
 rcases h with ⟨h1, h2⟩ | ⟨h1, h2⟩
 ·refine .inl ⟨hi, ?_⟩
  have hd := (td_step h1).2
  have hq := (td_step hi).1
  have e : n / 10000 ^ i = n / 10000 ^ (i + 1) * 10 ^ 4 + (td n)[i] := by
   rw [hd, Nat.pow_succ, ← Nat.div_div_eq_div_mul]
   show _ = _ * 10000 + _
   omega
  have hlt : (td n)[i] < 10 ^ 4 := td_lt n _ (List.getElem_mem _)
  have := dec_mul_add 4 (n / 10000 ^ (i + 1)) ((td n)[i]) (by omega) hlt
  rw [h2, e, this, List.append_assoc]
 ·omega
theorem TS.last {n i : Nat} {T : List UInt8} (h : TS n i T) (hl : i < (td n).length) (hi : i + 1 = (td n).length) : 0 < (td n)[i]'hl ∧ TS n (i + 1) (decDigits ((td n)[i]'hl) ++ T) := by
 rcases h with ⟨h1, h2⟩ | ⟨h1, h2⟩
 ·have hd := td_step h1
  have h0 : n / 10000 ^ (i + 1) = 0 := td_end (by omega)
  have e : n / 10000 ^ i = (td n)[i] := by
   rw [hd.2]
   rw [Nat.pow_succ, ← Nat.div_div_eq_div_mul] at h0
   omega
  refine ⟨by rw [← e]; omega, .inr ⟨hi, ?_⟩⟩
  rw [h2, e]
 ·omega
theorem TS.len {n i : Nat} {T : List UInt8} (h : TS n i T) : T.length ≤ (decDigits n).length := by
 rcases h with ⟨h1, h2⟩ | ⟨h1, h2⟩
 ·rw [h2, List.length_append]; omega
 ·rw [h2]; exact Nat.le_refl _
end Go.Proofs.YtkdbhacimoaohaaGreatDoor.Rx
namespace Go.Proofs.YtkdbhacimoaohaaGreatDoor.Rx
open Go.RowKit
attribute [local irreducible] lo hs tv dg cmpI txt
end Go.Proofs.YtkdbhacimoaohaaGreatDoor.Rx
namespace Go.Proofs.YtkdbhacimoaohaaGreatDoor.Rx
open Go.RowKit
attribute [local irreducible] tv dg cmpI txt
/-- What is appended, chunk by chunk. -/
structure PS (l : List UInt8) (S : List Nat) (t e : Nat) : Prop where
 len : S.length = t
 lt : ∀ d ∈ S, d < 10000
 pos : e = l.length - 4 * t
 eq : tv S + 10000 ^ t * dval (l.take e) = dval l
theorem PS.step {l : List UInt8} {S : List Nat} {t e : Nat} (h : PS l S t e) (hd : ∀ c ∈ l, isDig c) (he : 0 < e) :
  dval ((l.drop (e - 4)).take (e - (e - 4))) < 10000 ∧ PS l (S ++ [dval ((l.drop (e - 4)).take (e - (e - 4)))]) (t + 1) (e - 4) := by
 have hle : e ≤ l.length := by have := h.pos; omega
 have hch : ((l.drop (e - 4)).take (e - (e - 4))).length = e - (e - 4) := by rw [List.length_take, List.length_drop]; omega
 have hlt : dval ((l.drop (e - 4)).take (e - (e - 4))) < 10000 := by
  have h1 := dval_lt (l := (l.drop (e - 4)).take (e - (e - 4))) fun c hc => hd c (List.mem_of_mem_drop (List.mem_of_mem_take hc))
  rw [hch] at h1
  exact Nat.lt_of_lt_of_le h1 (Nat.le_trans (Nat.pow_le_pow_right (by omega) (show e - (e - 4) ≤ 4 by omega)) (by decide))
 refine ⟨hlt, by rw [List.length_append, h.len]; rfl, fun d hx => ?_, by have := h.pos; omega, ?_⟩
 ·rcases List.mem_append.1 hx with hx | hx
  ·exact h.lt d hx
  ·rw [List.mem_singleton.1 hx]; exact hlt
 ·have e1 : l.take e = l.take (e - 4) ++ (l.drop (e - 4)).take (e - (e - 4)) := by
   have := List.take_add (l := l) (i := e - 4) (j := e - (e - 4))
   rw [show e - 4 + (e - (e - 4)) = e by omega] at this
   exact this
  have e2 := h.eq
  rw [e1, dval_append, hch] at e2
  rw [tv_snoc, h.len, Nat.pow_succ]
  generalize dval ((l.drop (e - 4)).take (e - (e - 4))) = d at *
  rcases Nat.lt_or_ge e 4 with h4 | h4
  ·have h0 : dval (l.take (e - 4)) = 0 := by rw [show e - 4 = 0 by omega, List.take_zero, dval_nil]
   rw [h0, Nat.zero_mul, Nat.zero_add] at e2
   rw [h0, Nat.mul_zero]; omega
  ·rw [show e - (e - 4) = 4 by omega] at e2
   rw [Nat.mul_add, Nat.mul_comm (dval _) (10 ^ 4), ← Nat.mul_assoc, show (10 : Nat) ^ 4 = 10000 by rfl] at e2
   omega
theorem PS.start (l : List UInt8) : PS l [] 0 l.length := ⟨rfl, (fun d hd => by cases hd), by omega, by rw [tv_nil, List.take_length]; simp⟩
end Go.Proofs.YtkdbhacimoaohaaGreatDoor.Rx
namespace Go.Proofs.YtkdbhacimoaohaaGreatDoor
open Go.RowKit Go.Proofs.YtkdbhacimoaohaaGreatDoor.Rx
attribute [local irreducible] lo hs sm s64 c64 d64 b64 mh ml pd pc qd qc val hiB str cmpI srD lz nb dval
theorem sl_upd {w w' : World} {k : Nat} {c : List Value} {v : Value} {l : List Nat} (h : Sl w v l) (hu : Upd k w w') (hd : Hd w k c) (hc : ∀ v ∈ c, ∀ n, v ≠ .int .i64 n) : Sl w' v l := by
 rcases h with h | ⟨a, c1, h1, h2, h3⟩
 ·exact .inl h
 ·refine .inr ⟨a, c1, h1, h2, fun i hi => ?_, by rw [hu.size]; exact h3.blk⟩
  have hx := h3.cell i hi
  exact (World.cell?_of_block (w := w) (hu.block _ (hd.no_int hc hx))).trans hx
end Go.Proofs.YtkdbhacimoaohaaGreatDoor
namespace Go.Proofs.YtkdbhacimoaohaaGreatDoor
open Go.RowKit Go.Proofs.YtkdbhacimoaohaaGreatDoor.Rx
/-- A struct of the reference that stands for an integer. -/
def RZ (w : World) (v : Value) (z : Int) : Prop := ∃ u, v = .agg #[.bool (decide (z < 0)), u] ∧ Rn w u z.natAbs
theorem RZ.below {w w' : World} {v : Value} {z : Int} (h : RZ w v z) (hb : Below w.heap.size w w') : RZ w' v z := by
 obtain ⟨u, h1, h2⟩ := h
 exact ⟨u, h1, Sl.below h2 hb⟩
theorem RZ.of {w : World} {b : Bool} {u : Value} {n : Nat} {z : Int} (h : Rn w u n) (hb : b = decide (z < 0)) (hn : n = z.natAbs) : RZ w (.agg #[.bool b, u]) z := ⟨u, by rw [hb], by rw [← hn]; exact h⟩
end Go.Proofs.YtkdbhacimoaohaaGreatDoor
namespace Go.Proofs.YtkdbhacimoaohaaGreatDoor
open Go.RowKit Go.Proofs.YtkdbhacimoaohaaGreatDoor.Rx
/-- The slices of digits that a call has got hold of. -/
def SS (W : World) (S : List (Value × Nat)) : Prop := ∀ p ∈ S, Rn W p.1 p.2
theorem SS.nil (W : World) : SS W [] := fun p hp => by cases hp
theorem SS.call {W W' : World} {S : List (Value × Nat)} (h : SS W S) (hb : Below W.heap.size W W') : SS W' S := fun p hp => Sl.below (h p hp) hb
theorem SS.new {W : World} {S : List (Value × Nat)} (h : SS W S) (o : Obj) : SS (W.alloc o) S := h.call ((Below.refl _ _).alloc (Nat.le_refl _) o)
theorem SS.cons {W : World} {S : List (Value × Nat)} (h : SS W S) {v : Value} {n : Nat} (hv : Rn W v n) : SS W ((v, n) :: S) := fun p hp => by
 rcases List.mem_cons.1 hp with rfl | hp
 ·exact hv
 ·exact h p hp
theorem SS.put {W W' : World} {S : List (Value × Nat)} (h : SS W S) {k : Nat} {c : List Value} (hu : Upd k W W') (hd : Hd W k c) (hc : ∀ v ∈ c, ∀ n, v ≠ .int .i64 n) : SS W' S := fun p hp => sl_upd (h p hp) hu hd hc
theorem SS.drew {W : World} {S : List (Value × Nat)} (h : SS W S) : SS W.drew S := fun p hp => Sl.drew (h p hp)
theorem SS.get {W : World} {S : List (Value × Nat)} (h : SS W S) {v : Value} {n : Nat} (hm : (v, n) ∈ S) : Rn W v n := h _ hm
/-- A new box. -/
def NewB (B : Nat) (c : List Value) (u : Value) (w : World) : Prop := ∃ k, u = .pointer (some ⟨k, 0, none⟩) ∧ Hd w k c ∧ B ≤ k
theorem stays_new (B : Nat) (c : List Value) : Stays (NewB B c) := fun _ _ _ hb ⟨k, h1, h2, h3⟩ => ⟨k, h1, h2.below hb, h3⟩
theorem NewB.ptr {B : Nat} {c : List Value} {u : Value} {w : World} (h : NewB B c u w) : ∃ k, u = .pointer (some ⟨k, 0, none⟩) ∧ k < w.heap.size := by
 obtain ⟨k, h1, h2, _⟩ := h
 exact ⟨k, h1, h2.lt⟩
theorem tyAt_new {P : Program} {ops : Array Oper} {o : Oper} {a : Act} {w : World} {B : Nat} {c : List Value} {e t : TypeId} (hg : o.guard = none) (he : o.op = .alloc e) (hr : ∀ w, (Instr.alloc e true (.tuple #[])).run P w = .ok (.pointer (some ⟨w.heap.size, 0, none⟩)) (w.alloc (.cells c.toArray t)))
  (hB : B ≤ w.heap.size) : TyAt P ops o a w (NewB B c) := by
 refine tyAt_none hg ?_
 rw [alloc_run he hr]
 exact ⟨(Below.refl _ _).alloc (Nat.le_refl _) _, _, rfl, hd_new w c t, hB⟩
theorem tyAt_yes {P : Program} {ops : Array Oper} {o : Oper} {a : Act} {w : World} {T : Value → World → Prop} (hg : Region.wanted o (yielded ops a.tmps) = true) (h : tyUpon P w T ((execOp a.eval o).run P w)) : TyAt P ops o a w T := by
 unfold TyAt
 rw [if_pos hg]; exact h
/-- The boxes with one that a typed region has made. -/
theorem GL.tnew {w0 x W : World} {L M : List (Nat × List Value)} {c : List Value} {k : Nat} (h : GL w0 W (M ++ L)) (hx : GL w0 x L) (hd : Hd W k c) (hB : x.heap.size ≤ k) (hM : ∀ p ∈ M, p.1 ≠ k) : GL w0 W ((k, c) :: (M ++ L)) := by
 refine ⟨h.bl, fun p hp => ?_, ?_⟩
 ·rcases List.mem_cons.1 hp with rfl | hp
  ·exact ⟨Nat.le_trans hx.bl.size hB, hd⟩
  ·exact h.all p hp
 ·rw [List.map_cons, List.nodup_cons]
  refine ⟨fun hm => ?_, h.nd⟩
  obtain ⟨q, hq, he⟩ := List.mem_map.1 hm
  rcases List.mem_append.1 hq with hq | hq
  ·exact hM q hq he
  ·have := (hx.all q hq).2.lt
   simp only at he
   omega
/-- A typed region's properties, in short. -/
abbrev EV (v : Value) : Value → World → Prop := fun u _ => u = v
theorem LC {l : List Nat} {a : Nat} (h : l.contains a = true) : a ∈ l := List.contains_iff_mem.1 h
theorem GL.named2 {w0 W : World} {L : List (Nat × List Value)} {S : List (Value × Nat)} (h : GL w0 W L) (g : SS W S) : ∃ x, W = x ∧ GL w0 x L ∧ SS x S := ⟨W, rfl, h, g⟩
end Go.Proofs.YtkdbhacimoaohaaGreatDoor
namespace Go.Proofs.YtkdbhacimoaohaaGreatDoor
open Go.RowKit
attribute [local irreducible] lo hs sm s64 c64 d64 b64 mh ml pd pc qd qc val hiB str cmpI srD lz nb zl zh zs fe klT ordZ
def NewS (x : Nat × List Value × Nat) (v : Value) (w : World) : Prop := ∃ g, v = .slice (some ⟨g, 0, none⟩) x.2.2 x.2.2 ∧ x.1 ≤ g ∧ Hd w g x.2.1
theorem stays_news (x : Nat × List Value × Nat) : Stays (NewS x) := fun _ _ _ hb ⟨g, h1, h2, h3⟩ => ⟨g, h1, h2, h3.below hb⟩
theorem news_parts {B n : Nat} {c : List Value} {v : Value} {w : World} (h : NewS (B, c, n) v w) : ∃ g, v = .slice (some ⟨g, 0, none⟩) n n ∧ B ≤ g ∧ Hd w g c := h
theorem news_mk {B n : Nat} {c : List Value} {t : TypeId} {w : World} (h : B ≤ w.heap.size) : NewS (B, c, n) (.slice (some ⟨w.heap.size, 0, none⟩) n n) (w.alloc (.cells c.toArray t)) := ⟨_, rfl, h, hd_new w c t⟩
abbrev PP (l : List TI) : Value → World → Prop := fun v w => PT w v l
theorem stays_pt (l : List TI) : Stays (PP l) := fun _ _ _ hb h => h.below hb
theorem ty_val8 {P : Program} {o : Oper} {a : Act} {w w' : World} {T : Value → World → Prop} {u : Value} (hr : (execOp a.eval o).run P w = .ok (.value u) w') (hb : Below w.heap.size w w') (ht : T u w') : tyUpon P w T ((execOp a.eval o).run P w) := by
 rw [hr]; exact ⟨hb, ht⟩
theorem wp_append1 {w : World} {ops : Array Oper} {rest : List Oper} {o : Oper} {a : Act} {Q : Exit → Act → World → Prop} (hgd : o.guard = none) (s x : Operand)
  (ho : o.op = .call { callee := .builtin .append, args := #[s, x], argTypes := #[29, 29] }) (B : Nat) (v : Value) (n : Nat) (L : List TI) (hs : a.eval s = v) (hown : OwnT w B v n L) (g : Nat) (t : TI) (hx : a.eval x = .slice (some ⟨g, 0, none⟩) 1 1) (hH : Hd w g (tmC t))
  (hn : n ≤ 100000) (hbase : B ≤ w.heap.size)
  (h : ∀ v' w', OwnT w' B v' (n + 1) (L ++ [t]) → w.grownBy w' v.ownBlock → (v'.ownBlock = v.ownBlock ∨ v'.ownBlock = some w.heap.size) → wpList Tryz.prog ops Q rest (a.put o.dst v') w') : wpList Tryz.prog ops Q (o :: rest) a w := by
 obtain ⟨i0, hi, hz1, hz2, hz3⟩ := info_parts infoT
 refine wpList_append_own_at w hgd s x 29 ho B 80 i0 (.agg #[.int .i64 0, .int .i64 0, .int .u64 0, .string ⟨#[]⟩, .bool false, .int .u64 0, .string ⟨#[]⟩]) 7 72 Tryz.underlying29 hi hz1 hz2 hz3 rfl (by decide) v n (tmCs L) hs hown ⟨g, 0, none⟩ 1 1 (tmC t) hx rfl (hd_newsH hH) (tmC_one t) (by unfold maxLen; omega) (by omega) hbase ?_
 intro v' w' h1 h2 _ h4
 refine h v' w' ?_ h2 h4
 unfold OwnT
 rw [tmCs_snoc]; exact h1
theorem gl_grown {w0 W W' : World} {L : List (Nat × List Value)} (h : GL w0 W L) {row : Option Nat} (hg : W.grownBy W' row) (hr : ∀ j, row = some j → w0.heap.size ≤ j ∧ ∀ p ∈ L, p.1 ≠ j) : GL w0 W' L := by
 refine ⟨h.bl.grown hg h.bl.size (fun j hj => (hr j hj).1), fun p hp => ⟨(h.all p hp).1, ?_⟩, h.nd⟩
 have hd := (h.all p hp).2
 have hbl := hg.block p.1 hd.lt (fun e => (hr p.1 e.symm).2 p hp rfl)
 refine ⟨fun i hi => (World.cell?_of_block (a := ⟨p.1, i, none⟩) hbl).trans (hd.cell i hi), fun i => ?_, Nat.lt_of_lt_of_le hd.lt hg.size, ?_⟩
 ·have := hd.frz i
  unfold World.frozen? at this ⊢
  simp only at this ⊢
  rw [hbl]; exact this
 ·obtain ⟨arr, t, h1, h2⟩ := hd.row
  exact ⟨arr, t, by rw [hbl]; exact h1, h2⟩
theorem prodL_append (p p' q : TL) : prodL (p ++ p') q = prodL p q ++ prodL p' q := by
 induction p with
 | nil => rfl
 | cons s p ih => show timesL s q ++ prodL (p ++ p') q = timesL s q ++ prodL p q ++ prodL p' q; rw [ih, List.append_assoc]
theorem timesL_len (s : Nat × Nat × Rat) (q : TL) : (timesL s q).length = q.length := List.length_map _
theorem prodL_len (p q : TL) : (prodL p q).length = p.length * q.length := by
 induction p with
 | nil => simp [prodL]
 | cons s p ih => show (timesL s q ++ prodL p q).length = _; rw [List.length_append, timesL_len, ih, List.length_cons, Nat.succ_mul, Nat.add_comm]
theorem pprod_w (l m : List TI) (P Q : TL) (R : List TI) (ao bo : Option Addr) (n c n2 c2 : Nat) (hPQ : P.length * Q.length ≤ 10000) (hPl : P.length ≤ 10000) (hQl : Q.length ≤ 10000) (hPb : TB P 12) (hQb : TB Q 12)
  (HN1 : ∀ w : World, PT w (.slice ao n c) l → Calls Tryz.prog 43 #[.slice ao n c] w fun xe w' => ∃ v', xe = .returned v' ∧ PT w' v' (ofL P) ∧ Below w.heap.size w w')
  (HN2 : ∀ w : World, PT w (.slice bo n2 c2) m → Calls Tryz.prog 43 #[.slice bo n2 c2] w fun xe w' => ∃ v', xe = .returned v' ∧ PT w' v' (ofL Q) ∧ Below w.heap.size w w')
  (HM : ∀ s ∈ P, ∀ t ∈ Q, ∀ w : World, Calls Tryz.prog 24 #[fracV s.2.2, fracV t.2.2] w fun xe w' => xe = .returned (fracV (s.2.2 * t.2.2)) ∧ Below w.heap.size w w')
  (HS : ∀ (v : Value) (w : World), PT w v (ofL (prodL P Q)) → Calls Tryz.prog 41 #[v] w fun xe w' => ∃ v', xe = .returned v' ∧ PT w' v' R ∧ Below w.heap.size w w')
  (w : World) (h1 : PT w (.slice ao n c) l) (h2 : PT w (.slice bo n2 c2) m) :
  Calls Tryz.prog 71 #[.slice ao n c, .slice bo n2 c2] w fun xe w' => ∃ v, xe = .returned v ∧ PT w' v R ∧ Below w.heap.size w w' := by
 replace HN1 := Lib.hid HN1
 replace HN2 := Lib.hid HN2
 replace HM := Lib.hid HM
 replace HS := Lib.hid HS
 replace h1 := Lib.hid h1
 replace h2 := Lib.hid h2
 replace hPQ := Lib.hid hPQ
 replace hPl := Lib.hid hPl
 replace hQl := Lib.hid hQl
 replace hPb := Lib.hid hPb
 replace hQb := Lib.hid hQb
 go_enter Tryz.func71, Tryz.ntmps71
 go_wp2_with fail
 with_reducible refine Calls.mono (HN1.out w h1.out) ?_
 rintro e y1 ⟨v1, rfl, hp1, hb1⟩
 go_wp2_with fail
 with_reducible refine Calls.mono (HN2.out y1 (h2.out.below hb1)) ?_
 rintro e y2 ⟨v2, rfl, hp2, hb2⟩
 replace hp1 := hp1.below hb2
 have hbb := Lib.hid (hb1.trans (hb2.mono hb1.size))
 clear hb1 hb2
 obtain ⟨ao1, m1, d1, rfl, hm1⟩ := pt_form hp1
 obtain ⟨ao2, m2, d2, rfl, hm2⟩ := pt_form hp2
 have hpp1 := Lib.hid (pt_parts hp1).2
 have hpp2 := Lib.hid (pt_parts hp2).2
 rw [ofL_length] at hm1 hm2
 have hm1b : m1 ≤ 10000 := by rw [hm1]; exact hPl.out
 have hm2b : m2 ≤ 10000 := by rw [hm2]; exact hQl.out
 replace hm1 := Lib.hid hm1
 replace hm2 := Lib.hid hm2
 clear hp1 hp2
 go_wp2_with fail
 go_loopg [5, 16] m1 (fun gk sv iv wr => ∃ (i : Nat) (zi : Int), i + gk = m1 ∧ iv = .int .i64 zi ∧ zi = (i : Int) ∧ OwnT wr y2.heap.size sv (i * m2) (ofL (prodL (P.take i) Q)) ∧ Below y2.heap.size y2 wr)
 case atStart => exact ⟨0, 0, Nat.zero_add m1, by first | rfl | go_num, rfl, by rw [Nat.zero_mul]; exact World.ownsRow_nil _ _ _ _, Below.refl _ _⟩
 case round =>
  obtain ⟨i, zi, hik, rfl, hzi, hown, hB⟩ := hrel
  replace hown := Lib.hid hown
  rcases Nat.lt_or_ge i m1 with hin | hin
  ·subst hzi
   have hiP : i < P.length := by rw [← hm1.out]; exact hin
   have hio : i < (ofL P).length := by rw [ofL_length]; exact hiP
   obtain ⟨g, rfl, hts⟩ := hpp1.out (by omega)
   have hf := (hts.below hB).cell i hio
   have k1 : (i : Int) < (m1 : Int) := by omega
   have k0 : (0 : Int) ≤ (i : Int) := Int.natCast_nonneg _
   obtain ⟨an, bn, q, hP⟩ : ∃ a b q, P[i] = (a, b, q) := ⟨_, _, _, rfl⟩
   rw [ofL_get hiP hio hP] at hf
   simp only at hf
   have hab : an + bn ≤ 12 := by have := hPb.out _ (List.getElem_mem hiP); rw [hP] at this; exact this
   have hmem : (an, bn, q) ∈ P := by rw [← hP]; exact List.getElem_mem hiP
   have htk : prodL (P.take (i + 1)) Q = prodL (P.take i) Q ++ timesL (an, bn, q) Q := by
    rw [List.take_succ_eq_append_getElem hiP, prodL_append, hP]; simp [prodL]
   obtain ⟨a, ha⟩ : ∃ a, a = (an : Int) := ⟨_, rfl⟩
   obtain ⟨b, hb⟩ : ∃ b, b = (bn : Int) := ⟨_, rfl⟩
   rw [← ha, ← hb] at hf
   have hmul : i * m2 + m2 ≤ 10000 := by
    have h := Nat.mul_le_mul_right m2 (Nat.succ_le_of_lt hin)
    have h2 := hPQ.out
    rw [← hm1.out, ← hm2.out] at h2
    rw [Nat.succ_mul] at h; omega
   replace ha := Lib.hid ha
   replace hb := Lib.hid hb
   replace hP := Lib.hid hP
   replace hab := Lib.hid hab
   replace hmem := Lib.hid hmem
   replace htk := Lib.hid htk
   replace hmul := Lib.hid hmul
   clear hts
   obtain ⟨f0, f1, f2, f3, f4, f5, f6⟩ := hf
   have hL0 : GL y2 wr [] := ⟨hB, fun p hp => (by cases hp), List.nodup_nil⟩
   replace hL0 := hL0.new rfl [.int .i64 a, .int .i64 b, .int .u64 ((zl q.num : Nat) : Int), .string (zh q.num), .bool (zs q.num), .int .u64 ((lo (fe q) : Nat) : Int), .string (hs (fe q))] 80
   generalize hweq : wr.alloc (.cells #[.int .i64 a, .int .i64 b, .int .u64 ((zl q.num : Nat) : Int), .string (zh q.num), .bool (zs q.num), .int .u64 ((lo (fe q) : Nat) : Int), .string (hs (fe q))] 80) = y3 at hL0
   have hown2 : OwnT y3 y2.heap.size _ (i * m2) (ofL (prodL (P.take i) Q)) := ownT_below hown.out (by rw [← hweq]; exact (Below.refl _ _).alloc (Nat.le_refl _) _)
   have hnb : ∀ j, Value.ownBlock _ = some j → j < wr.heap.size := fun j hj => (hown.out.lt j hj).2
   generalize hb7 : wr.heap.size = b7 at hL0 hnb
   have hnb2 := Lib.hid (show ∀ j, Value.ownBlock _ = some j → j ≠ b7 from fun j hj => Nat.ne_of_lt (hnb j hj))
   replace hown2 := Lib.hid hown2
   clear hnb hown
   go_wp2_with fail
   clear hweq f0 f1 f2 f3 f4 f5 f6
   replace hb7 := Lib.hid hb7
   go_loopg [5, 22] m2 (fun gk2 sv iv wz => ∃ (j : Nat) (zj : Int) (vs : Value), j + gk2 = m2 ∧ iv = .int .i64 zj ∧ vs = sv ∧ zj = (j : Int) ∧ OwnT wz y2.heap.size vs (i * m2 + j) (ofL (prodL (P.take i) Q ++ timesL (an, bn, q) (Q.take j))) ∧ (∀ x, vs.ownBlock = some x → x ≠ b7) ∧ GL y2 wz [(b7, [.int .i64 a, .int .i64 b, .int .u64 ((zl q.num : Nat) : Int), .string (zh q.num), .bool (zs q.num), .int .u64 ((lo (fe q) : Nat) : Int), .string (hs (fe q))])])
   case atStart => exact ⟨0, 0, _, Nat.zero_add m2, by first | rfl | go_num, rfl, rfl, by rw [List.take_zero]; simp only [timesL, List.map_nil, List.append_nil, Nat.add_zero]; exact hown2.out, hnb2.out, hL0⟩
   case round =>
    clear hown2 hnb2 hL0
    obtain ⟨j, zj, vs, hjk, rfl, rfl, hzj, hown, hnb, hL0⟩ := hrel
    replace hown := Lib.hid hown
    replace hnb := Lib.hid hnb
    rcases Nat.lt_or_ge j m2 with hjn | hjn
    ·subst hzj
     have hjQ : j < Q.length := by rw [← hm2.out]; exact hjn
     have hjo : j < (ofL Q).length := by rw [ofL_length]; exact hjQ
     obtain ⟨g2, rfl, hts2⟩ := hpp2.out (by omega)
     have hf := (hts2.below hL0.bl).cell j hjo
     have k3 : (j : Int) < (m2 : Int) := by omega
     have k4 : (0 : Int) ≤ (j : Int) := Int.natCast_nonneg _
     obtain ⟨a2n, b2n, q2, hQ⟩ : ∃ a b q, Q[j] = (a, b, q) := ⟨_, _, _, rfl⟩
     rw [ofL_get hjQ hjo hQ] at hf
     simp only at hf
     have hab2 : a2n + b2n ≤ 12 := by have := hQb.out _ (List.getElem_mem hjQ); rw [hQ] at this; exact this
     have hM1 := HM.out _ hmem.out (a2n, b2n, q2) (by rw [← hQ]; exact List.getElem_mem hjQ)
     have htk2 : timesL (an, bn, q) (Q.take (j + 1)) = timesL (an, bn, q) (Q.take j) ++ [(an + a2n, bn + b2n, q * q2)] := by
      rw [List.take_succ_eq_append_getElem hjQ, hQ]; simp [timesL]
     obtain ⟨q3, hq3⟩ : ∃ q3, q3 = q * q2 := ⟨_, rfl⟩
     simp only [← hq3] at hM1 htk2
     obtain ⟨a2, ha2⟩ : ∃ a2, a2 = (a2n : Int) := ⟨_, rfl⟩
     obtain ⟨b2, hb2⟩ : ∃ b2, b2 = (b2n : Int) := ⟨_, rfl⟩
     rw [← ha2, ← hb2] at hf
     obtain ⟨s1, hs1⟩ : ∃ s1, s1 = a + a2 := ⟨_, rfl⟩
     obtain ⟨s2, hs2⟩ : ∃ s2, s2 = b + b2 := ⟨_, rfl⟩
     have hab0 := hab.out
     have kw1 : IntKind.i64.wrap (a + a2) = s1 := by rw [hs1, ha.out, ha2]; simp [IntKind.wrap, IntKind.bits, IntKind.signed]; omega
     have kw2 : wrap64 (a + a2) = s1 := by rw [hs1, ha.out, ha2]; simp [wrap64]; omega
     have kw3 : IntKind.i64.wrap (b + b2) = s2 := by rw [hs2, hb.out, hb2]; simp [IntKind.wrap, IntKind.bits, IntKind.signed]; omega
     have kw4 : wrap64 (b + b2) = s2 := by rw [hs2, hb.out, hb2]; simp [wrap64]; omega
     have hof : ofL (prodL (P.take i) Q ++ timesL (an, bn, q) (Q.take (j + 1))) = ofL (prodL (P.take i) Q ++ timesL (an, bn, q) (Q.take j)) ++ [(s1, s2, q3)] := by
      rw [htk2, ← List.append_assoc, hs1, hs2, ha.out, hb.out, ha2, hb2]
      generalize prodL (P.take i) Q ++ timesL (an, bn, q) (Q.take j) = X
      simp [ofL, ofT]
     replace HM1 := Lib.hid hM1
     replace ha2 := Lib.hid ha2
     replace hb2 := Lib.hid hb2
     replace hs1 := Lib.hid hs1
     replace hs2 := Lib.hid hs2
     replace hQ := Lib.hid hQ
     replace htk2 := Lib.hid htk2
     replace hq3 := Lib.hid hq3
     replace hof := Lib.hid hof
     clear hts2 hM1 hab0
     obtain ⟨f0, f1, f2, f3, f4, f5, f6⟩ := hf
     replace hL0 := hL0.new rfl [.int .i64 a2, .int .i64 b2, .int .u64 ((zl q2.num : Nat) : Int), .string (zh q2.num), .bool (zs q2.num), .int .u64 ((lo (fe q2) : Nat) : Int), .string (hs (fe q2))] 80
     generalize hweq : wr.alloc (.cells #[.int .i64 a2, .int .i64 b2, .int .u64 ((zl q2.num : Nat) : Int), .string (zh q2.num), .bool (zs q2.num), .int .u64 ((lo (fe q2) : Nat) : Int), .string (hs (fe q2))] 80) = y6 at hL0
     have hown6 := Lib.hid (show OwnT y6 y2.heap.size _ (i * m2 + j) _ from ownT_below hown.out (by rw [← hweq]; exact (Below.refl _ _).alloc (Nat.le_refl _) _))
     go_upto_region 9 with fail
     clear hweq f0 f1 f2 f3 f4 f5 f6 hown
     generalize hb9 : wr.heap.size = b9 at hL0 ⊢
     replace hb9 := Lib.hid hb9
     have hS : SS y6 [] := SS.nil y6
     refine region_tl 18 [EV vs, EV (.pointer (some ⟨b7, 0, none⟩)), EV (.int .i64 a), EV (.pointer (some ⟨b9, 0, none⟩)), EV (.int .i64 a2), EV (.int .i64 s1), EV (.pointer (some ⟨b7, 1, none⟩)), EV (.int .i64 b), EV (.pointer (some ⟨b9, 1, none⟩)), EV (.int .i64 b2), EV (.int .i64 s2), EV (.pointer (some ⟨b7, 2, none⟩)), EV (.agg #[.int .u64 ((zl q.num : Nat) : Int), .string (zh q.num), .bool (zs q.num), .int .u64 ((lo (fe q) : Nat) : Int), .string (hs (fe q))]), EV (.pointer (some ⟨b9, 2, none⟩)), EV (.agg #[.int .u64 ((zl q2.num : Nat) : Int), .string (zh q2.num), .bool (zs q2.num), .int .u64 ((lo (fe q2) : Nat) : Int), .string (hs (fe q2))]), EV (.agg #[.int .u64 ((zl q3.num : Nat) : Int), .string (zh q3.num), .bool (zs q3.num), .int .u64 ((lo (fe q3) : Nat) : Int), .string (hs (fe q3))]), EV (.agg #[.int .i64 s1, .int .i64 s2, .int .u64 ((zl q3.num : Nat) : Int), .string (zh q3.num), .bool (zs q3.num), .int .u64 ((lo (fe q3) : Nat) : Int), .string (hs (fe q3))]), NewS (y6.heap.size, [.int .i64 s1, .int .i64 s2, .int .u64 ((zl q3.num : Nat) : Int), .string (zh q3.num), .bool (zs q3.num), .int .u64 ((lo (fe q3) : Nat) : Int), .string (hs (fe q3))], 1)] (by kernel_rfl) (by kernel_rfl) ?_ ?_ ?_
     ·repeat' first | exact stays_nil | apply stays_cons | exact stays_eq _ | exact stays_news _
     ·simp only [List.take_succ_cons, List.take_zero, hopsR, and_true]
      refine ⟨?_, ?_, ?_, ?_, ?_, ?_, ?_, ?_, ?_, ?_, ?_, ?_, ?_, ?_, ?_, ?_, ?_, ?_⟩ <;> intro fv w1 hb1 hp
      all_goals (have hc := (hL0.call (below_drew hb1)).fc; simp only [zF, Nat.reduceAdd] at hc; simp only [putsV, Act.put, zP, Nat.zero_add, Nat.reduceAdd])
      ·refine tyAt_none rfl ?_
       simp [tyUpon, execOp, go_sem, Act.eval, kw1, kw2, kw3, kw4, Below.refl]
      ·refine tyAt_none rfl ?_
       simp [tyUpon, execOp, go_sem, Act.eval, kw1, kw2, kw3, kw4, Below.refl]
      ·have h1 : EV _ (fv 1) w1 := hp 1 (LC (by kernel_rfl))
       refine tyAt_none rfl ?_
       simp [tyUpon, execOp, go_sem, Act.eval, hc, h1, kw1, kw2, kw3, kw4, Below.refl]
      ·refine tyAt_none rfl ?_
       simp [tyUpon, execOp, go_sem, Act.eval, kw1, kw2, kw3, kw4, Below.refl]
      ·have h3 : EV _ (fv 3) w1 := hp 3 (LC (by kernel_rfl))
       refine tyAt_none rfl ?_
       simp [tyUpon, execOp, go_sem, Act.eval, hc, h3, kw1, kw2, kw3, kw4, Below.refl]
      ·have h2 : EV _ (fv 2) w1 := hp 2 (LC (by kernel_rfl))
       have h4 : EV _ (fv 4) w1 := hp 4 (LC (by kernel_rfl))
       refine tyAt_none rfl ?_
       simp [tyUpon, execOp, go_sem, Act.eval, h2, h4, kw1, kw2, kw3, kw4, Below.refl]
      ·refine tyAt_none rfl ?_
       simp [tyUpon, execOp, go_sem, Act.eval, kw1, kw2, kw3, kw4, Below.refl]
      ·have h6 : EV _ (fv 6) w1 := hp 6 (LC (by kernel_rfl))
       refine tyAt_none rfl ?_
       simp [tyUpon, execOp, go_sem, Act.eval, hc, h6, kw1, kw2, kw3, kw4, Below.refl]
      ·refine tyAt_none rfl ?_
       simp [tyUpon, execOp, go_sem, Act.eval, kw1, kw2, kw3, kw4, Below.refl]
      ·have h8 : EV _ (fv 8) w1 := hp 8 (LC (by kernel_rfl))
       refine tyAt_none rfl ?_
       simp [tyUpon, execOp, go_sem, Act.eval, hc, h8, kw1, kw2, kw3, kw4, Below.refl]
      ·have h7 : EV _ (fv 7) w1 := hp 7 (LC (by kernel_rfl))
       have h9 : EV _ (fv 9) w1 := hp 9 (LC (by kernel_rfl))
       refine tyAt_none rfl ?_
       simp [tyUpon, execOp, go_sem, Act.eval, h7, h9, kw1, kw2, kw3, kw4, Below.refl]
      ·refine tyAt_none rfl ?_
       simp [tyUpon, execOp, go_sem, Act.eval, kw1, kw2, kw3, kw4, Below.refl]
      ·have h11 : EV _ (fv 11) w1 := hp 11 (LC (by kernel_rfl))
       refine tyAt_none rfl ?_
       simp [tyUpon, execOp, go_sem, Act.eval, hc, h11, kw1, kw2, kw3, kw4, Below.refl]
      ·refine tyAt_none rfl ?_
       simp [tyUpon, execOp, go_sem, Act.eval, kw1, kw2, kw3, kw4, Below.refl]
      ·have h13 : EV _ (fv 13) w1 := hp 13 (LC (by kernel_rfl))
       refine tyAt_none rfl ?_
       simp [tyUpon, execOp, go_sem, Act.eval, hc, h13, kw1, kw2, kw3, kw4, Below.refl]
      ·have h12 : EV _ (fv 12) w1 := hp 12 (LC (by kernel_rfl))
       have h14 : EV _ (fv 14) w1 := hp 14 (LC (by kernel_rfl))
       refine tyAt_none rfl ?_
       refine ty_call (f := 24) (args := #[.agg #[.int .u64 ((zl q.num : Nat) : Int), .string (zh q.num), .bool (zs q.num), .int .u64 ((lo (fe q) : Nat) : Int), .string (hs (fe q))], .agg #[.int .u64 ((zl q2.num : Nat) : Int), .string (zh q2.num), .bool (zs q2.num), .int .u64 ((lo (fe q2) : Nat) : Int), .string (hs (fe q2))]]) (by simp [execOp, go_sem, Act.eval, h12, h14]) ?_
       exact (HM1.out w1).mono fun e w2 ⟨h1, h2⟩ => ⟨_, h1, rfl, h2⟩
      ·have h5 : EV _ (fv 5) w1 := hp 5 (LC (by kernel_rfl))
       have h10 : EV _ (fv 10) w1 := hp 10 (LC (by kernel_rfl))
       have h15 : EV _ (fv 15) w1 := hp 15 (LC (by kernel_rfl))
       refine tyAt_none rfl ?_
       simp [tyUpon, execOp, go_sem, Act.eval, h5, h10, h15, kw1, kw2, kw3, kw4, Below.refl]
      ·have h16 : EV _ (fv 16) w1 := hp 16 (LC (by kernel_rfl))
       refine tyAt_none rfl ?_
       refine ty_val8 (u := .slice (some ⟨w1.heap.size, 0, none⟩) 1 1) (w' := w1.alloc (.cells #[.int .i64 s1, .int .i64 s2, .int .u64 ((zl q3.num : Nat) : Int), .string (zh q3.num), .bool (zs q3.num), .int .u64 ((lo (fe q3) : Nat) : Int), .string (hs (fe q3))] 80)) (by simp [execOp, go_sem, Act.eval, h16]) ((Below.refl _ _).alloc (Nat.le_refl _) _) (news_mk (below_drew hb1).size)
     ·intro fv x51 hb1 hv
      have e0 : fv 0 = _ := hv 0 (by omega)
      have e1 : fv 1 = _ := hv 1 (by omega)
      have e2 : fv 2 = _ := hv 2 (by omega)
      have e3 : fv 3 = _ := hv 3 (by omega)
      have e4 : fv 4 = _ := hv 4 (by omega)
      have e5 : fv 5 = _ := hv 5 (by omega)
      have e6 : fv 6 = _ := hv 6 (by omega)
      have e7 : fv 7 = _ := hv 7 (by omega)
      have e8 : fv 8 = _ := hv 8 (by omega)
      have e9 : fv 9 = _ := hv 9 (by omega)
      have e10 : fv 10 = _ := hv 10 (by omega)
      have e11 : fv 11 = _ := hv 11 (by omega)
      have e12 : fv 12 = _ := hv 12 (by omega)
      have e13 : fv 13 = _ := hv 13 (by omega)
      have e14 : fv 14 = _ := hv 14 (by omega)
      have e15 : fv 15 = _ := hv 15 (by omega)
      have e16 : fv 16 = _ := hv 16 (by omega)
      have q17 : NewS ((y6.heap.size, [.int .i64 s1, .int .i64 s2, .int .u64 ((zl q3.num : Nat) : Int), .string (zh q3.num), .bool (zs q3.num), .int .u64 ((lo (fe q3) : Nat) : Int), .string (hs (fe q3))], 1)) (fv 17) x51 := hv 17 (by omega)
      obtain ⟨g1, e17, ng1, mg1⟩ := news_parts q17
      rw [e17] at q17
      simp only [List.take_succ_cons, List.take_zero, putsV, Act.put, zP, List.drop_succ_cons, List.drop_zero, Nat.zero_add, Nat.reduceAdd, e0, e1, e2, e3, e4, e5, e6, e7, e8, e9, e10, e11, e12, e13, e14, e15, e16, e17]
      replace hL0 := hL0.call (below_drew hb1)
      replace hS := hS.call (below_drew hb1)
      have hown7 := Lib.hid (ownT_below hown6.out (below_drew hb1))
      clear e0 e1 e2 e3 e4 e5 e6 e7 e8 e9 e10 e11 e12 e13 e14 e15 e16 e17 hb1 hv q17 fv
      have hmu := hmul.out
      go_wp2_with (at_builtin; refine wp_append1 rfl _ _ rfl _ _ _ _ rfl hown7.out _ (s1, s2, q3) rfl mg1 (by omega) hL0.bl.size ?_)
      intro v' w8 hown8 hgrow hloc
      rw [← hof.out] at hown8
      have hL8 := gl_grown (hL0.weak (List.Sublist.cons _ (List.Sublist.refl _))) hgrow (fun x hx => ⟨(hown7.out.lt x hx).1, fun p hp => by rw [List.mem_singleton.1 hp]; exact (hnb.out x hx).symm⟩)
      have hnb8 : ∀ x, v'.ownBlock = some x → x ≠ b7 := fun x hx => by
       rcases hloc with e | e
       ·exact hnb.out x (by rw [← e]; exact hx)
       ·rw [hx] at e
        have := (hL0.get _ _ (mK mZ)).lt
        cases e
        omega
      replace hown8 := Lib.hid hown8
      replace hnb8 := Lib.hid hnb8
      clear hgrow hloc hown7 hL0 hnb
      go_wp2_with fail
      go_roundg (m2 - (j + 1))
      case measure => omega
      case rel => exact ⟨j + 1, _, _, by omega, by first | rfl | go_num, rfl, by omega, hown8.out, hnb8.out, hL8⟩
    ·obtain rfl : j = m2 := by omega
     subst hzj
     have k3 : ¬ (j : Int) < (j : Int) := by omega
     have hown8 : OwnT wr y2.heap.size vs ((i + 1) * j) (ofL (prodL (P.take (i + 1)) Q)) := by
      rw [htk.out, Nat.succ_mul]
      have := hown.out
      rwa [List.take_of_length_le (Nat.le_of_eq hm2.out.symm)] at this
     replace hown8 := Lib.hid hown8
     go_wp2_with fail
     go_roundg (m1 - (i + 1))
     case measure => omega
     case rel => exact ⟨i + 1, _, by omega, by first | rfl | go_num, by omega, hown8.out, hL0.bl⟩
  ·obtain rfl : i = m1 := by omega
   subst hzi
   have k1 : ¬ (i : Int) < (i : Int) := by omega
   rw [List.take_of_length_le (Nat.le_of_eq hm1.out.symm)] at hown
   have hpt := ownT_pt hown.out (by rw [ofL_length, prodL_len, ← hm1.out, ← hm2.out])
   replace hpt := Lib.hid hpt
   go_wp2_with (go_at_call 41; with_reducible refine Calls.mono (HS.out _ _ hpt.out) ?_; rintro e y5 ⟨v5, rfl, hp5, hb5⟩; replace hp5 := Lib.hid hp5; replace hb5 := Lib.hid hb5)
   go_ret
   exact ⟨_, rfl, hp5.out, hbb.out.trans ((hB.trans (hb5.out.mono hB.size)).mono hbb.out.size)⟩
end Go.Proofs.YtkdbhacimoaohaaGreatDoor
namespace Go.Proofs.YtkdbhacimoaohaaGreatDoor
open Go.RowKit
attribute [local irreducible] lo hs sm s64 c64 d64 b64 mh ml pd pc qd qc val hiB str cmpI srD lz nb zl zh zs fe klT ordZ
def PTs (W : World) (S : List (Value × List TI)) : Prop := ∀ p ∈ S, PT W p.1 p.2
theorem PTs.nil (w : World) : PTs w [] := fun p hp => by cases hp
theorem PTs.call {W W' : World} {S : List (Value × List TI)} (h : PTs W S) (hb : Below W.heap.size W W') : PTs W' S := fun p hp => (h p hp).below hb
theorem PTs.new {W : World} {S : List (Value × List TI)} (h : PTs W S) (o : Obj) : PTs (W.alloc o) S := h.call ((Below.refl _ _).alloc (Nat.le_refl _) o)
theorem PTs.drew {W : World} {S : List (Value × List TI)} (h : PTs W S) : PTs W.drew S := h.call (Below.refl _ _).drew
theorem PTs.cons {W : World} {S : List (Value × List TI)} {v : Value} {l : List TI} (h : PTs W S) (q : PT W v l) : PTs W ((v, l) :: S) := fun p hp => by
 rcases List.mem_cons.1 hp with rfl | hp
 ·exact q
 ·exact h p hp
theorem PTs.get {W : World} {S : List (Value × List TI)} {v : Value} {l : List TI} (h : PTs W S) (hm : (v, l) ∈ S) : PT W v l := h _ hm
theorem ts_of_hd {w : World} {g : Nat} {l : List TI} (h : Hd w g (tmCs l)) : TS w g l := by
 have hc : ∀ j u, (tmCs l)[j]? = some u → w.cell? ⟨g, j, none⟩ = some u := fun j u hu => by
  have := hd_newsH h j u hu
  rwa [add0H] at this
 refine ⟨fun i hi => ?_, h.lt⟩
 have e := fun j hj => tmCs_get l i j hi hj
 exact ⟨hc _ _ (by have := e 0 (by omega); rw [Nat.add_zero] at this; exact this), hc _ _ (e 1 (by omega)), hc _ _ (e 2 (by omega)), hc _ _ (e 3 (by omega)), hc _ _ (e 4 (by omega)), hc _ _ (e 5 (by omega)), hc _ _ (e 6 (by omega))⟩
theorem pt_of_hd {w : World} {g c : Nat} {l : List TI} {n : Nat} (h : Hd w g (tmCs l)) (hn : n = l.length) : PT w (.slice (some ⟨g, 0, none⟩) n c) l := pt_mk hn fun _ => ⟨g, rfl, ts_of_hd h⟩
theorem px_w (u v : Rat) (r : List TI) (HI0 : ∀ w, Calls Tryz.prog 20 #[.int .i64 0] w fun xe w' => xe = .returned (fracV u) ∧ Below w.heap.size w w') (HI1 : ∀ w, Calls Tryz.prog 20 #[.int .i64 1] w fun xe w' => xe = .returned (fracV v) ∧ Below w.heap.size w w') (HL : ∀ (w : World), Calls Tryz.prog 54 #[fracV v, fracV u, fracV u] w fun e w' => ∃ pv, e = .returned pv ∧ PT w' pv r ∧ Below w.heap.size w w') (w : World) :
  Calls Tryz.prog 30 #[] w fun e w' => ∃ pv, e = .returned pv ∧ PT w' pv r ∧ Below w.heap.size w w' := by
 replace HI0 := Lib.hid HI0
 replace HI1 := Lib.hid HI1
 replace HL := Lib.hid HL
 have hL0 : GL w w [] := GL.start w
 have hT : PTs w [] := PTs.nil w
 go_enter Tryz.func30, Tryz.ntmps30
 go_wp2_with fail
 with_reducible refine Calls.mono (HI1.out _) ?_
 rintro e x1 ⟨rfl, hb⟩
 replace hL0 := hL0.call hb
 replace hT := hT.call hb
 clear hb
 go_wp2_with fail
 with_reducible refine Calls.mono (HI0.out _) ?_
 rintro e x2 ⟨rfl, hb⟩
 replace hL0 := hL0.call hb
 replace hT := hT.call hb
 clear hb
 go_wp2_with fail
 with_reducible refine Calls.mono (HI0.out _) ?_
 rintro e x3 ⟨rfl, hb⟩
 replace hL0 := hL0.call hb
 replace hT := hT.call hb
 clear hb
 go_wp2_with fail
 with_reducible refine Calls.mono (HL.out _) ?_
 rintro e x4 ⟨v0, rfl, q0, hb⟩
 replace hL0 := hL0.call hb
 replace hT := hT.call hb
 clear hb
 obtain ⟨g1, d1, g1c, rfl, -⟩ := pt_form q0
 replace hT := hT.cons q0
 clear q0
 go_wp2_with fail
 exact bodyPost_ret (v := .slice g1 d1 g1c) (by simp [results, Tryz.results30, go_sem]) rfl ⟨_, rfl, (hT.get mZ), hL0.bl⟩
theorem py_w (u v : Rat) (r : List TI) (HI0 : ∀ w, Calls Tryz.prog 20 #[.int .i64 0] w fun xe w' => xe = .returned (fracV u) ∧ Below w.heap.size w w') (HI1 : ∀ w, Calls Tryz.prog 20 #[.int .i64 1] w fun xe w' => xe = .returned (fracV v) ∧ Below w.heap.size w w') (HL : ∀ (w : World), Calls Tryz.prog 54 #[fracV u, fracV v, fracV u] w fun e w' => ∃ pv, e = .returned pv ∧ PT w' pv r ∧ Below w.heap.size w w') (w : World) :
  Calls Tryz.prog 31 #[] w fun e w' => ∃ pv, e = .returned pv ∧ PT w' pv r ∧ Below w.heap.size w w' := by
 replace HI0 := Lib.hid HI0
 replace HI1 := Lib.hid HI1
 replace HL := Lib.hid HL
 have hL0 : GL w w [] := GL.start w
 have hT : PTs w [] := PTs.nil w
 go_enter Tryz.func31, Tryz.ntmps31
 go_wp2_with fail
 with_reducible refine Calls.mono (HI0.out _) ?_
 rintro e x1 ⟨rfl, hb⟩
 replace hL0 := hL0.call hb
 replace hT := hT.call hb
 clear hb
 go_wp2_with fail
 with_reducible refine Calls.mono (HI1.out _) ?_
 rintro e x2 ⟨rfl, hb⟩
 replace hL0 := hL0.call hb
 replace hT := hT.call hb
 clear hb
 go_wp2_with fail
 with_reducible refine Calls.mono (HI0.out _) ?_
 rintro e x3 ⟨rfl, hb⟩
 replace hL0 := hL0.call hb
 replace hT := hT.call hb
 clear hb
 go_wp2_with fail
 with_reducible refine Calls.mono (HL.out _) ?_
 rintro e x4 ⟨v0, rfl, q0, hb⟩
 replace hL0 := hL0.call hb
 replace hT := hT.call hb
 clear hb
 obtain ⟨g1, d1, g1c, rfl, -⟩ := pt_form q0
 replace hT := hT.cons q0
 clear q0
 go_wp2_with fail
 exact bodyPost_ret (v := .slice g1 d1 g1c) (by simp [results, Tryz.results31, go_sem]) rfl ⟨_, rfl, (hT.get mZ), hL0.bl⟩
theorem pconst_w (u c : Rat) (r : List TI) (HI0 : ∀ w, Calls Tryz.prog 20 #[.int .i64 0] w fun xe w' => xe = .returned (fracV u) ∧ Below w.heap.size w w') (HL : ∀ (w : World), Calls Tryz.prog 54 #[fracV u, fracV u, fracV c] w fun e w' => ∃ pv, e = .returned pv ∧ PT w' pv r ∧ Below w.heap.size w w') (w : World) :
  Calls Tryz.prog 19 #[fracV c] w fun e w' => ∃ pv, e = .returned pv ∧ PT w' pv r ∧ Below w.heap.size w w' := by
 replace HI0 := Lib.hid HI0
 replace HL := Lib.hid HL
 have hL0 : GL w w [] := GL.start w
 have hT : PTs w [] := PTs.nil w
 replace hT := (hT.new (.cells #[.int .u64 ((zl c.num : Nat) : Int), .string (zh c.num), .bool (zs c.num), .int .u64 ((lo (fe c) : Nat) : Int), .string (hs (fe c))] 38))
 replace hL0 := (hL0.new rfl [.int .u64 ((zl c.num : Nat) : Int), .string (zh c.num), .bool (zs c.num), .int .u64 ((lo (fe c) : Nat) : Int), .string (hs (fe c))] 38)
 generalize hweq : (w.alloc (.cells #[.int .u64 ((zl c.num : Nat) : Int), .string (zh c.num), .bool (zs c.num), .int .u64 ((lo (fe c) : Nat) : Int), .string (hs (fe c))] 38)) = x1 at hL0 hT
 go_enter Tryz.func19, Tryz.ntmps19
 go_upto_region 1 with fail
 clear hweq
 refine region_tl 5 [EV (.agg #[.int .u64 ((zl u.num : Nat) : Int), .string (zh u.num), .bool (zs u.num), .int .u64 ((lo (fe u) : Nat) : Int), .string (hs (fe u))]), EV (.agg #[.int .u64 ((zl u.num : Nat) : Int), .string (zh u.num), .bool (zs u.num), .int .u64 ((lo (fe u) : Nat) : Int), .string (hs (fe u))]), EV (.agg #[.int .u64 ((zl c.num : Nat) : Int), .string (zh c.num), .bool (zs c.num), .int .u64 ((lo (fe c) : Nat) : Int), .string (hs (fe c))]), PP r, PP r] (by kernel_rfl) (by kernel_rfl) ?_ ?_ ?_
 ·repeat' first | exact stays_nil | apply stays_cons | exact stays_eq _ | exact stays_pt _
 ·simp only [List.take_succ_cons, List.take_zero, hopsR, and_true]
  refine ⟨?_, ?_, ?_, ?_, ?_⟩ <;> intro fv w1 hb1 hp
  all_goals (have hc := (hL0.call (below_drew hb1)).fc; simp only [zF, Nat.reduceAdd] at hc; simp only [putsV, Act.put, zP, Nat.zero_add, Nat.reduceAdd])
  ·refine tyAt_none rfl ?_
   refine ty_call (f := 20) (args := #[.int .i64 0]) (by simp [execOp, go_sem, Act.eval]) ?_
   exact (HI0.out w1).mono fun e w2 ⟨h1, h2⟩ => ⟨_, h1, rfl, h2⟩
  ·refine tyAt_none rfl ?_
   refine ty_call (f := 20) (args := #[.int .i64 0]) (by simp [execOp, go_sem, Act.eval]) ?_
   exact (HI0.out w1).mono fun e w2 ⟨h1, h2⟩ => ⟨_, h1, rfl, h2⟩
  ·refine tyAt_none rfl ?_
   simp [tyUpon, execOp, go_sem, Act.eval, hc, Below.refl]
  ·have h0 : EV _ (fv 0) w1 := hp 0 (LC (by kernel_rfl))
   have h1 : EV _ (fv 1) w1 := hp 1 (LC (by kernel_rfl))
   have h2 : EV _ (fv 2) w1 := hp 2 (LC (by kernel_rfl))
   refine tyAt_none rfl ?_
   refine ty_call (f := 54) (args := #[.agg #[.int .u64 ((zl u.num : Nat) : Int), .string (zh u.num), .bool (zs u.num), .int .u64 ((lo (fe u) : Nat) : Int), .string (hs (fe u))], .agg #[.int .u64 ((zl u.num : Nat) : Int), .string (zh u.num), .bool (zs u.num), .int .u64 ((lo (fe u) : Nat) : Int), .string (hs (fe u))], .agg #[.int .u64 ((zl c.num : Nat) : Int), .string (zh c.num), .bool (zs c.num), .int .u64 ((lo (fe c) : Nat) : Int), .string (hs (fe c))]]) (by simp [execOp, go_sem, Act.eval, h0, h1, h2]) ?_
   exact (HL.out w1).mono fun e w2 ⟨pv, h1, h2, h3⟩ => ⟨pv, h1, h2, h3⟩
  ·have h3 : (PP r) (fv 3) w1 := hp 3 (LC (by kernel_rfl))
   refine tyAt_none rfl ?_
   simp [tyUpon, execOp, go_sem, Act.eval, Below.refl]
   exact h3
 ·intro fv x2 hb1 hv
  have e0 : fv 0 = _ := hv 0 (by omega)
  have e1 : fv 1 = _ := hv 1 (by omega)
  have e2 : fv 2 = _ := hv 2 (by omega)
  have q3 : PT x2 (fv 3) r := hv 3 (by omega)
  obtain ⟨g1, d1, g1c, e3, -⟩ := pt_form q3
  rw [e3] at q3
  have q4 : PT x2 (fv 4) r := hv 4 (by omega)
  obtain ⟨g2, d2, g2c, e4, -⟩ := pt_form q4
  rw [e4] at q4
  simp only [List.take_succ_cons, List.take_zero, putsV, Act.put, zP, List.drop_succ_cons, List.drop_zero, Nat.zero_add, Nat.reduceAdd, e0, e1, e2, e3, e4]
  replace hL0 := hL0.call (below_drew hb1)
  replace hT := hT.call (below_drew hb1)
  replace hT := hT.cons q3
  replace hT := hT.cons q4
  clear e0 e1 e2 e3 e4 hb1 hv q3 q4 fv
  go_wp2_with fail
  exact bodyPost_ret (v := .slice g2 d2 g2c) (by simp [results, Tryz.results19, go_sem]) rfl ⟨_, rfl, (hT.get mZ), hL0.bl⟩
theorem pmul_w (l m r : List TI) (d f s : Int) (H1 : ∀ (p0 : Value) (w : World), PT w p0 l → Calls Tryz.prog 57 #[p0] w fun e w' => e = .returned (.int .i64 d) ∧ Below w.heap.size w w') (H2 : ∀ (p0 : Value) (w : World), PT w p0 m → Calls Tryz.prog 57 #[p0] w fun e w' => e = .returned (.int .i64 f) ∧ Below w.heap.size w w') (HP : ∀ (p0 p1 : Value) (w : World), PT w p0 l → PT w p1 m → Calls Tryz.prog 71 #[p0, p1] w fun e w' => ∃ pv, e = .returned pv ∧ PT w' pv r ∧ Below w.heap.size w w') (e1 : IntKind.i64.wrap (d + f) = s) (e2 : wrap64 (d + f) = s) (e3 : ¬ 12 < s) (p0 : Value) (p1 : Value) (w : World) (r0 : PT w p0 l) (r1 : PT w p1 m) :
  Calls Tryz.prog 32 #[p0, p1] w fun e w' => ∃ pv, e = .returned (.tuple #[pv, .int .i64 0]) ∧ PT w' pv r ∧ Below w.heap.size w w' := by
 obtain ⟨a0, n0, c0, rfl, -⟩ := pt_form r0
 have f0 := Lib.hid r0
 clear r0
 obtain ⟨a1, n1, c1, rfl, -⟩ := pt_form r1
 have f1 := Lib.hid r1
 clear r1
 replace H1 := Lib.hid H1
 replace H2 := Lib.hid H2
 replace HP := Lib.hid HP
 have hL0 : GL w w [] := GL.start w
 have hT : PTs w [] := PTs.nil w
 go_enter Tryz.func32, Tryz.ntmps32
 go_wp2_with fail
 with_reducible refine Calls.mono (H1.out (.slice a0 n0 c0) _ (PT.below f0.out hL0.bl)) ?_
 rintro e x1 ⟨rfl, hb⟩
 replace hL0 := hL0.call hb
 replace hT := hT.call hb
 clear hb
 go_wp2_with fail
 with_reducible refine Calls.mono (H2.out (.slice a1 n1 c1) _ (PT.below f1.out hL0.bl)) ?_
 rintro e x2 ⟨rfl, hb⟩
 replace hL0 := hL0.call hb
 replace hT := hT.call hb
 clear hb
 go_wp2_with fail
 with_reducible refine Calls.mono (HP.out (.slice a0 n0 c0) (.slice a1 n1 c1) _ (PT.below f0.out hL0.bl) (PT.below f1.out hL0.bl)) ?_
 rintro e x3 ⟨v0, rfl, q0, hb⟩
 replace hL0 := hL0.call hb
 replace hT := hT.call hb
 clear hb
 obtain ⟨g1, d1, g1c, rfl, -⟩ := pt_form q0
 replace hT := hT.cons q0
 clear q0
 go_wp2_with fail
 exact bodyPost_ret (v := .tuple #[.slice g1 d1 g1c, .int .i64 0]) (by simp [results, Tryz.results32, go_sem]) rfl ⟨_, rfl, (hT.get mZ), hL0.bl⟩
theorem plin_w (a b c : Rat) (r : List TI)
  (HS : ∀ (p0 : Value) (w : World), PT w p0 [(1, 0, a), (0, 1, b), (0, 0, c)] → Calls Tryz.prog 41 #[p0] w fun e w' => ∃ pv, e = .returned pv ∧ PT w' pv r ∧ Below w.heap.size w w') (w : World) :
  Calls Tryz.prog 54 #[fracV a, fracV b, fracV c] w fun e w' => ∃ pv, e = .returned pv ∧ PT w' pv r ∧ Below w.heap.size w w' := by
 replace HS := Lib.hid HS
 have hL0 : GL w w [] := GL.start w
 obtain ⟨x1, hweq, hL0⟩ := GL.named (((hL0.new rfl [.int .u64 ((zl a.num : Nat) : Int), .string (zh a.num), .bool (zs a.num), .int .u64 ((lo (fe a) : Nat) : Int), .string (hs (fe a))] 38).new (K := w.heap.size + 1) (szA _ _) [.int .u64 ((zl b.num : Nat) : Int), .string (zh b.num), .bool (zs b.num), .int .u64 ((lo (fe b) : Nat) : Int), .string (hs (fe b))] 38).new (K := w.heap.size + 1 + 1) (by simp only [World.size_alloc]) [.int .u64 ((zl c.num : Nat) : Int), .string (zh c.num), .bool (zs c.num), .int .u64 ((lo (fe c) : Nat) : Int), .string (hs (fe c))] 38)
 have hN0 := cells_of _ 0 [] rfl (hL0.get _ _ mZ)
 simp only [zF, Nat.reduceAdd] at hN0
 have hN1 := cells_of _ 0 [] rfl (hL0.get _ _ (mK mZ))
 simp only [zF, Nat.reduceAdd] at hN1
 have hN2 := cells_of _ 0 [] rfl (hL0.get _ _ (mK (mK mZ)))
 simp only [zF, Nat.reduceAdd] at hN2
 have hL1 := hL0.new rfl [.int .i64 1, .int .i64 0, .int .u64 ((zl a.num : Nat) : Int), .string (zh a.num), .bool (zs a.num), .int .u64 ((lo (fe a) : Nat) : Int), .string (hs (fe a)), .int .i64 0, .int .i64 1, .int .u64 ((zl b.num : Nat) : Int), .string (zh b.num), .bool (zs b.num), .int .u64 ((lo (fe b) : Nat) : Int), .string (hs (fe b)), .int .i64 0, .int .i64 0, .int .u64 ((zl c.num : Nat) : Int), .string (zh c.num), .bool (zs c.num), .int .u64 ((lo (fe c) : Nat) : Int), .string (hs (fe c))] 80
 generalize hweq2 : x1.alloc (.cells #[.int .i64 1, .int .i64 0, .int .u64 ((zl a.num : Nat) : Int), .string (zh a.num), .bool (zs a.num), .int .u64 ((lo (fe a) : Nat) : Int), .string (hs (fe a)), .int .i64 0, .int .i64 1, .int .u64 ((zl b.num : Nat) : Int), .string (zh b.num), .bool (zs b.num), .int .u64 ((lo (fe b) : Nat) : Int), .string (hs (fe b)), .int .i64 0, .int .i64 0, .int .u64 ((zl c.num : Nat) : Int), .string (zh c.num), .bool (zs c.num), .int .u64 ((lo (fe c) : Nat) : Int), .string (hs (fe c))] 80) = x2 at hL1
 have hp : PT x2 (.slice (some ⟨x1.heap.size, 0, none⟩) 3 3) [(1, 0, a), (0, 1, b), (0, 0, c)] := pt_of_hd (hL1.get _ _ mZ) rfl
 have hS1 := Lib.hid (HS.out _ x2 hp)
 clear hp
 go_enter Tryz.func54, Tryz.ntmps54
 go_wp2_with (go_at_call 41; with_reducible refine Calls.mono hS1.out ?_; rintro e x3 ⟨v, rfl, hp3, hb3⟩; replace hp3 := Lib.hid hp3; replace hb3 := Lib.hid hb3)
 go_ret
 exact ⟨_, rfl, hp3.out, hL1.bl.trans (hb3.out.mono hL1.bl.size)⟩
end Go.Proofs.YtkdbhacimoaohaaGreatDoor
namespace Go.Proofs.YtkdbhacimoaohaaGreatDoor
open Go.RowKit
attribute [local irreducible] lo hs sm s64 c64 d64 b64 mh ml pd pc qd qc val hiB str cmpI srD lz nb zl zh zs fe klT ordZ
/-- A normal form of degree d at most, of size K. -/
structure GP (p : TL) (d K : Nat) : Prop where
 nf : NF p
 tb : TB p d
 sz : SzL p K
theorem TB.mono {p : TL} {d e : Nat} (h : TB p d) (hd : d ≤ e) : TB p e := fun t ht => Nat.le_trans (h t ht) hd
theorem GP.mono {p : TL} {d K e M : Nat} (h : GP p d K) (hd : d ≤ e) (hK : K ≤ M) : GP p e M := ⟨h.nf, h.tb.mono hd, h.sz.mono hK⟩
theorem nf_len {p : TL} (hp : NF p) (hb : TB p 12) : p.length ≤ 169 := by
 have h1 : (p.map fun t => t.1 * 13 + t.2.1).Nodup := by
  refine List.pairwise_map.2 (hp.up.imp_of_mem ?_)
  intro s t hs ht hlt e
  have e1 := hb s hs
  have e2 := hb t ht
  have h3 : s.1 = t.1 := by omega
  have h4 : s.2.1 = t.2.1 := by omega
  exact KLt.irrefl (key t) (by have : key s = key t := Prod.ext h3 h4; rwa [this] at hlt)
 have h2 : (p.map fun t => t.1 * 13 + t.2.1) ⊆ List.range 169 := by
  intro x hx
  obtain ⟨t, ht, rfl⟩ := List.mem_map.1 hx
  have e1 := hb t ht
  exact List.mem_range.2 (by omega)
 have := h1.length_le_of_subset h2
 rwa [List.length_map, List.length_range] at this
theorem nf_len91 {p : TL} (hp : NF p) (hb : TB p 12) : p.length ≤ 91 := by
 have h1 : (p.map fun t => (t.1 + t.2.1) * (t.1 + t.2.1 + 1) / 2 + t.2.1).Nodup := by
  refine List.pairwise_map.2 (hp.up.imp_of_mem ?_)
  intro s t hs ht hlt e
  have e1 := hb s hs
  have e2 := hb t ht
  have h3 : s.1 = t.1 ∧ s.2.1 = t.2.1 := by
   have key : ∀ a, a < 13 → ∀ b, b < 13 → ∀ c, c < 13 → ∀ d, d < 13 → c ≤ a → d ≤ b → a * (a + 1) / 2 + c = b * (b + 1) / 2 + d → a = b ∧ c = d := by
    intro a ha b hb2 c hc d hd h1 h2 h3
    rcases Nat.lt_trichotomy a b with h | h | h
    ·exfalso
     have h4 : a * (a + 1) / 2 + a + 1 ≤ b * (b + 1) / 2 := by
      have : (a + 1) * (a + 2) ≤ b * (b + 1) := Nat.mul_le_mul (by omega) (by omega)
      have e : (a + 1) * (a + 2) = a * (a + 1) + 2 * (a + 1) := by rw [Nat.mul_comm (a + 1) (a + 2), Nat.add_mul]
      omega
     omega
    ·subst h; omega
    ·exfalso
     have h4 : b * (b + 1) / 2 + b + 1 ≤ a * (a + 1) / 2 := by
      have : (b + 1) * (b + 2) ≤ a * (a + 1) := Nat.mul_le_mul (by omega) (by omega)
      have e : (b + 1) * (b + 2) = b * (b + 1) + 2 * (b + 1) := by rw [Nat.mul_comm (b + 1) (b + 2), Nat.add_mul]
      omega
     omega
   have := key (s.1 + s.2.1) (by omega) (t.1 + t.2.1) (by omega) s.2.1 (by omega) t.2.1 (by omega) (by omega) (by omega) e
   omega
  exact KLt.irrefl (key t) (by have : key s = key t := Prod.ext h3.1 h3.2; rwa [this] at hlt)
 have h2 : (p.map fun t => (t.1 + t.2.1) * (t.1 + t.2.1 + 1) / 2 + t.2.1) ⊆ List.range 91 := by
  intro x hx
  obtain ⟨t, ht, rfl⟩ := List.mem_map.1 hx
  have e1 := hb t ht
  have h3 : (t.1 + t.2.1) * (t.1 + t.2.1 + 1) ≤ 12 * 13 := Nat.mul_le_mul e1 (by omega)
  refine List.mem_range.2 ?_
  rcases Nat.lt_or_ge (t.1 + t.2.1) 12 with h | h
  ·have h4 : (t.1 + t.2.1) * (t.1 + t.2.1 + 1) ≤ 11 * 12 := Nat.mul_le_mul (by omega) (by omega)
   omega
  ·omega
 have := h1.length_le_of_subset h2
 rwa [List.length_map, List.length_range] at this
theorem GP.len {p : TL} {d K : Nat} (h : GP p d K) (hd : d ≤ 12) : p.length ≤ 169 := nf_len h.nf (h.tb.mono hd)
theorem GP.nrm {p : TL} {d K : Nat} (h : GP p d K) (hd : d ≤ 12) : nrm (ofL p) = p := nrm_ofL h.nf (h.tb.mono hd)
theorem GP.szo {p : TL} {d K : Nat} (h : GP p d K) : VdL (ofL p) → SzL (toL (ofL p)) K := fun _ => by rw [toL_ofL]; exact h.sz
def addN (p q : TL) : TL := nfL (p ++ q)
def mulN (p q : TL) : TL := nfL (prodL p q)
def dxN (p : TL) : TL := nfL (dxL p)
def dyN (p : TL) : TL := nfL (dyL p)
def linN (a b c : Rat) : TL := nfL (linL a b c)
theorem GP.nil : GP [] 0 1 := ⟨NF.nil, fun t h => (by cases h), SzL.nil 1 (by omega)⟩
theorem GP.add {p q : TL} {d K e M : Nat} (h : GP p d K) (g : GP q e M) : GP (addN p q) (max d e) (K + M + 1) :=
 ⟨nfL_nf _, tb_nfL fun t ht => by
  rcases List.mem_append.1 ht with ht | ht
  ·exact Nat.le_trans (h.tb t ht) (Nat.le_max_left _ _)
  ·exact Nat.le_trans (g.tb t ht) (Nat.le_max_right _ _), (h.sz.append g.sz).nf⟩
theorem GP.mul {p q : TL} {d K e M : Nat} (h : GP p d K) (g : GP q e M) : GP (mulN p q) (d + e) (K + M) := ⟨nfL_nf _, tb_nfL (tb_prod h.tb g.tb), (h.sz.prod g.sz).nf⟩
theorem GP.lin {a b c : Rat} {k : Nat} (ha : Sz a k) (hb : Sz b k) (hc : Sz c k) : GP (linN a b c) 1 (3 * k + 2) :=
 ⟨nfL_nf _, tb_nfL (tb_lin a b c), ((SzL.cons ha (SzL.cons hb (SzL.one hc))).mono (by omega)).nf⟩
section
variable {p q : TL} {d K e M : Nat} {w : World} {v u : Value}
theorem normG (h : GP p d K) (hd : d ≤ 12) (hK : K ≤ 1000000) (w : World) (v : Value) (hv : PT w v (ofL p)) : Calls Tryz.prog 43 #[v] w fun xe w' => ∃ v', xe = .returned v' ∧ PT w' v' (ofL p) ∧ Below w.heap.size w w' :=
 normN p h.nf (h.tb.mono hd) K h.sz hK (by have := h.len hd; omega) w v hv
theorem degG (h : GP p d K) (hd : d ≤ 12) (hK : K ≤ 1000000) (w : World) (v : Value) (hv : PT w v (ofL p)) : Calls Tryz.prog 57 #[v] w fun xe w' => xe = .returned (.int .i64 (degI p)) ∧ Below w.heap.size w w' := by
 have := degP (ofL p) K h.szo hK (by rw [ofL_length]; have := h.len hd; omega) w v hv
 rwa [h.nrm hd] at this
theorem coefG (h : GP p d K) (hd : d ≤ 12) (hK : K ≤ 1000000) (i j : Int) (w : World) (v : Value) (hv : PT w v (ofL p)) : Calls Tryz.prog 61 #[v, .int .i64 i, .int .i64 j] w fun xe w' => xe = .returned (fracV (coefZ p i j)) ∧ Below w.heap.size w w' := by
 have := coefP (ofL p) i j K h.szo hK (by rw [ofL_length]; have := h.len hd; omega) w v hv
 rwa [h.nrm hd] at this
theorem addG (h : GP p d K) (g : GP q e M) (hd : d ≤ 12) (he : e ≤ 12) (hK : K + M ≤ 100000) (w : World) (v u : Value) (hv : PT w v (ofL p)) (hu : PT w u (ofL q)) : Calls Tryz.prog 11 #[v, u] w fun xe w' => ∃ v', xe = .returned v' ∧ PT w' v' (ofL (addN p q)) ∧ Below w.heap.size w w' := by
 have l1 := h.len hd
 have l2 := g.len he
 have := addP (ofL p) (ofL q) (K + M) (h.mono (Nat.le_refl _) (by omega)).szo (g.mono (Nat.le_refl _) (by omega)).szo hK (by rw [ofL_length]; omega) (by rw [ofL_length]; omega) (by rw [h.nrm hd, g.nrm he]; omega) w v u hv hu
 rwa [h.nrm hd, g.nrm he] at this
theorem prodG (h : GP p d K) (g : GP q e M) (hde : d + e ≤ 12) (hK : K + M ≤ 100000) (w : World) (v u : Value) (hv : PT w v (ofL p)) (hu : PT w u (ofL q)) : Calls Tryz.prog 71 #[v, u] w fun xe w' => ∃ v', xe = .returned v' ∧ PT w' v' (ofL (mulN p q)) ∧ Below w.heap.size w w' := by
 have hl := h.len (by omega)
 have hm := g.len (by omega)
 obtain ⟨ao, n, c, rfl, hn⟩ := pt_form hv
 obtain ⟨bo, n2, c2, rfl, hn2⟩ := pt_form hu
 have hpl : p.length * q.length ≤ 10000 := by
  have h1 := nf_len91 h.nf (h.tb.mono (by omega : d ≤ 12))
  have h2 := nf_len91 g.nf (g.tb.mono (by omega : e ≤ 12))
  exact Nat.le_trans (Nat.mul_le_mul h1 h2) (by decide)
 refine pprod_w (ofL p) (ofL q) p q (ofL (mulN p q)) ao bo n c n2 c2 hpl (by omega) (by omega) (h.tb.mono (by omega)) (g.tb.mono (by omega)) (fun w hq => normG h (by omega) (by omega) w _ hq) (fun w hq => normG g (by omega) (by omega) w _ hq) (fun s hs t ht w => mulF _ _ (K + M) ((h.sz.mem hs).mono (by omega)) ((g.sz.mem ht).mono (by omega)) (by omega) w) (fun v w hv => ?_) w hv hu
 have := sumP (ofL (prodL p q)) (K + M) (vd_ofL.2 ((tb_prod h.tb g.tb).mono hde)) (by rw [toL_ofL]; exact h.sz.prod g.sz) (by omega) (by rw [ofL_length, prodL_len]; exact hpl) w v hv
 rwa [toL_ofL] at this
theorem mulG (h : GP p d K) (g : GP q e M) (hde : d + e ≤ 12) (hK : K + M ≤ 100000) (w : World) (v u : Value) (hv : PT w v (ofL p)) (hu : PT w u (ofL q)) : Calls Tryz.prog 32 #[v, u] w fun xe w' => ∃ v', xe = .returned (.tuple #[v', .int .i64 0]) ∧ PT w' v' (ofL (mulN p q)) ∧ Below w.heap.size w w' := by
 have a1 := degI_le h.tb
 have a2 := degI_le g.tb
 have b1 := degI_ge p
 have b2 := degI_ge q
 exact pmul_w (ofL p) (ofL q) (ofL (mulN p q)) (degI p) (degI q) (degI p + degI q) (fun a w ha => degG h (by omega) (by omega) w a ha) (fun a w ha => degG g (by omega) (by omega) w a ha) (fun a b w ha hb => prodG h g hde hK w a b ha hb) (by simp [IntKind.wrap, IntKind.bits, IntKind.signed]; omega) (by simp [wrap64]; omega) (by omega) v u w hv hu
theorem linG {a b c : Rat} {k : Nat} (ha : Sz a k) (hb : Sz b k) (hc : Sz c k) (hk : k ≤ 30000) (w : World) : Calls Tryz.prog 54 #[fracV a, fracV b, fracV c] w fun xe w' => ∃ v', xe = .returned v' ∧ PT w' v' (ofL (linN a b c)) ∧ Below w.heap.size w w' := by
 refine plin_w a b c (ofL (linN a b c)) (fun v w hv => ?_) w
 have e : ([(1, 0, a), (0, 1, b), (0, 0, c)] : List TI) = ofL (linL a b c) := rfl
 rw [e] at hv
 have := sumP (ofL (linL a b c)) (3 * k + 2) (vd_ofL.2 ((tb_lin a b c).mono (by omega))) (by rw [toL_ofL]; exact (SzL.cons ha (SzL.cons hb (SzL.one hc))).mono (by omega)) (by omega) (by rw [ofL_length]; unfold linL; simp) w v hv
 rwa [toL_ofL] at this
end
end Go.Proofs.YtkdbhacimoaohaaGreatDoor
namespace Go.Proofs.YtkdbhacimoaohaaGreatDoor
open Go.RowKit
attribute [local irreducible] lo hs sm s64 c64 d64 b64 mh ml pd pc qd qc val hiB str cmpI srD lz nb zl zh zs fe klT ordZ
theorem PTs.put {W W' : World} {S : List (Value × List TI)} (h : PTs W S) {k : Nat} {c : List Value} (hu : Upd k W W') (hd : Hd W k c) (hc : ∀ v ∈ c, ∀ n, v ≠ .int .i64 n) : PTs W' S := fun p hp => by
 rcases h p hp with h1 | ⟨g, cp, h1, h2⟩
 ·exact .inl h1
 ·rcases Nat.eq_zero_or_pos p.2.length with h0 | h0
  ·refine .inr ⟨g, cp, h1, fun i hi => absurd hi (by omega), Nat.lt_of_lt_of_le h2.lt (Nat.le_of_eq hu.size.symm)⟩
  ·have hne : g ≠ k := hd.no_int hc (h2.cell 0 h0).1
   refine .inr ⟨g, cp, h1, fun i hi => ?_, Nat.lt_of_lt_of_le h2.lt (Nat.le_of_eq hu.size.symm)⟩
   have e := fun o => World.cell?_of_block (w := W) (w' := W') (a := ⟨g, o, none⟩) (hu.block g hne)
   rw [e, e, e, e, e, e, e]
   exact h2.cell i hi
theorem new_pol (w : World) : (Instr.alloc 30 true (.tuple #[])).run Tryz.prog w = .ok (.pointer (some ⟨w.heap.size, 0, none⟩)) (w.alloc (.cells #[.slice none 0 0] 30)) := by
 simp [go_sem, Instr.alloc]
theorem phorn2_w (f : FuncId) (k0 k1 : Nat) (D : Nat) (d : Int) (um : List TI) (A Q C : Nat → List TI) (ao : Option Addr) (m c : Nat) (hD : D ≤ 13) (hd : d = (D : Int) - 1) (hQ : Q 0 = []) (K : World → Prop) (hK : Keeps K)
  (eg : ∀ args w, (callFunc f args).run Tryz.prog w = .ok (.enter f args) w)
  (HP : ∀ i, i < D → ∀ (v : Value) (w : World), PT w v (Q i) → PT w (.slice ao m c) um → Calls Tryz.prog 71 #[v, .slice ao m c] w fun xe w' => ∃ v', xe = .returned v' ∧ PT w' v' (A i) ∧ Below w.heap.size w w')
  (HC : ∀ i, i < D → ∀ (e : Int) (w : World), e = d - (i : Int) → K w → Calls Tryz.prog f #[.int .i64 e, .pointer (some ⟨k0, 0, none⟩), .pointer (some ⟨k1, 0, none⟩)] w fun xe w' => ∃ v', xe = .returned v' ∧ PT w' v' (C i) ∧ Below w.heap.size w w')
  (HA : ∀ i, i < D → ∀ (v u : Value) (w : World), PT w v (A i) → PT w u (C i) → Calls Tryz.prog 11 #[v, u] w fun xe w' => ∃ v', xe = .returned v' ∧ PT w' v' (Q (i + 1)) ∧ Below w.heap.size w w')
  (w : World) (hq : PT w (.slice ao m c) um) (kK : K w) :
  Calls Tryz.prog 58 #[.int .i64 d, .slice ao m c, .func (.func f) #[] #[.pointer (some ⟨k0, 0, none⟩), .pointer (some ⟨k1, 0, none⟩)]] w fun xe w' => ∃ v, xe = .returned v ∧ PT w' v (Q D) ∧ Below w.heap.size w w' := by
 replace HP := Lib.hid HP
 replace HC := Lib.hid HC
 replace HA := Lib.hid HA
 replace hq := Lib.hid hq
 replace kK := Lib.hid kK
 replace hK := Lib.hid hK
 replace hQ := Lib.hid hQ
 replace hd := Lib.hid hd
 have w1 : IntKind.i64.wrap (d + 1) = (D : Int) := by rw [hd.out]; simp [IntKind.wrap, IntKind.bits, IntKind.signed]; omega
 have w2 : wrap64 (d + 1) = (D : Int) := by rw [hd.out]; simp [wrap64]; omega
 go_enter Tryz.func58, Tryz.ntmps58
 go_wp2_with fail
 go_loopg [7, 11] D (fun gk sv iv wr => ∃ (k : Nat) (zi : Int) (vs : Value), k + gk = D ∧ vs = sv ∧ iv = .int .i64 zi ∧ zi = (k : Int) ∧ PT wr vs (Q k) ∧ Below w.heap.size w wr)
 case atStart => exact ⟨0, 0, _, Nat.zero_add D, rfl, by first | rfl | go_num, rfl, by rw [hQ.out]; exact pt_nil _, Below.refl _ _⟩
 case round =>
  obtain ⟨k, zi, vs, hik, rfl, rfl, hzi, hp, hB⟩ := hrel
  replace hp := Lib.hid hp
  rcases Nat.lt_or_ge k D with hin | hin
  ·subst hzi
   have k4 : (k : Int) < (D : Int) := by omega
   obtain ⟨e0, he0⟩ : ∃ e0, e0 = d - (k : Int) := ⟨_, rfl⟩
   have w3 : IntKind.i64.wrap (d - (k : Int)) = e0 := by rw [he0, hd.out]; simp [IntKind.wrap, IntKind.bits, IntKind.signed]; omega
   have w4 : wrap64 (d - (k : Int)) = e0 := by rw [he0, hd.out]; simp [wrap64]; omega
   have hP1 := Lib.hid (HP.out k hin vs wr hp.out (hq.out.below hB))
   replace he0 := Lib.hid he0
   go_wp2_with fail
   with_reducible refine Calls.mono hP1.out ?_
   rintro e y2 ⟨v2, rfl, hp2, hb2⟩
   have hB2 := hB.trans (hb2.mono hB.size)
   clear hP1 hb2
   have hC1 := Lib.hid (HC.out k hin e0 y2 he0.out (hK.out.at hB2 kK.out))
   replace hp2 := Lib.hid hp2
   replace hB2 := Lib.hid hB2
   go_wp2_with fail
   with_reducible refine Calls.mono hC1.out ?_
   rintro e y3 ⟨v3, rfl, hp3, hb3⟩
   have hA1 := Lib.hid (HA.out k hin v2 v3 y3 (hp2.out.below hb3) hp3)
   have hB3 := Lib.hid (hB2.out.trans (hb3.mono hB2.out.size))
   clear hC1 hb3 hp3 hp2 hB2
   go_wp2_with fail
   with_reducible refine Calls.mono hA1.out ?_
   rintro e y4 ⟨v4, rfl, hp4, hb4⟩
   have hB4 := hB3.out.trans (hb4.mono hB3.out.size)
   replace hp4 := Lib.hid hp4
   clear hA1 hb4 hB3
   go_wp2_with fail
   go_roundg (gk - 1)
   case measure => omega
   case rel => exact ⟨k + 1, _, _, by omega, rfl, by first | rfl | go_num, by omega, hp4.out, hB4⟩
  ·obtain rfl : k = D := by omega
   subst hzi
   have k4 : ¬ (k : Int) < (k : Int) := by omega
   go_wp2_with fail
   go_ret
   exact ⟨_, rfl, hp.out, hB⟩
theorem phorn3_w (f : FuncId) (k0 k1 k2 : Nat) (D : Nat) (d : Int) (um : List TI) (A Q C : Nat → List TI) (ao : Option Addr) (m c : Nat) (hD : D ≤ 13) (hd : d = (D : Int) - 1) (hQ : Q 0 = []) (K : World → Prop) (hK : Keeps K)
  (eg : ∀ args w, (callFunc f args).run Tryz.prog w = .ok (.enter f args) w)
  (HP : ∀ i, i < D → ∀ (v : Value) (w : World), PT w v (Q i) → PT w (.slice ao m c) um → Calls Tryz.prog 71 #[v, .slice ao m c] w fun xe w' => ∃ v', xe = .returned v' ∧ PT w' v' (A i) ∧ Below w.heap.size w w')
  (HC : ∀ i, i < D → ∀ (e : Int) (w : World), e = d - (i : Int) → K w → Calls Tryz.prog f #[.int .i64 e, .pointer (some ⟨k0, 0, none⟩), .pointer (some ⟨k1, 0, none⟩), .pointer (some ⟨k2, 0, none⟩)] w fun xe w' => ∃ v', xe = .returned v' ∧ PT w' v' (C i) ∧ Below w.heap.size w w')
  (HA : ∀ i, i < D → ∀ (v u : Value) (w : World), PT w v (A i) → PT w u (C i) → Calls Tryz.prog 11 #[v, u] w fun xe w' => ∃ v', xe = .returned v' ∧ PT w' v' (Q (i + 1)) ∧ Below w.heap.size w w')
  (w : World) (hq : PT w (.slice ao m c) um) (kK : K w) :
  Calls Tryz.prog 58 #[.int .i64 d, .slice ao m c, .func (.func f) #[] #[.pointer (some ⟨k0, 0, none⟩), .pointer (some ⟨k1, 0, none⟩), .pointer (some ⟨k2, 0, none⟩)]] w fun xe w' => ∃ v, xe = .returned v ∧ PT w' v (Q D) ∧ Below w.heap.size w w' := by
 replace HP := Lib.hid HP
 replace HC := Lib.hid HC
 replace HA := Lib.hid HA
 replace hq := Lib.hid hq
 replace kK := Lib.hid kK
 replace hK := Lib.hid hK
 replace hQ := Lib.hid hQ
 replace hd := Lib.hid hd
 have w1 : IntKind.i64.wrap (d + 1) = (D : Int) := by rw [hd.out]; simp [IntKind.wrap, IntKind.bits, IntKind.signed]; omega
 have w2 : wrap64 (d + 1) = (D : Int) := by rw [hd.out]; simp [wrap64]; omega
 go_enter Tryz.func58, Tryz.ntmps58
 go_wp2_with fail
 go_loopg [7, 11] D (fun gk sv iv wr => ∃ (k : Nat) (zi : Int) (vs : Value), k + gk = D ∧ vs = sv ∧ iv = .int .i64 zi ∧ zi = (k : Int) ∧ PT wr vs (Q k) ∧ Below w.heap.size w wr)
 case atStart => exact ⟨0, 0, _, Nat.zero_add D, rfl, by first | rfl | go_num, rfl, by rw [hQ.out]; exact pt_nil _, Below.refl _ _⟩
 case round =>
  obtain ⟨k, zi, vs, hik, rfl, rfl, hzi, hp, hB⟩ := hrel
  replace hp := Lib.hid hp
  rcases Nat.lt_or_ge k D with hin | hin
  ·subst hzi
   have k4 : (k : Int) < (D : Int) := by omega
   obtain ⟨e0, he0⟩ : ∃ e0, e0 = d - (k : Int) := ⟨_, rfl⟩
   have w3 : IntKind.i64.wrap (d - (k : Int)) = e0 := by rw [he0, hd.out]; simp [IntKind.wrap, IntKind.bits, IntKind.signed]; omega
   have w4 : wrap64 (d - (k : Int)) = e0 := by rw [he0, hd.out]; simp [wrap64]; omega
   have hP1 := Lib.hid (HP.out k hin vs wr hp.out (hq.out.below hB))
   replace he0 := Lib.hid he0
   go_wp2_with fail
   with_reducible refine Calls.mono hP1.out ?_
   rintro e y2 ⟨v2, rfl, hp2, hb2⟩
   have hB2 := hB.trans (hb2.mono hB.size)
   clear hP1 hb2
   have hC1 := Lib.hid (HC.out k hin e0 y2 he0.out (hK.out.at hB2 kK.out))
   replace hp2 := Lib.hid hp2
   replace hB2 := Lib.hid hB2
   go_wp2_with fail
   with_reducible refine Calls.mono hC1.out ?_
   rintro e y3 ⟨v3, rfl, hp3, hb3⟩
   have hA1 := Lib.hid (HA.out k hin v2 v3 y3 (hp2.out.below hb3) hp3)
   have hB3 := Lib.hid (hB2.out.trans (hb3.mono hB2.out.size))
   clear hC1 hb3 hp3 hp2 hB2
   go_wp2_with fail
   with_reducible refine Calls.mono hA1.out ?_
   rintro e y4 ⟨v4, rfl, hp4, hb4⟩
   have hB4 := hB3.out.trans (hb4.mono hB3.out.size)
   replace hp4 := Lib.hid hp4
   clear hA1 hb4 hB3
   go_wp2_with fail
   go_roundg (gk - 1)
   case measure => omega
   case rel => exact ⟨k + 1, _, _, by omega, rfl, by first | rfl | go_num, by omega, hp4.out, hB4⟩
  ·obtain rfl : k = D := by omega
   subst hzi
   have k4 : ¬ (k : Int) < (k : Int) := by omega
   go_wp2_with fail
   go_ret
   exact ⟨_, rfl, hp.out, hB⟩
theorem pshift11_w (l r : List TI) (i j : Int) (q : Rat) (pv : Value) (k0 k1 : Nat)
  (HC : ∀ w : World, PT w pv l → Calls Tryz.prog 61 #[pv, .int .i64 i, .int .i64 j] w fun xe w' => xe = .returned (fracV q) ∧ Below w.heap.size w w')
  (HK : ∀ w : World, Calls Tryz.prog 19 #[fracV q] w fun xe w' => ∃ v', xe = .returned v' ∧ PT w' v' r ∧ Below w.heap.size w w')
  (w : World) (h0 : Hd w k0 [pv]) (h1 : Hd w k1 [.int .i64 i]) (hp : PT w pv l) :
  Calls Tryz.prog 60 #[.int .i64 j, .pointer (some ⟨k0, 0, none⟩), .pointer (some ⟨k1, 0, none⟩)] w fun xe w' => ∃ v', xe = .returned v' ∧ PT w' v' r ∧ Below w.heap.size w w' := by
 obtain ⟨ao, n, c, rfl, -⟩ := pt_form hp
 replace HC := Lib.hid HC
 replace HK := Lib.hid HK
 replace hp := Lib.hid hp
 have hN0 := cells_of _ 0 [] rfl h0
 simp only [zF, Nat.reduceAdd] at hN0
 have hN1 := cells_of _ 0 [] rfl h1
 simp only [zF, Nat.reduceAdd] at hN1
 go_enter Tryz.func60, Tryz.ntmps60
 go_wp2_with (first | fail | (go_at_call 61; with_reducible refine Calls.mono (HC.out _ hp.out) ?_; rintro e y1 ⟨rfl, hb1⟩; replace hb1 := Lib.hid hb1) | (go_at_call 19; with_reducible refine Calls.mono (HK.out _) ?_; rintro e y2 ⟨v2, rfl, hp2, hb2⟩; replace hb2 := Lib.hid hb2; replace hp2 := Lib.hid hp2))
 go_ret
 exact ⟨_, rfl, hp2.out, hb1.out.trans (hb2.out.mono hb1.out.size)⟩
theorem pshift1_w (l um r : List TI) (i d e0 : Int) (pv uv : Value) (kd ku kp : Nat) (w1 : IntKind.i64.wrap (d - i) = e0) (w2 : wrap64 (d - i) = e0)
  (HH : ∀ (ki : Nat) (w : World), Hd w kp [pv] → Hd w ki [.int .i64 i] → PT w pv l → PT w uv um → Calls Tryz.prog 58 #[.int .i64 e0, uv, .func (.func 60) #[] #[.pointer (some ⟨kp, 0, none⟩), .pointer (some ⟨ki, 0, none⟩)]] w fun xe w' => ∃ v', xe = .returned v' ∧ PT w' v' r ∧ Below w.heap.size w w')
  (w : World) (h0 : Hd w kd [.int .i64 d]) (h1 : Hd w ku [uv]) (h2 : Hd w kp [pv]) (hp : PT w pv l) (hu : PT w uv um) :
  Calls Tryz.prog 59 #[.int .i64 i, .pointer (some ⟨kd, 0, none⟩), .pointer (some ⟨ku, 0, none⟩), .pointer (some ⟨kp, 0, none⟩)] w fun xe w' => ∃ v', xe = .returned v' ∧ PT w' v' r ∧ Below w.heap.size w w' := by
 obtain ⟨ao, n, c, rfl, -⟩ := pt_form hp
 obtain ⟨bo, n2, c2, rfl, -⟩ := pt_form hu
 replace HH := Lib.hid HH
 replace hp := Lib.hid hp
 replace hu := Lib.hid hu
 have hL0 : GL w w [] := GL.start w
 obtain ⟨x1, hweq, hL0⟩ := GL.named (hL0.new rfl [.int .i64 i] 3)
 have hH1 := Lib.hid (HH.out w.heap.size x1 (h2.below hL0.bl) (hL0.get _ _ mZ) (hp.out.below hL0.bl) (hu.out.below hL0.bl))
 have hN0 := cells_of _ 0 [] rfl (h0.below hL0.bl)
 simp only [zF, Nat.reduceAdd] at hN0
 have hN1 := cells_of _ 0 [] rfl (h1.below hL0.bl)
 simp only [zF, Nat.reduceAdd] at hN1
 have hN2 := cells_of _ 0 [] rfl (hL0.get _ _ mZ)
 simp only [zF, Nat.reduceAdd] at hN2
 clear h0 h1 h2
 go_enter Tryz.func59, Tryz.ntmps59
 go_wp2_with (go_at_call 58; with_reducible refine Calls.mono hH1.out ?_; rintro e y2 ⟨v2, rfl, hp2, hb2⟩; replace hb2 := Lib.hid hb2; replace hp2 := Lib.hid hp2)
 go_ret
 exact ⟨_, rfl, hp2.out, hL0.bl.trans (hb2.out.mono hL0.bl.size)⟩
theorem pshift_w (l p um vm r : List TI) (d : Int) (ax bx cx ay b2 cy : Rat) (HN : ∀ (p0 : Value) (w : World), PT w p0 l → Calls Tryz.prog 43 #[p0] w fun e w' => ∃ pv, e = .returned pv ∧ PT w' pv p ∧ Below w.heap.size w w') (HD : ∀ (p0 : Value) (w : World), PT w p0 p → Calls Tryz.prog 57 #[p0] w fun e w' => e = .returned (.int .i64 d) ∧ Below w.heap.size w w') (HU : ∀ (w : World), Calls Tryz.prog 54 #[fracV ax, fracV bx, fracV cx] w fun e w' => ∃ pv, e = .returned pv ∧ PT w' pv um ∧ Below w.heap.size w w') (HV : ∀ (w : World), Calls Tryz.prog 54 #[fracV ay, fracV b2, fracV cy] w fun e w' => ∃ pv, e = .returned pv ∧ PT w' pv vm ∧ Below w.heap.size w w') (HH : ∀ (kd ku kp : Nat) (pv uv vv : Value) (w : World), Hd w kd [.int .i64 d] → Hd w ku [vv] → Hd w kp [pv] → PT w pv p → PT w uv um → PT w vv vm → Calls Tryz.prog 58 #[.int .i64 d, uv, .func (.func 59) #[] #[.pointer (some ⟨kd, 0, none⟩), .pointer (some ⟨ku, 0, none⟩), .pointer (some ⟨kp, 0, none⟩)]] w fun xe w' => ∃ v', xe = .returned v' ∧ PT w' v' r ∧ Below w.heap.size w w') (p0 : Value) (w : World) (r0 : PT w p0 l) :
  Calls Tryz.prog 22 #[p0, fracV ax, fracV bx, fracV cx, fracV ay, fracV b2, fracV cy] w fun e w' => ∃ pv, e = .returned pv ∧ PT w' pv r ∧ Below w.heap.size w w' := by
 obtain ⟨a0, n0, c0, rfl, -⟩ := pt_form r0
 have f0 := Lib.hid r0
 clear r0
 replace HN := Lib.hid HN
 replace HD := Lib.hid HD
 replace HU := Lib.hid HU
 replace HV := Lib.hid HV
 have hL0 : GL w w [] := GL.start w
 have hT : PTs w [] := PTs.nil w
 replace HH := Lib.hid HH
 replace hT := (((((((hT.new (.cells #[.slice a0 n0 c0] 30)).new (.cells #[.int .u64 ((zl ax.num : Nat) : Int), .string (zh ax.num), .bool (zs ax.num), .int .u64 ((lo (fe ax) : Nat) : Int), .string (hs (fe ax))] 38)).new (.cells #[.int .u64 ((zl bx.num : Nat) : Int), .string (zh bx.num), .bool (zs bx.num), .int .u64 ((lo (fe bx) : Nat) : Int), .string (hs (fe bx))] 38)).new (.cells #[.int .u64 ((zl cx.num : Nat) : Int), .string (zh cx.num), .bool (zs cx.num), .int .u64 ((lo (fe cx) : Nat) : Int), .string (hs (fe cx))] 38)).new (.cells #[.int .u64 ((zl ay.num : Nat) : Int), .string (zh ay.num), .bool (zs ay.num), .int .u64 ((lo (fe ay) : Nat) : Int), .string (hs (fe ay))] 38)).new (.cells #[.int .u64 ((zl b2.num : Nat) : Int), .string (zh b2.num), .bool (zs b2.num), .int .u64 ((lo (fe b2) : Nat) : Int), .string (hs (fe b2))] 38)).new (.cells #[.int .u64 ((zl cy.num : Nat) : Int), .string (zh cy.num), .bool (zs cy.num), .int .u64 ((lo (fe cy) : Nat) : Int), .string (hs (fe cy))] 38))
 replace hL0 := (((((((hL0.new rfl [.slice a0 n0 c0] 30).new (K := w.heap.size + 1) (szA _ _) [.int .u64 ((zl ax.num : Nat) : Int), .string (zh ax.num), .bool (zs ax.num), .int .u64 ((lo (fe ax) : Nat) : Int), .string (hs (fe ax))] 38).new (K := w.heap.size + 1 + 1) (by simp only [World.size_alloc]) [.int .u64 ((zl bx.num : Nat) : Int), .string (zh bx.num), .bool (zs bx.num), .int .u64 ((lo (fe bx) : Nat) : Int), .string (hs (fe bx))] 38).new (K := w.heap.size + 1 + 1 + 1) (by simp only [World.size_alloc]) [.int .u64 ((zl cx.num : Nat) : Int), .string (zh cx.num), .bool (zs cx.num), .int .u64 ((lo (fe cx) : Nat) : Int), .string (hs (fe cx))] 38).new (K := w.heap.size + 1 + 1 + 1 + 1) (by simp only [World.size_alloc]) [.int .u64 ((zl ay.num : Nat) : Int), .string (zh ay.num), .bool (zs ay.num), .int .u64 ((lo (fe ay) : Nat) : Int), .string (hs (fe ay))] 38).new (K := w.heap.size + 1 + 1 + 1 + 1 + 1) (by simp only [World.size_alloc]) [.int .u64 ((zl b2.num : Nat) : Int), .string (zh b2.num), .bool (zs b2.num), .int .u64 ((lo (fe b2) : Nat) : Int), .string (hs (fe b2))] 38).new (K := w.heap.size + 1 + 1 + 1 + 1 + 1 + 1) (by simp only [World.size_alloc]) [.int .u64 ((zl cy.num : Nat) : Int), .string (zh cy.num), .bool (zs cy.num), .int .u64 ((lo (fe cy) : Nat) : Int), .string (hs (fe cy))] 38)
 generalize hweq : (((((((w.alloc (.cells #[.slice a0 n0 c0] 30)).alloc (.cells #[.int .u64 ((zl ax.num : Nat) : Int), .string (zh ax.num), .bool (zs ax.num), .int .u64 ((lo (fe ax) : Nat) : Int), .string (hs (fe ax))] 38)).alloc (.cells #[.int .u64 ((zl bx.num : Nat) : Int), .string (zh bx.num), .bool (zs bx.num), .int .u64 ((lo (fe bx) : Nat) : Int), .string (hs (fe bx))] 38)).alloc (.cells #[.int .u64 ((zl cx.num : Nat) : Int), .string (zh cx.num), .bool (zs cx.num), .int .u64 ((lo (fe cx) : Nat) : Int), .string (hs (fe cx))] 38)).alloc (.cells #[.int .u64 ((zl ay.num : Nat) : Int), .string (zh ay.num), .bool (zs ay.num), .int .u64 ((lo (fe ay) : Nat) : Int), .string (hs (fe ay))] 38)).alloc (.cells #[.int .u64 ((zl b2.num : Nat) : Int), .string (zh b2.num), .bool (zs b2.num), .int .u64 ((lo (fe b2) : Nat) : Int), .string (hs (fe b2))] 38)).alloc (.cells #[.int .u64 ((zl cy.num : Nat) : Int), .string (zh cy.num), .bool (zs cy.num), .int .u64 ((lo (fe cy) : Nat) : Int), .string (hs (fe cy))] 38)) = x1 at hL0 hT
 go_enter Tryz.func22, Tryz.ntmps22
 have hN0 := cells_of _ 0 [] rfl (hL0.get _ _ (mK (mK (mK (mK (mK (mK mZ)))))))
 simp only [zF, Nat.reduceAdd] at hN0
 go_wp2_with fail
 clear hN0
 with_reducible refine Calls.mono (HN.out (.slice a0 n0 c0) _ (PT.below f0.out hL0.bl)) ?_
 rintro e x2 ⟨v0, rfl, q0, hb⟩
 replace hL0 := hL0.call hb
 replace hT := hT.call hb
 clear hb hweq
 obtain ⟨g1, d1, g1c, rfl, -⟩ := pt_form q0
 replace hT := hT.cons q0
 clear q0
 have hT1 := hT.put ((Upd.refl w.heap.size x2).setCell 0 (.slice g1 d1 g1c)) (hL0.get _ _ (mK (mK (mK (mK (mK (mK mZ))))))) (by intro v hv n; simp only [List.mem_cons, List.not_mem_nil, or_false] at hv; rcases hv with rfl <;> simp)
 have hA := hL0.fc
 simp only [zF, Nat.reduceAdd] at hA
 have hP := hL0.put 6 (w.heap.size) _ rfl [.slice g1 d1 g1c] rfl
 simp only [setAll, List.set_cons_zero, List.set_cons_succ] at hP
 generalize hput1 : (x2.setCell ⟨w.heap.size, 0, none⟩ (.slice g1 d1 g1c)) = x3 at hP hT1
 have hB1 := hP.fc
 simp only [zF, Nat.reduceAdd] at hB1
 replace hL0 := hP
 replace hT := hT1
 clear hT1
 go_wp2_with fail
 clear hA
 with_reducible refine Calls.mono (HD.out (.slice g1 d1 g1c) _ (hT.get mZ)) ?_
 rintro e x4 ⟨rfl, hb⟩
 replace hL0 := hL0.call hb
 replace hT := hT.call hb
 clear hb hput1 hB1
 replace hT := (hT.new (.cells #[.int .i64 d] 3))
 replace hL0 := (hL0.new rfl [.int .i64 d] 3)
 generalize hweq : (x4.alloc (.cells #[.int .i64 d] 3)) = x5 at hL0 hT
 go_upto_region 3 with fail
 clear hweq
 refine region_tal 10 [EV (.agg #[.int .u64 ((zl ax.num : Nat) : Int), .string (zh ax.num), .bool (zs ax.num), .int .u64 ((lo (fe ax) : Nat) : Int), .string (hs (fe ax))]), EV (.agg #[.int .u64 ((zl bx.num : Nat) : Int), .string (zh bx.num), .bool (zs bx.num), .int .u64 ((lo (fe bx) : Nat) : Int), .string (hs (fe bx))]), EV (.agg #[.int .u64 ((zl cx.num : Nat) : Int), .string (zh cx.num), .bool (zs cx.num), .int .u64 ((lo (fe cx) : Nat) : Int), .string (hs (fe cx))]), PP um, EV (.agg #[.int .u64 ((zl ay.num : Nat) : Int), .string (zh ay.num), .bool (zs ay.num), .int .u64 ((lo (fe ay) : Nat) : Int), .string (hs (fe ay))]), EV (.agg #[.int .u64 ((zl b2.num : Nat) : Int), .string (zh b2.num), .bool (zs b2.num), .int .u64 ((lo (fe b2) : Nat) : Int), .string (hs (fe b2))]), EV (.agg #[.int .u64 ((zl cy.num : Nat) : Int), .string (zh cy.num), .bool (zs cy.num), .int .u64 ((lo (fe cy) : Nat) : Int), .string (hs (fe cy))]), PP vm, NewB x5.heap.size [.slice none 0 0], PP um] [8] (by kernel_rfl) (by kernel_rfl) ?_ ?_ ?_ ?_ ?_
 ·repeat' first | exact stays_nil | apply stays_cons | exact stays_eq _ | exact stays_new _ _ | exact stays_pt _
 ·simp only [List.take_succ_cons, List.take_zero, hopsR, and_true]
  refine ⟨?_, ?_, ?_, ?_, ?_, ?_, ?_, ?_, ?_, ?_⟩ <;> intro fv w1 hb1 hp
  all_goals (have hc := (hL0.call (below_drew hb1)).fc; simp only [zF, Nat.reduceAdd] at hc; simp only [putsV, Act.put, zP, Nat.zero_add, Nat.reduceAdd])
  ·refine tyAt_none rfl ?_
   simp [tyUpon, execOp, go_sem, Act.eval, hc, Below.refl]
  ·refine tyAt_none rfl ?_
   simp [tyUpon, execOp, go_sem, Act.eval, hc, Below.refl]
  ·refine tyAt_none rfl ?_
   simp [tyUpon, execOp, go_sem, Act.eval, hc, Below.refl]
  ·have h0 : EV _ (fv 0) w1 := hp 0 (LC (by kernel_rfl))
   have h1 : EV _ (fv 1) w1 := hp 1 (LC (by kernel_rfl))
   have h2 : EV _ (fv 2) w1 := hp 2 (LC (by kernel_rfl))
   refine tyAt_none rfl ?_
   refine ty_call (f := 54) (args := #[.agg #[.int .u64 ((zl ax.num : Nat) : Int), .string (zh ax.num), .bool (zs ax.num), .int .u64 ((lo (fe ax) : Nat) : Int), .string (hs (fe ax))], .agg #[.int .u64 ((zl bx.num : Nat) : Int), .string (zh bx.num), .bool (zs bx.num), .int .u64 ((lo (fe bx) : Nat) : Int), .string (hs (fe bx))], .agg #[.int .u64 ((zl cx.num : Nat) : Int), .string (zh cx.num), .bool (zs cx.num), .int .u64 ((lo (fe cx) : Nat) : Int), .string (hs (fe cx))]]) (by simp [execOp, go_sem, Act.eval, h0, h1, h2]) ?_
   exact (HU.out w1).mono fun e w2 ⟨pv, h1, h2, h3⟩ => ⟨pv, h1, h2, h3⟩
  ·refine tyAt_none rfl ?_
   simp [tyUpon, execOp, go_sem, Act.eval, hc, Below.refl]
  ·refine tyAt_none rfl ?_
   simp [tyUpon, execOp, go_sem, Act.eval, hc, Below.refl]
  ·refine tyAt_none rfl ?_
   simp [tyUpon, execOp, go_sem, Act.eval, hc, Below.refl]
  ·have h4 : EV _ (fv 4) w1 := hp 4 (LC (by kernel_rfl))
   have h5 : EV _ (fv 5) w1 := hp 5 (LC (by kernel_rfl))
   have h6 : EV _ (fv 6) w1 := hp 6 (LC (by kernel_rfl))
   refine tyAt_none rfl ?_
   refine ty_call (f := 54) (args := #[.agg #[.int .u64 ((zl ay.num : Nat) : Int), .string (zh ay.num), .bool (zs ay.num), .int .u64 ((lo (fe ay) : Nat) : Int), .string (hs (fe ay))], .agg #[.int .u64 ((zl b2.num : Nat) : Int), .string (zh b2.num), .bool (zs b2.num), .int .u64 ((lo (fe b2) : Nat) : Int), .string (hs (fe b2))], .agg #[.int .u64 ((zl cy.num : Nat) : Int), .string (zh cy.num), .bool (zs cy.num), .int .u64 ((lo (fe cy) : Nat) : Int), .string (hs (fe cy))]]) (by simp [execOp, go_sem, Act.eval, h4, h5, h6]) ?_
   exact (HV.out w1).mono fun e w2 ⟨pv, h1, h2, h3⟩ => ⟨pv, h1, h2, h3⟩
  ·exact tyAt_new rfl rfl new_pol (below_drew hb1).size
  ·have h3 : (PP um) (fv 3) w1 := hp 3 (LC (by kernel_rfl))
   refine tyAt_none rfl ?_
   simp [tyUpon, execOp, go_sem, Act.eval, Below.refl]
   exact h3
 ·intro j hj u w2 hT
  simp only [List.contains_iff_mem, List.mem_cons, List.not_mem_nil, or_false] at hj
  rcases hj with rfl <;> exact NewB.ptr hT
 ·exact ⟨⟨_, _, _, _, rfl, rfl, rfl, new_pol⟩, trivial⟩
 ·intro fv x6 hb1 hv hne
  have e0 : fv 0 = _ := hv 0 (by omega)
  have e1 : fv 1 = _ := hv 1 (by omega)
  have e2 : fv 2 = _ := hv 2 (by omega)
  have q3 : PT x6 (fv 3) um := hv 3 (by omega)
  obtain ⟨g2, d2, g2c, e3, -⟩ := pt_form q3
  rw [e3] at q3
  have e4 : fv 4 = _ := hv 4 (by omega)
  have e5 : fv 5 = _ := hv 5 (by omega)
  have e6 : fv 6 = _ := hv 6 (by omega)
  have q7 : PT x6 (fv 7) vm := hv 7 (by omega)
  obtain ⟨g3, d3, g3c, e7, -⟩ := pt_form q7
  rw [e7] at q7
  obtain ⟨kb8, e8, n8, m8⟩ : NewB x5.heap.size [.slice none 0 0] (fv 8) x6 := hv 8 (by omega)
  have q9 : PT x6 (fv 9) um := hv 9 (by omega)
  obtain ⟨g4, d4, g4c, e9, -⟩ := pt_form q9
  rw [e9] at q9
  simp only [List.take_succ_cons, List.take_zero, putsV, Act.put, zP, List.drop_succ_cons, List.drop_zero, Nat.zero_add, Nat.reduceAdd, e0, e1, e2, e3, e4, e5, e6, e7, e8, e9]
  have hx0 := hL0
  replace hL0 := hL0.call (below_drew hb1)
  replace hT := hT.call (below_drew hb1)
  replace hL0 := GL.tnew (M := []) hL0 hx0 n8 m8 (fun p hp => by cases hp)
  simp only [List.cons_append, List.nil_append] at hL0
  replace hT := hT.cons q3
  replace hT := hT.cons q7
  replace hT := hT.cons q9
  clear e0 e1 e2 e3 e4 e5 e6 e7 e8 e9 hb1 hv hne hx0 n8 m8 q3 q7 q9 fv
  have hT1 := hT.put ((Upd.refl kb8 x6).setCell 0 (.slice g3 d3 g3c)) (hL0.get _ _ mZ) (by intro v hv n; simp only [List.mem_cons, List.not_mem_nil, or_false] at hv; rcases hv with rfl <;> simp)
  have hA := hL0.fc
  simp only [zF, Nat.reduceAdd] at hA
  have hP := hL0.put 0 (kb8) _ rfl [.slice g3 d3 g3c] rfl
  simp only [setAll, List.set_cons_zero, List.set_cons_succ] at hP
  generalize hput2 : (x6.setCell ⟨kb8, 0, none⟩ (.slice g3 d3 g3c)) = x7 at hP hT1
  have hB2 := hP.fc
  simp only [zF, Nat.reduceAdd] at hB2
  replace hL0 := hP
  replace hT := hT1
  clear hT1
  have q15 := hL0.get _ _ (mK mZ)
  have q17 := hL0.get _ _ mZ
  have q7 := hL0.get _ _ (mK (mK (mK (mK (mK (mK (mK (mK mZ))))))))
  have hH1 := Lib.hid (HH.out (x4.heap.size) (kb8) (w.heap.size) _ _ _ x7 q15 q17 q7 (hT.get (mK (mK (mK mZ)))) (hT.get mZ) (hT.get (mK mZ)))
  have hN0 := cells_of _ 0 [] rfl q15
  simp only [zF, Nat.reduceAdd] at hN0
  clear q15 q17 q7
  go_wp2_with (go_at_call 58; with_reducible refine Calls.mono hH1.out ?_; rintro e y9 ⟨v9, rfl, hp9, hb9⟩; replace hb9 := Lib.hid hb9; replace hp9 := Lib.hid hp9)
  go_ret
  exact ⟨_, rfl, hp9.out, hL0.bl.trans (hb9.out.mono hL0.bl.size)⟩
end Go.Proofs.YtkdbhacimoaohaaGreatDoor
namespace Go.Proofs.YtkdbhacimoaohaaGreatDoor
open Go.RowKit
attribute [local irreducible] lo hs sm s64 c64 d64 b64 mh ml pd pc qd qc val hiB str cmpI srD lz nb zl zh zs fe klT ordZ
theorem infoF8 : (Tryz.prog.info? 38).map (fun i => (i.zero, i.size, i.bytes)) = some (some (.agg #[.int .u64 0, .string ⟨#[]⟩, .bool false, .int .u64 0, .string ⟨#[]⟩]), 5, 56) := by kernel_rfl
abbrev OwnF (w : World) (B : Nat) (v : Value) (n : Nat) (l : List Rat) : Prop := w.ownsRow B 38 5 v n (frCs l)
theorem wp_appendF {w : World} {ops : Array Oper} {rest : List Oper} {o : Oper} {a : Act} {Q : Exit → Act → World → Prop} (hgd : o.guard = none) (s x : Operand)
  (ho : o.op = .call { callee := .builtin .append, args := #[s, x], argTypes := #[84, 84] }) (B : Nat) (v : Value) (n : Nat) (L : List Rat) (hs : a.eval s = v) (hown : OwnF w B v n L) (g : Nat) (t : Rat) (hx : a.eval x = .slice (some ⟨g, 0, none⟩) 1 1) (hH : Hd w g (frC t))
  (hn : n ≤ 100000) (hbase : B ≤ w.heap.size)
  (h : ∀ v' w', OwnF w' B v' (n + 1) (L ++ [t]) → w.grownBy w' v.ownBlock → wpList Tryz.prog ops Q rest (a.put o.dst v') w') : wpList Tryz.prog ops Q (o :: rest) a w := by
 obtain ⟨i0, hi, hz1, hz2, hz3⟩ := info_parts infoF8
 refine wpList_append_own w hgd s x 84 ho B 38 i0 (.agg #[.int .u64 0, .string ⟨#[]⟩, .bool false, .int .u64 0, .string ⟨#[]⟩]) 5 56 Tryz.underlying84 hi hz1 hz2 hz3 rfl (by decide) v n (frCs L) hs hown ⟨g, 0, none⟩ 1 1 (frC t) hx rfl (hd_newsH hH) (frC_one t) (by unfold maxLen; omega) (by omega) hbase ?_
 intro v' w' h1 h2 _
 refine h v' w' ?_ h2
 unfold OwnF
 rw [frCs_snoc]; exact h1
end Go.Proofs.YtkdbhacimoaohaaGreatDoor
namespace Go.Proofs.YtkdbhacimoaohaaGreatDoor
open Go.RowKit
attribute [local irreducible] lo hs sm s64 c64 d64 b64 mh ml pd pc qd qc val hiB str cmpI srD lz nb zl zh zs fe klT ordZ
abbrev PV8 (l : List Rat) : Value → World → Prop := fun v w => SlQ w v l
theorem stays_slq8 (l : List Rat) : Stays (PV8 l) := fun _ _ _ hb h => h.below hb
theorem slq_form8 {w : World} {v : Value} {l : List Rat} (h : SlQ w v l) : ∃ ao n c, v = .slice ao n c := by
 rcases h with ⟨ao, c, e, _⟩ | ⟨g, c, e, _⟩
 ·exact ⟨_, _, _, e⟩
 ·exact ⟨_, _, _, e⟩
end Go.Proofs.YtkdbhacimoaohaaGreatDoor
namespace Go.Proofs.YtkdbhacimoaohaaGreatDoor
open Go.RowKit
attribute [local irreducible] lo hs sm s64 c64 d64 b64 mh ml pd pc qd qc val hiB str cmpI srD lz nb zl zh zs fe klT ordZ
/-- The builder at b holds l. -/
def Bd8 (B b : Nat) (l : List UInt8) (w : World) : Prop := Lib.IsBuilderF 162 5 B b (Lib.byteCells l) w
theorem Bd8.below {B b : Nat} {l : List UInt8} {w w' : World} (h : Bd8 B b l w) (hb : Below w.heap.size w w') : Bd8 B b l w' := bf_below h hb
end Go.Proofs.YtkdbhacimoaohaaGreatDoor
namespace Go.Proofs.YtkdbhacimoaohaaGreatDoor
open Go.RowKit
attribute [local irreducible] lo hs sm s64 c64 d64 b64 mh ml pd pc qd qc val hiB str cmpI srD lz nb zl zh zs fe klT ordZ
def conN (c : Rat) : TL := nfL [(0, 0, c)]
theorem lin_con (c : Rat) : linN 0 0 c = conN c := nf_uniq (nfL_nf _) (nfL_nf _) ((nfL_eqv _).trans (Eqv.trans (fun F => by
 show pair [(1, 0, 0), (0, 1, 0), (0, 0, c)] F = pair [(0, 0, c)] F
 simp only [pair, Rat.zero_mul, Rat.zero_add]) (nfL_eqv _).symm))
theorem GP.con {c : Rat} {k : Nat} (h : Sz c k) : GP (conN c) 0 k := ⟨nfL_nf _, tb_nfL (fun t ht => by rw [List.mem_singleton.1 ht]; exact Nat.le_refl _), (SzL.one h).nf⟩
theorem sz_i8 {i : Int} (h0 : -1000 ≤ i) (h1 : i ≤ 1000) : Sz (i : Rat) 1 := Sz.int (by
 unfold dI
 exact digs_length_iff.2 (by unfold Bs; omega)) (by omega)
theorem sz_0 {k : Nat} (h : 0 < k) : Sz (0 : Rat) k := (sz_i8 (i := 0) (by omega) (by omega)).mono h
theorem int0 (w : World) : Calls Tryz.prog 20 #[.int .i64 0] w fun xe w' => xe = .returned (fracV (0 : Rat)) ∧ Below w.heap.size w w' := intF 0 (by decide) (by decide) w
theorem int1 (w : World) : Calls Tryz.prog 20 #[.int .i64 1] w fun xe w' => xe = .returned (fracV (1 : Rat)) ∧ Below w.heap.size w w' := intF 1 (by decide) (by decide) w
theorem conG {c : Rat} {k : Nat} (hc : Sz c k) (h0 : 0 < k) (hk : k ≤ 30000) (w : World) : Calls Tryz.prog 19 #[fracV c] w fun xe w' => ∃ v', xe = .returned v' ∧ PT w' v' (ofL (conN c)) ∧ Below w.heap.size w w' := by
 refine pconst_w 0 c (ofL (conN c)) int0 (fun w => ?_) w
 have := linG (sz_0 h0) (sz_0 h0) hc hk w
 rwa [lin_con] at this
theorem xG (w : World) : Calls Tryz.prog 30 #[] w fun xe w' => ∃ v', xe = .returned v' ∧ PT w' v' (ofL (linN 1 0 0)) ∧ Below w.heap.size w w' :=
 px_w 0 1 (ofL (linN 1 0 0)) int0 int1 (fun w => linG (k := 1) (sz_i8 (i := 1) (by omega) (by omega)) (sz_0 (by omega)) (sz_0 (by omega)) (by omega) w) w
theorem yG (w : World) : Calls Tryz.prog 31 #[] w fun xe w' => ∃ v', xe = .returned v' ∧ PT w' v' (ofL (linN 0 1 0)) ∧ Below w.heap.size w w' :=
 py_w 0 1 (ofL (linN 0 1 0)) int0 int1 (fun w => linG (k := 1) (sz_0 (by omega)) (sz_i8 (i := 1) (by omega) (by omega)) (sz_0 (by omega)) (by omega) w) w
section
variable {p q : TL} {d K e M : Nat}
theorem coef_sz (h : GP p d K) (h0 : 0 < K) (i j : Int) : Sz (coefZ p i j) K := by
 unfold coefZ
 split
 ·exact sz_0 h0
 ·next t ht => exact h.sz.mem (List.mem_of_find?_eq_some ht)
/-- Horner's scheme with k of D coefficients. -/
def hornN (D : Nat) (u : TL) (co : Nat → TL) : Nat → TL
 | 0 => []
 | k + 1 => addN (mulN (hornN D u co k) u) (co (D - 1 - k))
theorem GP.horn {D U C : Nat} {u : TL} {co : Nat → TL} (hu : GP u 1 U) (hc : ∀ i, i < D → GP (co (D - 1 - i)) (i + 1) C) : ∀ k, k ≤ D → GP (hornN D u co k) k (k * (U + C + 1) + 1)
 | 0, _ => GP.nil.mono (by omega) (by omega)
 | k + 1, hk => (((GP.horn hu hc k (by omega)).mul hu).add (hc k (by omega))).mono (by omega) (by rw [Nat.succ_mul]; omega)
def topD (p : TL) : Nat := (degI p + 1).toNat
theorem topD_eq (p : TL) : degI p = (topD p : Int) - 1 := by
 have := degI_ge p
 unfold topD
 omega
theorem topD_le (h : TB p d) : topD p ≤ d + 1 := by
 have := degI_le h
 unfold topD
 omega
def shiftN (p u v : TL) : TL := hornN (topD p) u (fun i => hornN (topD p - i) v (fun j => conN (coefZ p (i : Int) (j : Int))) (topD p - i)) (topD p)
theorem hornInG (h : GP p d K) (h0 : 0 < K) (hd : d ≤ 11) (hK : K ≤ 3000) {u : TL} {U : Nat} (hu : GP u 1 U) (hU : U ≤ 3000) (i : Nat) (hi : i < topD p) (d0 : Int) (hd0 : d0 = ((topD p - i : Nat) : Int) - 1) (pv : Value) (kp ki : Nat) (uv : Value) (w : World)
  (h1 : Hd w kp [pv]) (h2 : Hd w ki [.int .i64 (i : Int)]) (hp : PT w pv (ofL p)) (hv : PT w uv (ofL u)) :
  Calls Tryz.prog 58 #[.int .i64 d0, uv, .func (.func 60) #[] #[.pointer (some ⟨kp, 0, none⟩), .pointer (some ⟨ki, 0, none⟩)]] w fun xe w' => ∃ v', xe = .returned v' ∧ PT w' v' (ofL (hornN (topD p - i) u (fun j => conN (coefZ p (i : Int) (j : Int))) (topD p - i))) ∧ Below w.heap.size w w' := by
 obtain ⟨ao, m, c, rfl, -⟩ := pt_form hv
 have ht := topD_le h.tb
 generalize hD : topD p - i = D at *
 have hco : ∀ k, k < D → GP (conN (coefZ p (i : Int) ((D - 1 - k : Nat) : Int))) (k + 1) K := fun k _ => (GP.con (coef_sz h h0 _ _)).mono (by omega) (by omega)
 have hg := GP.horn (co := fun j => conN (coefZ p (i : Int) (j : Int))) hu hco
 refine phorn2_w 60 kp ki D d0 (ofL u) (fun k => ofL (mulN (hornN D u (fun j => conN (coefZ p (i : Int) (j : Int))) k) u)) (fun k => ofL (hornN D u (fun j => conN (coefZ p (i : Int) (j : Int))) k)) (fun k => ofL (conN (coefZ p (i : Int) ((D - 1 - k : Nat) : Int)))) ao m c (by omega) hd0 rfl (fun w => Hd w kp [pv] ∧ Hd w ki [.int .i64 (i : Int)] ∧ PT w pv (ofL p)) (fun _ _ hb ⟨a, b, c⟩ => ⟨a.below hb, b.below hb, c.below hb⟩) (enters_of Tryz.func60 (by kernel_rfl) rfl) (fun k hk v w hv hq => ?_) (fun k hk e w he hw => ?_) (fun k hk v u' w hv hu' => ?_) w hv ⟨h1, h2, hp⟩
 ·have hs : k * (U + K + 1) ≤ 13 * 6001 := Nat.mul_le_mul (by omega) (by omega)
  exact prodG (hg k (by omega)) hu (by omega) (by omega) w v _ hv hq
 ·have he2 : e = ((D - 1 - k : Nat) : Int) := by omega
  rw [he2]
  exact pshift11_w (ofL p) _ _ _ (coefZ p (i : Int) ((D - 1 - k : Nat) : Int)) pv kp ki (fun w hp => coefG h (by omega) (by omega) _ _ w _ hp) (fun w => conG (coef_sz h h0 _ _) h0 (by omega) w) w hw.1 hw.2.1 hw.2.2
 ·have hs : k * (U + K + 1) ≤ 13 * 6001 := Nat.mul_le_mul (by omega) (by omega)
  exact addG ((hg k (by omega)).mul hu) (hco k hk) (by omega) (by omega) (by omega) w v u' hv hu'
theorem shiftGB (D : Nat) {ax bx cx ay b2 cy : Rat} {k : Nat} (h : GP p d K) (h0 : 0 < K) (hd : d ≤ 11) (hK : K ≤ 3000) (hD : d + 1 ≤ D) (hS : D * (3 * k + 2 + (D * (3 * k + 2 + K + 1) + 1) + 1) ≤ 90000) (hS2 : D * (3 * k + 2 + K + 1) ≤ 9000) (s1 : Sz ax k) (s2 : Sz bx k) (s3 : Sz cx k) (s4 : Sz ay k) (s5 : Sz b2 k) (s6 : Sz cy k) (hk : k ≤ 20) (w : World) (v : Value) (hv : PT w v (ofL p)) :
  Calls Tryz.prog 22 #[v, fracV ax, fracV bx, fracV cx, fracV ay, fracV b2, fracV cy] w fun xe w' => ∃ v', xe = .returned v' ∧ PT w' v' (ofL (shiftN p (linN ax bx cx) (linN ay b2 cy))) ∧ Below w.heap.size w w' := by
 have hu := GP.lin s1 s2 s3
 have hw' := GP.lin s4 s5 s6
 have ht := topD_le h.tb
 have hin : ∀ i, i < topD p → GP (hornN (topD p - i) (linN ay b2 cy) (fun j => conN (coefZ p (i : Int) (j : Int))) (topD p - i)) (topD p - i) (D * (3 * k + 2 + K + 1) + 1) := fun i hi =>
  (GP.horn (C := K) (D := topD p - i) (co := fun j => conN (coefZ p (i : Int) (j : Int))) hw' (fun k _ => (GP.con (coef_sz h h0 _ _)).mono (by omega) (by omega)) (topD p - i) (Nat.le_refl _)).mono (Nat.le_refl _) (by have := Nat.mul_le_mul_right (3 * k + 2 + K + 1) (show topD p - i ≤ D by omega); omega)
 have hin2 : ∀ i, i < topD p → GP ((fun i => hornN (topD p - i) (linN ay b2 cy) (fun j => conN (coefZ p (i : Int) (j : Int))) (topD p - i)) (topD p - 1 - i)) (i + 1) (D * (3 * k + 2 + K + 1) + 1) := fun i hi => (hin (topD p - 1 - i) (by omega)).mono (by omega) (Nat.le_refl _)
 have hg := GP.horn (D := topD p) (co := fun i => hornN (topD p - i) (linN ay b2 cy) (fun j => conN (coefZ p (i : Int) (j : Int))) (topD p - i)) hu hin2
 refine pshift_w (ofL p) (ofL p) (ofL (linN ax bx cx)) (ofL (linN ay b2 cy)) _ (degI p) ax bx cx ay b2 cy (fun v w hv => normG h (by omega) (by omega) w v hv) (fun v w hv => degG h (by omega) (by omega) w v hv) (fun w => linG s1 s2 s3 (by omega) w) (fun w => linG s4 s5 s6 (by omega) w) (fun kd ku kp pv uv vv w h1 h2 h3 hp hu1 hv1 => ?_) v w hv
 obtain ⟨ao, m, c, rfl, -⟩ := pt_form hu1
 refine phorn3_w 59 kd ku kp (topD p) (degI p) (ofL (linN ax bx cx)) (fun n => ofL (mulN (hornN (topD p) (linN ax bx cx) (fun i => hornN (topD p - i) (linN ay b2 cy) (fun j => conN (coefZ p (i : Int) (j : Int))) (topD p - i)) n) (linN ax bx cx))) (fun n => ofL (hornN (topD p) (linN ax bx cx) (fun i => hornN (topD p - i) (linN ay b2 cy) (fun j => conN (coefZ p (i : Int) (j : Int))) (topD p - i)) n)) (fun n => ofL ((fun i => hornN (topD p - i) (linN ay b2 cy) (fun j => conN (coefZ p (i : Int) (j : Int))) (topD p - i)) (topD p - 1 - n))) ao m c (by omega) (topD_eq p) rfl (fun w => Hd w kd [.int .i64 (degI p)] ∧ Hd w ku [vv] ∧ Hd w kp [pv] ∧ PT w pv (ofL p) ∧ PT w vv (ofL (linN ay b2 cy))) (fun _ _ hb ⟨a, b, c, d, e⟩ => ⟨a.below hb, b.below hb, c.below hb, d.below hb, e.below hb⟩) (enters_of Tryz.func59 (by kernel_rfl) rfl) (fun n hn v w hv hq => ?_) (fun n hn e w he hw => ?_) (fun n hn v u' w hv hu' => ?_) w hu1 ⟨h1, h2, h3, hp, hv1⟩
 ·have hs := Nat.mul_le_mul_right (3 * k + 2 + (D * (3 * k + 2 + K + 1) + 1) + 1) (show n ≤ D by omega)
  exact prodG (hg n (by omega)) hu (by omega) (by omega) w v _ hv hq
 ·have he2 : e = ((topD p - 1 - n : Nat) : Int) := by have := topD_eq p; omega
  rw [he2]
  obtain ⟨e0, he0⟩ : ∃ e0, e0 = degI p - ((topD p - 1 - n : Nat) : Int) := ⟨_, rfl⟩
  have hteq := topD_eq p
  refine pshift1_w (ofL p) (ofL (linN ay b2 cy)) _ _ (degI p) e0 pv vv kd ku kp (by rw [← he0]; simp [IntKind.wrap, IntKind.bits, IntKind.signed]; omega) (by rw [← he0]; simp [wrap64]; omega) (fun ki w h1 h2 h3 h4 => ?_) w hw.1 hw.2.1 hw.2.2.1 hw.2.2.2.1 hw.2.2.2.2
  exact hornInG h h0 hd (by omega) hw' (by omega) (topD p - 1 - n) (by omega) e0 (by omega) pv kp ki vv w h1 h2 h3 h4
 ·have hs := Nat.mul_le_mul_right (3 * k + 2 + (D * (3 * k + 2 + K + 1) + 1) + 1) (show n ≤ D by omega)
  exact addG ((hg n (by omega)).mul hu) (hin2 n hn) (by omega) (by omega) (by omega) w v u' hv hu'
end
end Go.Proofs.YtkdbhacimoaohaaGreatDoor
namespace Go.Proofs.YtkdbhacimoaohaaGreatDoor
open Go.RowKit
attribute [local irreducible] lo hs sm s64 c64 d64 b64 mh ml pd pc qd qc val hiB str cmpI srD lz nb zl zh zs fe klT ordZ
theorem degI_last {p : TL} (h0 : p ≠ []) : degI p = (((p.getLast h0).1 : Nat) : Int) + (((p.getLast h0).2.1 : Nat) : Int) := by
 unfold degI
 rw [List.getLast?_eq_some_getLast h0]
theorem degI_top {p : TL} (hp : NF p) : ∀ t ∈ p, ((t.1 : Nat) : Int) + ((t.2.1 : Nat) : Int) ≤ degI p := by
 intro t ht
 have h0 : p ≠ [] := List.ne_nil_of_mem ht
 have := (nf_top hp h0).2 t ht
 rw [degI_last h0]
 rcases Nat.lt_or_ge ((p.getLast h0).1 + (p.getLast h0).2.1) (t.1 + t.2.1) with h | h
 ·exact absurd (Or.inl h) this
 ·omega
theorem qsum_fold (l : List Rat) : ∀ s : Rat, l.foldl (· + ·) s = s + qsum l := by
 induction l with
 | nil => intro s; exact (Rat.add_zero s).symm
 | cons a l ih =>
  intro s
  simp only [List.foldl_cons, qsum] at ih ⊢
  rw [ih (s + a), ih (0 + a), Rat.zero_add, Rat.add_assoc]
section
variable {p : TL} {d K : Nat}
end
end Go.Proofs.YtkdbhacimoaohaaGreatDoor
namespace Go.Proofs.YtkdbhacimoaohaaGreatDoor
open Go.RowKit
attribute [local irreducible] lo hs sm s64 c64 d64 b64 mh ml pd pc qd qc val hiB str cmpI srD lz nb zl zh zs fe klT ordZ
theorem nrm_gp {l : List TI} {d K : Nat} (h : ∀ t ∈ l, 0 ≤ t.1 ∧ 0 ≤ t.2.1 ∧ t.1 + t.2.1 ≤ (d : Int)) (hd : d ≤ 12) (hs : SzL (toL l) K) : GP (nrm l) d K := by
 have hv : VdL l := fun t ht => by
  obtain ⟨a, b, c⟩ := h t ht
  exact ⟨a, b, by omega⟩
 unfold nrm
 rw [if_pos hv]
 refine ⟨nfL_nf _, tb_nfL (fun t ht => ?_), hs.nf⟩
 obtain ⟨u, hu, rfl⟩ := List.mem_map.1 ht
 have := h u hu
 simp [toT]; omega
theorem GP.shift {p u v : TL} {d K U : Nat} (h : GP p d K) (h0 : 0 < K) (hu : GP u 1 U) (hv : GP v 1 U) (hd : d ≤ 12) (D : Nat) (hD : d + 1 ≤ D) : GP (shiftN p u v) (d + 1) (D * (U + (D * (U + K + 1) + 1) + 1) + 1) := by
 have ht := topD_le h.tb
 have hin : ∀ i, i < topD p → GP (hornN (topD p - i) v (fun j => conN (coefZ p (i : Int) (j : Int))) (topD p - i)) (topD p - i) (D * (U + K + 1) + 1) := fun i hi =>
  (GP.horn (C := K) (D := topD p - i) (co := fun j => conN (coefZ p (i : Int) (j : Int))) hv (fun k _ => (GP.con (coef_sz h h0 _ _)).mono (by omega) (by omega)) (topD p - i) (Nat.le_refl _)).mono (Nat.le_refl _) (Nat.succ_le_succ (Nat.mul_le_mul_right (U + K + 1) (show topD p - i ≤ D by omega)))
 have hin2 : ∀ i, i < topD p → GP ((fun i => hornN (topD p - i) v (fun j => conN (coefZ p (i : Int) (j : Int))) (topD p - i)) (topD p - 1 - i)) (i + 1) (D * (U + K + 1) + 1) := fun i hi => (hin (topD p - 1 - i) (by omega)).mono (by omega) (Nat.le_refl _)
 exact (GP.horn (D := topD p) (co := fun i => hornN (topD p - i) v (fun j => conN (coefZ p (i : Int) (j : Int))) (topD p - i)) hu hin2 (topD p) (Nat.le_refl _)).mono (by omega) (Nat.succ_le_succ (Nat.mul_le_mul_right (U + (D * (U + K + 1) + 1) + 1) (show topD p ≤ D by omega)))
theorem sz1 : Sz (1 : Rat) 1 := sz_i8 (i := 1) (by omega) (by omega)
theorem sz0 : Sz (0 : Rat) 1 := sz_i8 (i := 0) (by omega) (by omega)
theorem gx8 : GP (linN 1 0 0) 1 5 := GP.lin sz1 sz0 sz0
theorem gy8 : GP (linN 0 1 0) 1 5 := GP.lin sz0 sz1 sz0
end Go.Proofs.YtkdbhacimoaohaaGreatDoor
namespace Go.Proofs.YtkdbhacimoaohaaGreatDoor
open Go.RowKit
attribute [local irreducible] lo hs sm s64 c64 d64 b64 mh ml pd pc qd qc val hiB str cmpI srD lz nb zl zh zs
theorem qof_zero (n x c : Int) (f : Nat) (HF : RT 67 #[.int .i64 n, .int .i64 1] (.tuple #[frV x f, .int .i64 c])) (hmx : max (0 : Int) 1 = 1) (w : World) :
  Calls Tryz.prog 25 #[.agg #[.int .i64 n, .int .u32 0]] w fun xe w' => xe = .returned (frV x f) ∧ Below w.heap.size w w' := by
 have hL0 : GL w w [] := GL.start w
 replace HF := Lib.hid HF
 obtain ⟨x1, hweq, hL0⟩ := GL.named ((hL0.new rfl [.int .i64 n, .int .u32 0] 25).new (K := w.heap.size + 1) (szA _ _) [.int .u64 0, .string ⟨#[]⟩, .bool false, .int .u64 0, .string ⟨#[]⟩] 38)
 go_enter Tryz.func25, Tryz.ntmps25
 have hN0 := cells_of _ 0 [] rfl (hL0.get _ _ (mK mZ))
 simp only [zF, Nat.reduceAdd] at hN0
 go_wp2_with fail
 clear hN0
 with_reducible refine Calls.mono (HF.out _) ?_
 rintro e x2 ⟨rfl, hb⟩
 replace hL0 := hL0.call hb
 clear hb hweq
 obtain ⟨x3, hweq, hL0⟩ := GL.named (hL0.new rfl [.int .u64 ((zl x : Nat) : Int), .string (zh x), .bool (zs x), .int .u64 ((lo f : Nat) : Int), .string (hs f)] 38)
 have hA := hL0.fc
 simp only [zF, Nat.reduceAdd] at hA
 obtain ⟨x4, hput1, hP⟩ := GL.named (hL0.put 1 (w.heap.size + 1) _ rfl [.int .u64 ((zl x : Nat) : Int), .string (zh x), .bool (zs x), .int .u64 ((lo f : Nat) : Int), .string (hs f)] rfl)
 simp only [setAll] at hput1
 simp only [List.set_cons_zero, List.set_cons_succ] at hP
 have hB1 := hP.fc
 simp only [zF, Nat.reduceAdd] at hB1
 replace hL0 := hP
 go_wp2_with fail
 exact bodyPost_ret (v := frV x f) (by simp [results, Tryz.results25, go_sem, hB1]) rfl ⟨rfl, hL0.bl⟩
theorem qof_pos (n d x c : Int) (f : Nat) (HF : RT 67 #[.int .i64 n, .int .i64 d] (.tuple #[frV x f, .int .i64 c])) (h1 : max d 1 = d) (hw : IntKind.i64.wrap d = d) (w : World) :
  Calls Tryz.prog 25 #[.agg #[.int .i64 n, .int .u32 d]] w fun xe w' => xe = .returned (frV x f) ∧ Below w.heap.size w w' := by
 have hL0 : GL w w [] := GL.start w
 replace HF := Lib.hid HF
 obtain ⟨x1, hweq, hL0⟩ := GL.named ((hL0.new rfl [.int .i64 n, .int .u32 d] 25).new (K := w.heap.size + 1) (szA _ _) [.int .u64 0, .string ⟨#[]⟩, .bool false, .int .u64 0, .string ⟨#[]⟩] 38)
 go_enter Tryz.func25, Tryz.ntmps25
 have hN0 := cells_of _ 0 [] rfl (hL0.get _ _ (mK mZ))
 simp only [zF, Nat.reduceAdd] at hN0
 go_wp2_with fail
 clear hN0
 with_reducible refine Calls.mono (HF.out _) ?_
 rintro e x2 ⟨rfl, hb⟩
 replace hL0 := hL0.call hb
 clear hb hweq
 obtain ⟨x3, hweq, hL0⟩ := GL.named (hL0.new rfl [.int .u64 ((zl x : Nat) : Int), .string (zh x), .bool (zs x), .int .u64 ((lo f : Nat) : Int), .string (hs f)] 38)
 have hA := hL0.fc
 simp only [zF, Nat.reduceAdd] at hA
 obtain ⟨x4, hput1, hP⟩ := GL.named (hL0.put 1 (w.heap.size + 1) _ rfl [.int .u64 ((zl x : Nat) : Int), .string (zh x), .bool (zs x), .int .u64 ((lo f : Nat) : Int), .string (hs f)] rfl)
 simp only [setAll] at hput1
 simp only [List.set_cons_zero, List.set_cons_succ] at hP
 have hB1 := hP.fc
 simp only [zF, Nat.reduceAdd] at hB1
 replace hL0 := hP
 go_wp2_with fail
 exact bodyPost_ret (v := frV x f) (by simp [results, Tryz.results25, go_sem, hB1]) rfl ⟨rfl, hL0.bl⟩
theorem qof_any (n d : Int) (a1 : -9223372036854775808 ≤ n) (a2 : n < 9223372036854775808) (b1 : 0 ≤ d) (b2 : d < 4294967296) (w : World) :
  Calls Tryz.prog 25 #[.agg #[.int .i64 n, .int .u32 d]] w fun xe w' => xe = .returned (fracV (qmade n d.toNat)) ∧ Below w.heap.size w w' := by
 by_cases h : d = 0
 ·subst h
  have e : (n : Rat) / ((1 : Int) : Rat) = qmade n 0 := by rw [← of_val_q n 1 (by decide)]; rfl
  have hF := fun w => ofF n 1 a1 a2 (by decide) (by decide) (by decide) w
  rw [e] at hF
  exact qof_zero n _ _ _ hF (by decide) w
 ·have e : (n : Rat) / (d : Rat) = qmade n d.toNat := by
   rw [← of_val_q n d h]
   unfold qmade
   rw [if_neg (by omega), if_neg (by omega), show d.natAbs = d.toNat by omega]
  have hF := fun w => ofF n d a1 a2 (by omega) (by omega) h w
  rw [e] at hF
  exact qof_pos n d _ _ _ hF (by omega) (IntWalk.i64_in _ (by omega)) w
end Go.Proofs.YtkdbhacimoaohaaGreatDoor
namespace Go.Proofs.YtkdbhacimoaohaaGreatDoor
open Go.RowKit
attribute [local irreducible] lo hs sm s64 c64 d64 b64 mh ml pd pc qd qc val hiB str cmpI srD lz nb zl zh zs fe klT ordZ
abbrev RI := Int × Int × Int × Int
def rtC (t : RI) : List Value := [.int .i64 t.1, .int .i64 t.2.1, .int .i64 t.2.2.1, .int .u32 t.2.2.2]
/-- The rows l lie at x. -/
def RS (w : World) (x : Addr) (l : List RI) : Prop := ∀ k (h : k < l.length), w.cell? (x.add (k * 4)) = some (.int .i64 l[k].1) ∧ w.cell? ((x.add (k * 4)).add 1) = some (.int .i64 l[k].2.1) ∧ w.cell? ((x.add (k * 4)).add 2) = some (.int .i64 l[k].2.2.1) ∧ w.cell? ((x.add (k * 4)).add 3) = some (.int .u32 l[k].2.2.2)
def RW8 (w : World) (v : Value) (l : List RI) : Prop := ∃ ao n c, v = .slice ao n c ∧ n = l.length ∧ (0 < n → ∃ x : Addr, ao = some x ∧ x.block < w.heap.size ∧ RS w x l)
theorem add_blk8 (a : Addr) (j : Nat) : (a.add j).block = a.block := by
 unfold Addr.add
 split <;> rfl
theorem RS.below {w w' : World} {x : Addr} {l : List RI} (h : RS w x l) (hg : x.block < w.heap.size) (hb : Below w.heap.size w w') : RS w' x l := fun k hk => by
 have e : ∀ a : Addr, a.block = x.block → w'.cell? a = w.cell? a := fun a ha => World.cell?_of_block (a := a) (by rw [ha]; exact hb.block x.block hg)
 rw [e _ (add_blk8 _ _), e _ (by rw [add_blk8, add_blk8]), e _ (by rw [add_blk8, add_blk8]), e _ (by rw [add_blk8, add_blk8])]; exact h k hk
theorem RW8.below {w w' : World} {v : Value} {l : List RI} (h : RW8 w v l) (hb : Below w.heap.size w w') : RW8 w' v l := by
 obtain ⟨ao, n, c, h1, h2, h3⟩ := h
 refine ⟨ao, n, c, h1, h2, fun h0 => ?_⟩
 obtain ⟨g, e, hg, hs⟩ := h3 h0
 exact ⟨g, e, Nat.lt_of_lt_of_le hg hb.size, hs.below hg hb⟩
theorem RW8.nil (w : World) : RW8 w (.slice none 0 0) [] := ⟨_, _, _, rfl, rfl, fun h => absurd h (Nat.lt_irrefl _)⟩
theorem rt_parts {w : World} {ao : Option Addr} {n c : Nat} {l : List RI} (h : RW8 w (.slice ao n c) l) : n = l.length ∧ (0 < n → ∃ x : Addr, ao = some x ∧ x.block < w.heap.size ∧ RS w x l) := by
 obtain ⟨ao2, n2, c2, e, h2, h3⟩ := h
 simp only [Value.slice.injEq] at e
 obtain ⟨rfl, rfl, rfl⟩ := e
 exact ⟨h2, h3⟩
theorem wp_append8 {w : World} {ops : Array Oper} {rest : List Oper} {o : Oper} {a : Act} {Q : Exit → Act → World → Prop} (hgd : o.guard = none) (s x : Operand)
  (ho : o.op = .call { callee := .builtin .append, args := #[s, x], argTypes := #[30, 30] }) (B : Nat) (v : Value) (n : Nat) (L : List TI) (hs : a.eval s = v) (hown : OwnT w B v n L) (g : Nat) (t : TI) (hx : a.eval x = .slice (some ⟨g, 0, none⟩) 1 1) (hH : Hd w g (tmC t))
  (hn : n ≤ 100000) (hbase : B ≤ w.heap.size)
  (h : ∀ v' w', OwnT w' B v' (n + 1) (L ++ [t]) → w.grownBy w' v.ownBlock → (v'.ownBlock = v.ownBlock ∨ v'.ownBlock = some w.heap.size) → wpList Tryz.prog ops Q rest (a.put o.dst v') w') : wpList Tryz.prog ops Q (o :: rest) a w := by
 obtain ⟨i0, hi, hz1, hz2, hz3⟩ := info_parts infoT
 refine wpList_append_own_at w hgd s x 30 ho B 80 i0 (.agg #[.int .i64 0, .int .i64 0, .int .u64 0, .string ⟨#[]⟩, .bool false, .int .u64 0, .string ⟨#[]⟩]) 7 72 Tryz.underlying30 hi hz1 hz2 hz3 rfl (by decide) v n (tmCs L) hs hown ⟨g, 0, none⟩ 1 1 (tmC t) hx rfl (hd_newsH hH) (tmC_one t) (by unfold maxLen; omega) (by omega) hbase ?_
 intro v' w' h1 h2 _ h4
 refine h v' w' ?_ h2 h4
 unfold OwnT
 rw [tmCs_snoc]; exact h1
theorem lraw_w (l : List RI) (q : RI → Rat) (hl : l.length ≤ 1000) (HQ : ∀ t ∈ l, ∀ w : World, Calls Tryz.prog 25 #[.agg #[.int .i64 t.2.2.1, .int .u32 t.2.2.2]] w fun xe w' => xe = .returned (fracV (q t)) ∧ Below w.heap.size w w')
  (ao : Option Addr) (n c : Nat) (w : World) (hv : RW8 w (.slice ao n c) l) :
  Calls Tryz.prog 36 #[.slice ao n c] w fun xe w' => ∃ v', xe = .returned v' ∧ PT w' v' (l.map fun t => (t.1, t.2.1, q t)) ∧ Below w.heap.size w w' := by
 obtain ⟨hnl, hpp⟩ := rt_parts hv
 obtain ⟨R, hR⟩ : ∃ R, R = l.map fun t => (t.1, t.2.1, q t) := ⟨_, rfl⟩
 rw [← hR]
 have hnb : n ≤ 1000 := by omega
 replace hR := Lib.hid hR
 replace HQ := Lib.hid HQ
 replace hpp := Lib.hid hpp
 replace hnl := Lib.hid hnl
 clear hv hl
 go_enter Tryz.func36, Tryz.ntmps36
 go_wp2_with fail
 go_loopg [3, 4] n (fun gk sv iv wr => ∃ (k : Nat) (zi : Int) (vs : Value), k + gk = n ∧ vs = sv ∧ iv = .int .i64 zi ∧ zi = (k : Int) ∧ OwnT wr w.heap.size vs k (R.take k) ∧ Below w.heap.size w wr)
 case atStart => exact ⟨0, 0, _, Nat.zero_add n, rfl, by first | rfl | go_num, rfl, World.ownsRow_nil _ _ _ _, Below.refl _ _⟩
 case round =>
  obtain ⟨k, zi, vs, hik, rfl, rfl, hzi, hown, hB⟩ := hrel
  replace hown := Lib.hid hown
  rcases Nat.lt_or_ge k n with hin | hin
  ·subst hzi
   have hkl : k < l.length := by rw [← hnl.out]; exact hin
   obtain ⟨x0, rfl, hgl, hrs⟩ := hpp.out (by omega)
   have hgw : x0.block < wr.heap.size := Nat.lt_of_lt_of_le hgl hB.size
   replace hrs := hrs.below hgl hB
   replace hgl := hgw
   obtain ⟨gb, gq, gs, hpk⟩ : ∃ a b c, x0.add (k * 4) = ⟨a, b, c⟩ := ⟨_, _, _, rfl⟩
   have k4 : (k : Int) < (n : Int) := by omega
   have k5 : (0 : Int) ≤ (k : Int) := Int.natCast_nonneg _
   have k6 : ¬ (k : Int) < 0 := by omega
   obtain ⟨ti, tj, tn, td, hlk⟩ : ∃ a b c d, l[k] = (a, b, c, d) := ⟨_, _, _, _, rfl⟩
   have HQ1 := HQ.out _ (List.getElem_mem hkl)
   have hRk : R.take (k + 1) = R.take k ++ [(l[k].1, l[k].2.1, q l[k])] := by rw [hR.out, ← List.map_take, ← List.map_take, List.take_succ_eq_append_getElem hkl, List.map_append]; rfl
   rw [hlk] at HQ1 hRk
   simp only at HQ1 hRk
   generalize q (ti, tj, tn, td) = tq at HQ1 hRk
   replace HQ1 := Lib.hid HQ1
   replace hRk := Lib.hid hRk
   replace hkl := Lib.hid hkl
   replace hrs := Lib.hid hrs
   replace hlk := Lib.hid hlk
   replace hgl := Lib.hid hgl
   have hown3 := Lib.hid hown.out
   clear hown hgw
   have hL0 : GL wr wr [] := GL.start wr
   go_upto_region 5 with fail
   have hS : SS wr [] := SS.nil wr
   refine region_tl 19 [EV vs, EV (.slice (some x0) n c), EV (.int .i64 (k : Int)), EV (.pointer (some ⟨gb, gq, gs⟩)), EV (.pointer (some ⟨gb, gq, gs⟩)), EV (.int .i64 ti), EV (.slice (some x0) n c), EV (.int .i64 (k : Int)), EV (.pointer (some ⟨gb, gq, gs⟩)), EV (.pointer (some ⟨gb, gq + 1, none⟩)), EV (.int .i64 tj), EV (.slice (some x0) n c), EV (.int .i64 (k : Int)), EV (.pointer (some ⟨gb, gq, gs⟩)), EV (.pointer (some ⟨gb, gq + 2, none⟩)), EV (.agg #[.int .i64 tn, .int .u32 td]), EV (.agg #[.int .u64 ((zl tq.num : Nat) : Int), .string (zh tq.num), .bool (zs tq.num), .int .u64 ((lo (fe tq) : Nat) : Int), .string (hs (fe tq))]), EV (.agg #[.int .i64 ti, .int .i64 tj, .int .u64 ((zl tq.num : Nat) : Int), .string (zh tq.num), .bool (zs tq.num), .int .u64 ((lo (fe tq) : Nat) : Int), .string (hs (fe tq))]), NewS (wr.heap.size, [.int .i64 ti, .int .i64 tj, .int .u64 ((zl tq.num : Nat) : Int), .string (zh tq.num), .bool (zs tq.num), .int .u64 ((lo (fe tq) : Nat) : Int), .string (hs (fe tq))], 1)] (by kernel_rfl) (by kernel_rfl) ?_ ?_ ?_
   ·repeat' first | exact stays_nil | apply stays_cons | exact stays_eq _ | exact stays_news _
   ·simp only [List.take_succ_cons, List.take_zero, hopsR, and_true]
    refine ⟨?_, ?_, ?_, ?_, ?_, ?_, ?_, ?_, ?_, ?_, ?_, ?_, ?_, ?_, ?_, ?_, ?_, ?_, ?_⟩ <;> intro fv w1 hb1 hp
    all_goals (simp only [putsV, Act.put, zP, Nat.zero_add, Nat.reduceAdd])
    ·refine tyAt_none rfl ?_
     simp [tyUpon, execOp, go_sem, Act.eval, hpk, k4, k5, k6, Below.refl]
    ·refine tyAt_none rfl ?_
     simp [tyUpon, execOp, go_sem, Act.eval, hpk, k4, k5, k6, Below.refl]
    ·refine tyAt_none rfl ?_
     simp [tyUpon, execOp, go_sem, Act.eval, hpk, k4, k5, k6, Below.refl]
    ·have h1 : EV _ (fv 1) w1 := hp 1 (LC (by kernel_rfl))
     have h2 : EV _ (fv 2) w1 := hp 2 (LC (by kernel_rfl))
     refine tyAt_none rfl ?_
     simp [tyUpon, execOp, go_sem, Act.eval, h1, h2, hpk, k4, k5, k6, Below.refl]
    ·have h3 : EV _ (fv 3) w1 := hp 3 (LC (by kernel_rfl))
     refine tyAt_none rfl ?_
     simp [tyUpon, execOp, go_sem, Act.eval, h3, hpk, k4, k5, k6, Below.refl]
    ·have h4 : EV _ (fv 4) w1 := hp 4 (LC (by kernel_rfl))
     refine tyAt_none rfl ?_
     obtain ⟨hx0, hx1, hx2, hx3⟩ := (hrs.out.below hgl.out (below_drew hb1)) k hkl.out
     rw [hpk] at hx0 hx1 hx2 hx3
     rw [hlk.out] at hx0 hx1 hx2 hx3
     replace hx1 : w1.cell? ⟨gb, gq + 1, none⟩ = _ := hx1
     replace hx2 : w1.cell? ⟨gb, gq + 2, none⟩ = _ := hx2
     replace hx3 : w1.cell? ⟨gb, gq + 3, none⟩ = _ := hx3
     simp only at hx0 hx1 hx2 hx3
     simp [tyUpon, execOp, go_sem, Act.eval, h4, hpk, k4, k5, k6, hx0, hx1, hx2, hx3, Below.refl]
    ·refine tyAt_none rfl ?_
     simp [tyUpon, execOp, go_sem, Act.eval, hpk, k4, k5, k6, Below.refl]
    ·refine tyAt_none rfl ?_
     simp [tyUpon, execOp, go_sem, Act.eval, hpk, k4, k5, k6, Below.refl]
    ·have h6 : EV _ (fv 6) w1 := hp 6 (LC (by kernel_rfl))
     have h7 : EV _ (fv 7) w1 := hp 7 (LC (by kernel_rfl))
     refine tyAt_none rfl ?_
     simp [tyUpon, execOp, go_sem, Act.eval, h6, h7, hpk, k4, k5, k6, Below.refl]
    ·have h8 : EV _ (fv 8) w1 := hp 8 (LC (by kernel_rfl))
     refine tyAt_none rfl ?_
     simp [tyUpon, execOp, go_sem, Act.eval, h8, hpk, k4, k5, k6, Below.refl]
    ·have h9 : EV _ (fv 9) w1 := hp 9 (LC (by kernel_rfl))
     refine tyAt_none rfl ?_
     obtain ⟨hx0, hx1, hx2, hx3⟩ := (hrs.out.below hgl.out (below_drew hb1)) k hkl.out
     rw [hpk] at hx0 hx1 hx2 hx3
     rw [hlk.out] at hx0 hx1 hx2 hx3
     replace hx1 : w1.cell? ⟨gb, gq + 1, none⟩ = _ := hx1
     replace hx2 : w1.cell? ⟨gb, gq + 2, none⟩ = _ := hx2
     replace hx3 : w1.cell? ⟨gb, gq + 3, none⟩ = _ := hx3
     simp only at hx0 hx1 hx2 hx3
     simp [tyUpon, execOp, go_sem, Act.eval, h9, hpk, k4, k5, k6, hx0, hx1, hx2, hx3, Below.refl]
    ·refine tyAt_none rfl ?_
     simp [tyUpon, execOp, go_sem, Act.eval, hpk, k4, k5, k6, Below.refl]
    ·refine tyAt_none rfl ?_
     simp [tyUpon, execOp, go_sem, Act.eval, hpk, k4, k5, k6, Below.refl]
    ·have h11 : EV _ (fv 11) w1 := hp 11 (LC (by kernel_rfl))
     have h12 : EV _ (fv 12) w1 := hp 12 (LC (by kernel_rfl))
     refine tyAt_none rfl ?_
     simp [tyUpon, execOp, go_sem, Act.eval, h11, h12, hpk, k4, k5, k6, Below.refl]
    ·have h13 : EV _ (fv 13) w1 := hp 13 (LC (by kernel_rfl))
     refine tyAt_none rfl ?_
     simp [tyUpon, execOp, go_sem, Act.eval, h13, hpk, k4, k5, k6, Below.refl]
    ·have h14 : EV _ (fv 14) w1 := hp 14 (LC (by kernel_rfl))
     refine tyAt_none rfl ?_
     obtain ⟨hx0, hx1, hx2, hx3⟩ := (hrs.out.below hgl.out (below_drew hb1)) k hkl.out
     rw [hpk] at hx0 hx1 hx2 hx3
     rw [hlk.out] at hx0 hx1 hx2 hx3
     replace hx1 : w1.cell? ⟨gb, gq + 1, none⟩ = _ := hx1
     replace hx2 : w1.cell? ⟨gb, gq + 2, none⟩ = _ := hx2
     replace hx3 : w1.cell? ⟨gb, gq + 3, none⟩ = _ := hx3
     simp only at hx0 hx1 hx2 hx3
     simp [tyUpon, execOp, go_sem, Act.eval, h14, hpk, k4, k5, k6, hx0, hx1, hx2, hx3, Below.refl]
    ·have h15 : EV _ (fv 15) w1 := hp 15 (LC (by kernel_rfl))
     refine tyAt_none rfl ?_
     refine ty_call (f := 25) (args := #[.agg #[.int .i64 tn, .int .u32 td]]) (by simp [execOp, go_sem, Act.eval, h15]) ?_
     exact (HQ1.out w1).mono fun e w2 ⟨h1, h2⟩ => ⟨_, h1, rfl, h2⟩
    ·have h5 : EV _ (fv 5) w1 := hp 5 (LC (by kernel_rfl))
     have h10 : EV _ (fv 10) w1 := hp 10 (LC (by kernel_rfl))
     have h16 : EV _ (fv 16) w1 := hp 16 (LC (by kernel_rfl))
     refine tyAt_none rfl ?_
     simp [tyUpon, execOp, go_sem, Act.eval, h5, h10, h16, hpk, k4, k5, k6, Below.refl]
    ·have h17 : EV _ (fv 17) w1 := hp 17 (LC (by kernel_rfl))
     refine tyAt_none rfl ?_
     refine ty_val8 (u := .slice (some ⟨w1.heap.size, 0, none⟩) 1 1) (w' := w1.alloc (.cells #[.int .i64 ti, .int .i64 tj, .int .u64 ((zl tq.num : Nat) : Int), .string (zh tq.num), .bool (zs tq.num), .int .u64 ((lo (fe tq) : Nat) : Int), .string (hs (fe tq))] 80)) (by simp [execOp, go_sem, Act.eval, h17]) ((Below.refl _ _).alloc (Nat.le_refl _) _) (news_mk (below_drew hb1).size)
   ·intro fv x51 hb1 hv
    have e0 : fv 0 = _ := hv 0 (by omega)
    have e1 : fv 1 = _ := hv 1 (by omega)
    have e2 : fv 2 = _ := hv 2 (by omega)
    have e3 : fv 3 = _ := hv 3 (by omega)
    have e4 : fv 4 = _ := hv 4 (by omega)
    have e5 : fv 5 = _ := hv 5 (by omega)
    have e6 : fv 6 = _ := hv 6 (by omega)
    have e7 : fv 7 = _ := hv 7 (by omega)
    have e8 : fv 8 = _ := hv 8 (by omega)
    have e9 : fv 9 = _ := hv 9 (by omega)
    have e10 : fv 10 = _ := hv 10 (by omega)
    have e11 : fv 11 = _ := hv 11 (by omega)
    have e12 : fv 12 = _ := hv 12 (by omega)
    have e13 : fv 13 = _ := hv 13 (by omega)
    have e14 : fv 14 = _ := hv 14 (by omega)
    have e15 : fv 15 = _ := hv 15 (by omega)
    have e16 : fv 16 = _ := hv 16 (by omega)
    have e17 : fv 17 = _ := hv 17 (by omega)
    have q18 : NewS ((wr.heap.size, [.int .i64 ti, .int .i64 tj, .int .u64 ((zl tq.num : Nat) : Int), .string (zh tq.num), .bool (zs tq.num), .int .u64 ((lo (fe tq) : Nat) : Int), .string (hs (fe tq))], 1)) (fv 18) x51 := hv 18 (by omega)
    obtain ⟨g1, e18, ng1, mg1⟩ := news_parts q18
    rw [e18] at q18
    simp only [List.take_succ_cons, List.take_zero, putsV, Act.put, zP, List.drop_succ_cons, List.drop_zero, Nat.zero_add, Nat.reduceAdd, e0, e1, e2, e3, e4, e5, e6, e7, e8, e9, e10, e11, e12, e13, e14, e15, e16, e17, e18]
    replace hL0 := hL0.call (below_drew hb1)
    replace hS := hS.call (below_drew hb1)
    have hown7 := Lib.hid (ownT_below hown3.out (below_drew hb1))
    have hB7 := Lib.hid (hB.trans ((below_drew hb1).mono hB.size))
    clear e0 e1 e2 e3 e4 e5 e6 e7 e8 e9 e10 e11 e12 e13 e14 e15 e16 e17 e18 hb1 hv q18 fv
    have hH := Lib.hid mg1
    go_wp2_with (at_builtin; refine wp_append8 rfl _ _ rfl _ _ _ _ rfl hown7.out _ (ti, tj, tq) rfl hH.out (by omega) hB7.out.size ?_)
    intro v' w8 hown8 hgrow _
    have hB8 := hB7.out.grown hgrow hB7.out.size (fun j hj => (hown7.out.lt j hj).1)
    rw [← hRk.out] at hown8
    replace hown8 := Lib.hid hown8
    clear hgrow hown7 hB7 hH
    go_wp2_with fail
    go_roundg (n - (k + 1))
    case measure => omega
    case rel => exact ⟨k + 1, _, _, by omega, rfl, by first | rfl | go_num, by omega, hown8.out, hB8⟩
  ·obtain rfl : k = n := by omega
   subst hzi
   have hrl : R.length = k := by rw [hR.out, List.length_map]; exact hnl.out.symm
   rw [List.take_of_length_le (Nat.le_of_eq hrl)] at hown
   have hpt := Lib.hid (ownT_pt hown.out hrl.symm)
   clear hown
   go_wp2_with fail
   exact bodyPost_ret (v := vs) (by simp [results, Tryz.results36, go_sem]) rfl ⟨_, rfl, hpt.out, hB⟩
end Go.Proofs.YtkdbhacimoaohaaGreatDoor
namespace Go.Proofs.YtkdbhacimoaohaaGreatDoor
open Go.RowKit
attribute [local irreducible] lo hs sm s64 c64 d64 b64 mh ml pd pc qd qc val hiB str cmpI srD lz nb zl zh zs fe klT ordZ
theorem infoR8 : (Tryz.prog.info? 111).map (fun i => (i.zero, i.size, i.bytes)) = some (some (.agg #[.int .i64 0, .int .i64 0, .int .i64 0, .int .u32 0]), 4, 32) := by kernel_rfl
def rtCs (l : List RI) : List Value := l.flatMap rtC
theorem rtCs_snoc (l : List RI) (t : RI) : rtCs (l ++ [t]) = rtCs l ++ rtC t := by unfold rtCs; rw [List.flatMap_append]; simp
abbrev OwnR (w : World) (B : Nat) (v : Value) (n : Nat) (l : List RI) : Prop := w.ownsRow B 111 4 v n (rtCs l)
theorem rtCs_get : ∀ (l : List RI) (k : Nat) (h : k < l.length) (i : Nat), i < 4 → (rtCs l)[k * 4 + i]? = (rtC l[k])[i]?
 | t :: l, 0, _, i, hi => by
  unfold rtCs
  rw [List.flatMap_cons, List.getElem?_append_left (by simp [rtC]; omega), Nat.zero_mul, Nat.zero_add]
  rfl
 | t :: l, k + 1, h, i, hi => by
  have := rtCs_get l k (by simpa using h) i hi
  unfold rtCs at this ⊢
  rw [List.flatMap_cons, List.getElem?_append_right (by simp [rtC]; omega)]
  rw [show (k + 1) * 4 + i - (rtC t).length = k * 4 + i by simp [rtC]; omega, this]
  rfl
theorem ownR_below {w w' : World} {B n : Nat} {v : Value} {l : List RI} (h : OwnR w B v n l) (hb : Below w.heap.size w w') : OwnR w' B v n l := by
 refine ⟨h.1, ?_⟩
 rcases h.2 with h1 | ⟨g, cap, cur, h1, h2, h3, h4⟩
 ·exact .inl h1
 ·refine .inr ⟨g, cap, cur, h1, h2, ?_, h4⟩
  have hg := (World.ownsRow.lt h g (by rw [h1]; rfl)).2
  rw [hb.block g hg]; exact h3
theorem ownR_rt {w : World} {B n : Nat} {v : Value} {l : List RI} (h : OwnR w B v n l) (hn : n = l.length) : RW8 w v l := by
 rcases h.2 with ⟨h1, h2⟩ | ⟨g, cap, cur, h1, h2, h3, h4, h5, h6, h7⟩
 ·exact ⟨none, 0, 0, h1, by omega, fun h => absurd h (Nat.lt_irrefl _)⟩
 ·refine ⟨_, _, _, h1, hn, fun _ => ⟨⟨g, 0, none⟩, rfl, (World.ownsRow.lt h g (by rw [h1]; rfl)).2, fun k hk => ?_⟩⟩
  have hc : ∀ i, i < 4 → w.cell? ⟨g, k * 4 + i, none⟩ = (rtC l[k])[i]? := fun i hi => by
   rw [cell_of_row _ _ _ _ _ _ h3, ← rtCs_get l k hk i hi, ← h7, List.getElem?_take]
   rw [if_pos (by omega), Array.getElem?_toList]
  rw [add0H]
  exact ⟨hc 0 (by omega), hc 1 (by omega), hc 2 (by omega), hc 3 (by omega)⟩
theorem wp_appendR {w : World} {ops : Array Oper} {rest : List Oper} {o : Oper} {a : Act} {Q : Exit → Act → World → Prop} (hgd : o.guard = none) (s x : Operand)
  (ho : o.op = .call { callee := .builtin .append, args := #[s, x], argTypes := #[22, 22] }) (B : Nat) (v : Value) (n : Nat) (L : List RI) (hs : a.eval s = v) (hown : OwnR w B v n L) (g : Nat) (t : RI) (hx : a.eval x = .slice (some ⟨g, 0, none⟩) 1 1) (hH : Hd w g (rtC t))
  (hn : n ≤ 100000) (hbase : B ≤ w.heap.size)
  (h : ∀ v' w', OwnR w' B v' (n + 1) (L ++ [t]) → w.grownBy w' v.ownBlock → wpList Tryz.prog ops Q rest (a.put o.dst v') w') : wpList Tryz.prog ops Q (o :: rest) a w := by
 obtain ⟨i0, hi, hz1, hz2, hz3⟩ := info_parts infoR8
 refine wpList_append_own w hgd s x 22 ho B 111 i0 (.agg #[.int .i64 0, .int .i64 0, .int .i64 0, .int .u32 0]) 4 32 Tryz.underlying22 hi hz1 hz2 hz3 rfl (by decide) v n (rtCs L) hs hown ⟨g, 0, none⟩ 1 1 (rtC t) hx rfl (hd_newsH hH) (fun u hu => by simp only [rtC, List.mem_cons, List.not_mem_nil, or_false] at hu; rcases hu with rfl | rfl | rfl | rfl <;> rfl) (by unfold maxLen; omega) (by omega) hbase ?_
 intro v' w' h1 h2 _
 refine h v' w' ?_ h2
 unfold OwnR
 rw [rtCs_snoc]; exact h1
/-- The exponents of a term brought to a degree. -/
def upI (D : Nat) (i : Int) : Int := (i % 18446744073709551616) % ((D : Int) + 1)
def brI (D : Nat) (t : RI) : RI := (upI D t.1, (t.2.1 % 18446744073709551616) % ((D : Int) - upI D t.1 + 1), t.2.2)
theorem lbr_w (l : List RI) (D : Nat) (hD : D ≤ 12) (hl : l.length ≤ 1000)
  (ao : Option Addr) (n c : Nat) (w : World) (hv : RW8 w (.slice ao n c) l) :
  Calls Tryz.prog 37 #[.slice ao n c, .int .i64 (D : Int)] w fun xe w' => ∃ v', xe = .returned v' ∧ RW8 w' v' (l.map (brI D)) ∧ Below w.heap.size w w' := by
 obtain ⟨hnl, hpp⟩ := rt_parts hv
 obtain ⟨R, hR⟩ : ∃ R, R = l.map (brI D) := ⟨_, rfl⟩
 rw [← hR]
 have hnb : n ≤ 1000 := by omega
 replace hR := Lib.hid hR
 replace hpp := Lib.hid hpp
 replace hnl := Lib.hid hnl
 have kD : (D : Int) ≤ 12 := by omega
 have kD0 : (0 : Int) ≤ (D : Int) := by omega
 clear hv hl hD
 go_enter Tryz.func37, Tryz.ntmps37
 go_wp2_with fail
 go_loopg [5, 6] n (fun gk sv iv wr => ∃ (k : Nat) (zi : Int) (vs : Value), k + gk = n ∧ vs = sv ∧ iv = .int .i64 zi ∧ zi = (k : Int) ∧ OwnR wr w.heap.size vs k (R.take k) ∧ Below w.heap.size w wr)
 case atStart => exact ⟨0, 0, _, Nat.zero_add n, rfl, by first | rfl | go_num, rfl, World.ownsRow_nil _ _ _ _, Below.refl _ _⟩
 case round =>
  obtain ⟨k, zi, vs, hik, rfl, rfl, hzi, hown, hB⟩ := hrel
  replace hown := Lib.hid hown
  rcases Nat.lt_or_ge k n with hin | hin
  ·subst hzi
   have hkl : k < l.length := by rw [← hnl.out]; exact hin
   obtain ⟨x0, rfl, hgl, hrs⟩ := hpp.out (by omega)
   have hgw : x0.block < wr.heap.size := Nat.lt_of_lt_of_le hgl hB.size
   replace hrs := hrs.below hgl hB
   replace hgl := hgw
   obtain ⟨gb, gq, gs, hpk⟩ : ∃ a b c, x0.add (k * 4) = ⟨a, b, c⟩ := ⟨_, _, _, rfl⟩
   have k4 : (k : Int) < (n : Int) := by omega
   have k5 : (0 : Int) ≤ (k : Int) := Int.natCast_nonneg _
   have k6 : ¬ (k : Int) < 0 := by omega
   obtain ⟨ti, tj, tn, td, hlk⟩ : ∃ a b c d, l[k] = (a, b, c, d) := ⟨_, _, _, _, rfl⟩
   have hRk : R.take (k + 1) = R.take k ++ [brI D l[k]] := by rw [hR.out, ← List.map_take, ← List.map_take, List.take_succ_eq_append_getElem hkl, List.map_append]; rfl
   obtain ⟨hx0, hx1, hx2, hx3⟩ := hrs k hkl
   rw [hpk] at hx0 hx1 hx2 hx3
   rw [hlk] at hx0 hx1 hx2 hx3 hRk
   replace hx1 : wr.cell? ⟨gb, gq + 1, none⟩ = _ := hx1
   replace hx2 : wr.cell? ⟨gb, gq + 2, none⟩ = _ := hx2
   replace hx3 : wr.cell? ⟨gb, gq + 3, none⟩ = _ := hx3
   simp only at hx0 hx1 hx2 hx3
   have a0 : 0 ≤ ti % 18446744073709551616 % ((D : Int) + 1) := Int.emod_nonneg _ (by omega)
   have a1 : ti % 18446744073709551616 % ((D : Int) + 1) < (D : Int) + 1 := Int.emod_lt_of_pos _ (by omega)
   have a2 : wrap64 (ti % 18446744073709551616 % ((D : Int) + 1)) = ti % 18446744073709551616 % ((D : Int) + 1) := by
    generalize ti % 18446744073709551616 % ((D : Int) + 1) = z at a0 a1
    simp [wrap64]; omega
   have a3 : wrap64 ((IntKind.u64.wrap ti).tmod ((D : Int) + 1)) = ti % 18446744073709551616 % ((D : Int) + 1) := by
    have u1 : IntKind.u64.wrap ti = ti % 18446744073709551616 := by simp [IntKind.wrap, IntKind.bits, IntKind.signed]
    rw [u1, Int.tmod_eq_emod_of_nonneg (Int.emod_nonneg _ (by decide)), a2]
   have f12 : IntKind.u64.wrap tj = tj % 18446744073709551616 := by simp [IntKind.wrap, IntKind.bits, IntKind.signed]
   replace a2 := Lib.hid a2
   replace a3 := Lib.hid a3
   replace f12 := Lib.hid f12
   have hown3 := Lib.hid hown.out
   have hL0 : GL wr wr [] := GL.start wr
   replace hkl := Lib.hid hkl
   replace hrs := Lib.hid hrs
   replace hlk := Lib.hid hlk
   replace hgl := Lib.hid hgl
   replace hRk := Lib.hid hRk
   clear hown hgw
   go_upto_region 6 with fail
   first | rw [a3.out] | rw [a2.out] | skip
   replace f12 := f12.out
   have hbr : brI D (ti, tj, tn, td) = (upI D ti, (tj % 18446744073709551616) % ((D : Int) - upI D ti + 1), tn, td) := rfl
   rw [show upI D ti = ti % 18446744073709551616 % ((D : Int) + 1) from rfl] at hbr
   clear a2 a3
   generalize ti % 18446744073709551616 % ((D : Int) + 1) = ai at a0 a1 hbr ⊢
   obtain ⟨d1, hd1⟩ : ∃ d1, d1 = (D : Int) - ai := ⟨_, rfl⟩
   obtain ⟨d2, hd2⟩ : ∃ d2, d2 = d1 + 1 := ⟨_, rfl⟩
   rw [← hd1, ← hd2] at hbr
   have f1 : IntKind.i64.wrap ((D : Int) - ai) = d1 := by rw [hd1]; simp [IntKind.wrap, IntKind.bits, IntKind.signed]; omega
   have f2 : wrap64 ((D : Int) - ai) = d1 := by rw [hd1]; simp [wrap64]; omega
   have f3 : IntKind.i64.wrap (d1 + 1) = d2 := by rw [hd2]; simp [IntKind.wrap, IntKind.bits, IntKind.signed]; omega
   have f4 : wrap64 (d1 + 1) = d2 := by rw [hd2]; simp [wrap64]; omega
   have f5 : IntKind.u64.wrap d2 = d2 := by simp [IntKind.wrap, IntKind.bits, IntKind.signed]; omega
   have f6 : d2 % 18446744073709551616 = d2 := by omega
   have f7 : ¬ d2 = 0 := by omega
   have b0 : 0 ≤ tj % 18446744073709551616 % d2 := Int.emod_nonneg _ f7
   have b1 : tj % 18446744073709551616 % d2 < d2 := Int.emod_lt_of_pos _ (by omega)
   have bm : 0 ≤ tj % 18446744073709551616 := Int.emod_nonneg _ (by decide)
   have f8 : (tj % 18446744073709551616).tmod d2 = tj % 18446744073709551616 % d2 := Int.tmod_eq_emod_of_nonneg bm
   obtain ⟨bi, hbi⟩ : ∃ bi, bi = tj % 18446744073709551616 % d2 := ⟨_, rfl⟩
   rw [← hbi] at b0 b1 f8 hbr
   have f9 : IntKind.i64.wrap bi = bi := by simp [IntKind.wrap, IntKind.bits, IntKind.signed]; omega
   have f10 : wrap64 bi = bi := by simp [wrap64]; omega
   have f11 : tj % 18446744073709551616 % d2 = bi := hbi.symm
   replace hbr := Lib.hid hbr
   replace hd1 := Lib.hid hd1
   replace hd2 := Lib.hid hd2
   replace hbi := Lib.hid hbi
   have hS : SS wr [] := SS.nil wr
   refine region_tl 22 [EV vs, EV (.int .i64 ai), EV (.slice (some x0) n c), EV (.int .i64 (k : Int)), EV (.pointer (some ⟨gb, gq, gs⟩)), EV (.pointer (some ⟨gb, gq + 1, none⟩)), EV (.int .i64 tj), EV (.int .u64 (tj % 18446744073709551616)), EV (.int .i64 (D : Int)), EV (.int .i64 ai), EV (.int .i64 d1), EV (.int .i64 d2), EV (.int .u64 d2), EV (.int .u64 bi), EV (.int .i64 bi), EV (.slice (some x0) n c), EV (.int .i64 (k : Int)), EV (.pointer (some ⟨gb, gq, gs⟩)), EV (.pointer (some ⟨gb, gq + 2, none⟩)), EV (.agg #[.int .i64 tn, .int .u32 td]), EV (.agg #[.int .i64 ai, .int .i64 bi, .int .i64 tn, .int .u32 td]), NewS (wr.heap.size, [.int .i64 ai, .int .i64 bi, .int .i64 tn, .int .u32 td], 1)] (by kernel_rfl) (by kernel_rfl) ?_ ?_ ?_
   ·repeat' first | exact stays_nil | apply stays_cons | exact stays_eq _ | exact stays_news _
   ·simp only [List.take_succ_cons, List.take_zero, hopsR, and_true]
    refine ⟨?_, ?_, ?_, ?_, ?_, ?_, ?_, ?_, ?_, ?_, ?_, ?_, ?_, ?_, ?_, ?_, ?_, ?_, ?_, ?_, ?_, ?_⟩ <;> intro fv w1 hb1 hp
    all_goals (simp only [putsV, Act.put, zP, Nat.zero_add, Nat.reduceAdd])
    ·refine tyAt_none rfl ?_
     simp [tyUpon, execOp, go_sem, Act.eval, hpk, k4, k5, k6, f1, f2, f3, f4, f5, f6, f7, f8, f9, f10, f11, f12, Below.refl]
    ·refine tyAt_none rfl ?_
     simp [tyUpon, execOp, go_sem, Act.eval, hpk, k4, k5, k6, f1, f2, f3, f4, f5, f6, f7, f8, f9, f10, f11, f12, Below.refl]
    ·refine tyAt_none rfl ?_
     simp [tyUpon, execOp, go_sem, Act.eval, hpk, k4, k5, k6, f1, f2, f3, f4, f5, f6, f7, f8, f9, f10, f11, f12, Below.refl]
    ·refine tyAt_none rfl ?_
     simp [tyUpon, execOp, go_sem, Act.eval, hpk, k4, k5, k6, f1, f2, f3, f4, f5, f6, f7, f8, f9, f10, f11, f12, Below.refl]
    ·have h2 : EV _ (fv 2) w1 := hp 2 (LC (by kernel_rfl))
     have h3 : EV _ (fv 3) w1 := hp 3 (LC (by kernel_rfl))
     refine tyAt_none rfl ?_
     simp [tyUpon, execOp, go_sem, Act.eval, h2, h3, hpk, k4, k5, k6, f1, f2, f3, f4, f5, f6, f7, f8, f9, f10, f11, f12, Below.refl]
    ·have h4 : EV _ (fv 4) w1 := hp 4 (LC (by kernel_rfl))
     refine tyAt_none rfl ?_
     simp [tyUpon, execOp, go_sem, Act.eval, h4, hpk, k4, k5, k6, f1, f2, f3, f4, f5, f6, f7, f8, f9, f10, f11, f12, Below.refl]
    ·have h5 : EV _ (fv 5) w1 := hp 5 (LC (by kernel_rfl))
     refine tyAt_none rfl ?_
     obtain ⟨hx0, hx1, hx2, hx3⟩ := (hrs.out.below hgl.out (below_drew hb1)) k hkl.out
     rw [hpk] at hx0 hx1 hx2 hx3
     rw [hlk.out] at hx0 hx1 hx2 hx3
     replace hx1 : w1.cell? ⟨gb, gq + 1, none⟩ = _ := hx1
     replace hx2 : w1.cell? ⟨gb, gq + 2, none⟩ = _ := hx2
     replace hx3 : w1.cell? ⟨gb, gq + 3, none⟩ = _ := hx3
     simp only at hx0 hx1 hx2 hx3
     simp [tyUpon, execOp, go_sem, Act.eval, h5, hpk, k4, k5, k6, f1, f2, f3, f4, f5, f6, f7, f8, f9, f10, f11, f12, hx0, hx1, hx2, hx3, Below.refl]
    ·have h6 : EV _ (fv 6) w1 := hp 6 (LC (by kernel_rfl))
     refine tyAt_none rfl ?_
     simp [tyUpon, execOp, go_sem, Act.eval, h6, hpk, k4, k5, k6, f1, f2, f3, f4, f5, f6, f7, f8, f9, f10, f11, f12, Below.refl]
    ·refine tyAt_none rfl ?_
     simp [tyUpon, execOp, go_sem, Act.eval, hpk, k4, k5, k6, f1, f2, f3, f4, f5, f6, f7, f8, f9, f10, f11, f12, Below.refl]
    ·refine tyAt_none rfl ?_
     simp [tyUpon, execOp, go_sem, Act.eval, hpk, k4, k5, k6, f1, f2, f3, f4, f5, f6, f7, f8, f9, f10, f11, f12, Below.refl]
    ·have h8 : EV _ (fv 8) w1 := hp 8 (LC (by kernel_rfl))
     have h9 : EV _ (fv 9) w1 := hp 9 (LC (by kernel_rfl))
     refine tyAt_none rfl ?_
     simp [tyUpon, execOp, go_sem, Act.eval, h8, h9, hpk, k4, k5, k6, f1, f2, f3, f4, f5, f6, f7, f8, f9, f10, f11, f12, Below.refl]
    ·have h10 : EV _ (fv 10) w1 := hp 10 (LC (by kernel_rfl))
     refine tyAt_none rfl ?_
     simp [tyUpon, execOp, go_sem, Act.eval, h10, hpk, k4, k5, k6, f1, f2, f3, f4, f5, f6, f7, f8, f9, f10, f11, f12, Below.refl]
    ·have h11 : EV _ (fv 11) w1 := hp 11 (LC (by kernel_rfl))
     refine tyAt_none rfl ?_
     simp [tyUpon, execOp, go_sem, Act.eval, h11, hpk, k4, k5, k6, f1, f2, f3, f4, f5, f6, f7, f8, f9, f10, f11, f12, Below.refl]
    ·have h7 : EV _ (fv 7) w1 := hp 7 (LC (by kernel_rfl))
     have h12 : EV _ (fv 12) w1 := hp 12 (LC (by kernel_rfl))
     refine tyAt_none rfl ?_
     simp [tyUpon, execOp, go_sem, Act.eval, h7, h12, hpk, k4, k5, k6, f1, f2, f3, f4, f5, f6, f7, f8, f9, f10, f11, f12, Below.refl]
    ·have h13 : EV _ (fv 13) w1 := hp 13 (LC (by kernel_rfl))
     refine tyAt_none rfl ?_
     simp [tyUpon, execOp, go_sem, Act.eval, h13, hpk, k4, k5, k6, f1, f2, f3, f4, f5, f6, f7, f8, f9, f10, f11, f12, Below.refl]
    ·refine tyAt_none rfl ?_
     simp [tyUpon, execOp, go_sem, Act.eval, hpk, k4, k5, k6, f1, f2, f3, f4, f5, f6, f7, f8, f9, f10, f11, f12, Below.refl]
    ·refine tyAt_none rfl ?_
     simp [tyUpon, execOp, go_sem, Act.eval, hpk, k4, k5, k6, f1, f2, f3, f4, f5, f6, f7, f8, f9, f10, f11, f12, Below.refl]
    ·have h15 : EV _ (fv 15) w1 := hp 15 (LC (by kernel_rfl))
     have h16 : EV _ (fv 16) w1 := hp 16 (LC (by kernel_rfl))
     refine tyAt_none rfl ?_
     simp [tyUpon, execOp, go_sem, Act.eval, h15, h16, hpk, k4, k5, k6, f1, f2, f3, f4, f5, f6, f7, f8, f9, f10, f11, f12, Below.refl]
    ·have h17 : EV _ (fv 17) w1 := hp 17 (LC (by kernel_rfl))
     refine tyAt_none rfl ?_
     simp [tyUpon, execOp, go_sem, Act.eval, h17, hpk, k4, k5, k6, f1, f2, f3, f4, f5, f6, f7, f8, f9, f10, f11, f12, Below.refl]
    ·have h18 : EV _ (fv 18) w1 := hp 18 (LC (by kernel_rfl))
     refine tyAt_none rfl ?_
     obtain ⟨hx0, hx1, hx2, hx3⟩ := (hrs.out.below hgl.out (below_drew hb1)) k hkl.out
     rw [hpk] at hx0 hx1 hx2 hx3
     rw [hlk.out] at hx0 hx1 hx2 hx3
     replace hx1 : w1.cell? ⟨gb, gq + 1, none⟩ = _ := hx1
     replace hx2 : w1.cell? ⟨gb, gq + 2, none⟩ = _ := hx2
     replace hx3 : w1.cell? ⟨gb, gq + 3, none⟩ = _ := hx3
     simp only at hx0 hx1 hx2 hx3
     simp [tyUpon, execOp, go_sem, Act.eval, h18, hpk, k4, k5, k6, f1, f2, f3, f4, f5, f6, f7, f8, f9, f10, f11, f12, hx0, hx1, hx2, hx3, Below.refl]
    ·have h1 : EV _ (fv 1) w1 := hp 1 (LC (by kernel_rfl))
     have h14 : EV _ (fv 14) w1 := hp 14 (LC (by kernel_rfl))
     have h19 : EV _ (fv 19) w1 := hp 19 (LC (by kernel_rfl))
     refine tyAt_none rfl ?_
     simp [tyUpon, execOp, go_sem, Act.eval, h1, h14, h19, hpk, k4, k5, k6, f1, f2, f3, f4, f5, f6, f7, f8, f9, f10, f11, f12, Below.refl]
    ·have h20 : EV _ (fv 20) w1 := hp 20 (LC (by kernel_rfl))
     refine tyAt_none rfl ?_
     refine ty_val8 (u := .slice (some ⟨w1.heap.size, 0, none⟩) 1 1) (w' := w1.alloc (.cells #[.int .i64 ai, .int .i64 bi, .int .i64 tn, .int .u32 td] 111)) (by simp [execOp, go_sem, Act.eval, h20]) ((Below.refl _ _).alloc (Nat.le_refl _) _) (news_mk (below_drew hb1).size)
   ·intro fv x51 hb1 hv
    have e0 : fv 0 = _ := hv 0 (by omega)
    have e1 : fv 1 = _ := hv 1 (by omega)
    have e2 : fv 2 = _ := hv 2 (by omega)
    have e3 : fv 3 = _ := hv 3 (by omega)
    have e4 : fv 4 = _ := hv 4 (by omega)
    have e5 : fv 5 = _ := hv 5 (by omega)
    have e6 : fv 6 = _ := hv 6 (by omega)
    have e7 : fv 7 = _ := hv 7 (by omega)
    have e8 : fv 8 = _ := hv 8 (by omega)
    have e9 : fv 9 = _ := hv 9 (by omega)
    have e10 : fv 10 = _ := hv 10 (by omega)
    have e11 : fv 11 = _ := hv 11 (by omega)
    have e12 : fv 12 = _ := hv 12 (by omega)
    have e13 : fv 13 = _ := hv 13 (by omega)
    have e14 : fv 14 = _ := hv 14 (by omega)
    have e15 : fv 15 = _ := hv 15 (by omega)
    have e16 : fv 16 = _ := hv 16 (by omega)
    have e17 : fv 17 = _ := hv 17 (by omega)
    have e18 : fv 18 = _ := hv 18 (by omega)
    have e19 : fv 19 = _ := hv 19 (by omega)
    have e20 : fv 20 = _ := hv 20 (by omega)
    have q21 : NewS ((wr.heap.size, [.int .i64 ai, .int .i64 bi, .int .i64 tn, .int .u32 td], 1)) (fv 21) x51 := hv 21 (by omega)
    obtain ⟨g1, e21, ng1, mg1⟩ := news_parts q21
    rw [e21] at q21
    simp only [List.take_succ_cons, List.take_zero, putsV, Act.put, zP, List.drop_succ_cons, List.drop_zero, Nat.zero_add, Nat.reduceAdd, e0, e1, e2, e3, e4, e5, e6, e7, e8, e9, e10, e11, e12, e13, e14, e15, e16, e17, e18, e19, e20, e21]
    replace hL0 := hL0.call (below_drew hb1)
    replace hS := hS.call (below_drew hb1)
    have hown7 := Lib.hid (ownR_below hown3.out (below_drew hb1))
    have hB7 := Lib.hid (hB.trans ((below_drew hb1).mono hB.size))
    clear e0 e1 e2 e3 e4 e5 e6 e7 e8 e9 e10 e11 e12 e13 e14 e15 e16 e17 e18 e19 e20 e21 hb1 hv q21 fv
    have hH := Lib.hid mg1
    go_wp2_with (at_builtin; refine wp_appendR rfl _ _ rfl _ _ _ _ rfl hown7.out _ (ai, bi, tn, td) rfl hH.out (by omega) hB7.out.size ?_)
    intro v' w8 hown8 hgrow
    have hB8 := hB7.out.grown hgrow hB7.out.size (fun j hj => (World.ownsRow.lt hown7.out j hj).1)
    rw [← hbr.out, ← hRk.out] at hown8
    replace hown8 := Lib.hid hown8
    clear hgrow hown7 hB7 hH
    go_wp2_with fail
    go_roundg (n - (k + 1))
    case measure => omega
    case rel => exact ⟨k + 1, _, _, by omega, rfl, by first | rfl | go_num, by omega, hown8.out, hB8⟩
  ·obtain rfl : k = n := by omega
   subst hzi
   have hrl : R.length = k := by rw [hR.out, List.length_map]; exact hnl.out.symm
   rw [List.take_of_length_le (Nat.le_of_eq hrl)] at hown
   have hpt := Lib.hid (ownR_rt hown.out hrl.symm)
   clear hown
   go_wp2_with fail
   exact bodyPost_ret (v := vs) (by simp [results, Tryz.results37, go_sem]) rfl ⟨_, rfl, hpt.out, hB⟩
end Go.Proofs.YtkdbhacimoaohaaGreatDoor
namespace Go.Proofs.YtkdbhacimoaohaaGreatDoor
open Go.RowKit
attribute [local irreducible] lo hs sm s64 c64 d64 b64 mh ml pd pc qd qc val hiB str cmpI srD lz nb zl zh zs fe klT ordZ
theorem madeG (l : List RI) (D : Nat) (hD : D ≤ 12) (hl : l.length ≤ 1000) (q : RI → Rat) (HQ : ∀ t ∈ l.map (brI D), ∀ w : World, Calls Tryz.prog 25 #[.agg #[.int .i64 t.2.2.1, .int .u32 t.2.2.2]] w fun xe w' => xe = .returned (fracV (q t)) ∧ Below w.heap.size w w')
  (K : Nat) (hs : VdL ((l.map (brI D)).map fun t => (t.1, t.2.1, q t)) → SzL (toL ((l.map (brI D)).map fun t => (t.1, t.2.1, q t))) K) (hK : K ≤ 1000000) (ao : Option Addr) (n c : Nat) (w : World) (hv : RW8 w (.slice ao n c) l) :
  Calls Tryz.prog 8 #[.slice ao n c, .int .i64 (D : Int)] w fun xe w' => ∃ v', xe = .returned v' ∧ PT w' v' (ofL (nrm ((l.map (brI D)).map fun t => (t.1, t.2.1, q t)))) ∧ Below w.heap.size w w' := by
 have HB := Lib.hid (fun w hv => lbr_w l D hD hl ao n c w hv)
 have HR := Lib.hid (fun ao n c w hv => lraw_w (l.map (brI D)) q (by rw [List.length_map]; exact hl) HQ ao n c w hv)
 have HO := Lib.hid (fun v w hv => ofP ((l.map (brI D)).map fun t => (t.1, t.2.1, q t)) K hs hK (by rw [List.length_map, List.length_map]; omega) w v hv)
 generalize l.map (brI D) = m at *
 generalize m.map (fun t => (t.1, t.2.1, q t)) = R at *
 generalize errL R = e0 at *
 clear HQ hs
 replace hv := Lib.hid hv
 go_enter Tryz.func8, Tryz.ntmps8
 go_wp2_with fail
 with_reducible refine Calls.mono (HB.out w hv.out) ?_
 rintro e y1 ⟨v1, rfl, h1, hb1⟩
 obtain ⟨ao1, n1, c1, rfl, -⟩ := id h1
 replace h1 := Lib.hid h1
 replace hb1 := Lib.hid hb1
 go_wp2_with fail
 with_reducible refine Calls.mono (HR.out _ _ _ y1 h1.out) ?_
 rintro e y2 ⟨v2, rfl, h2, hb2⟩
 obtain ⟨ao2, n2, c2, rfl, -⟩ := pt_form h2
 replace h2 := Lib.hid h2
 replace hb2 := Lib.hid (hb1.out.trans (hb2.mono hb1.out.size))
 clear h1 hb1
 go_wp2_with fail
 with_reducible refine Calls.mono (HO.out _ y2 h2.out) ?_
 rintro e y3 ⟨v3, rfl, h3, hb3⟩
 obtain ⟨ao3, n3, c3, rfl, -⟩ := pt_form h3
 replace h3 := Lib.hid h3
 replace hb3 := Lib.hid (hb2.out.trans (hb3.mono hb2.out.size))
 clear h2 hb2
 go_wp2_with fail
 exact bodyPost_ret (v := .slice ao3 n3 c3) (by simp [results, Tryz.results8, go_sem]) rfl ⟨_, rfl, h3.out, hb3.out⟩
end Go.Proofs.YtkdbhacimoaohaaGreatDoor
namespace Go.Proofs.YtkdbhacimoaohaaGreatDoor
open Go.RowKit
attribute [local irreducible] lo hs sm s64 c64 d64 b64 mh ml pd pc qd qc val hiB str cmpI srD lz nb zl zh zs fe klT ordZ
/-- Terms as Go holds them. -/
def RO (l : List RI) : Prop := ∀ t ∈ l, (-9223372036854775808 ≤ t.2.2.1 ∧ t.2.2.1 < 9223372036854775808) ∧ 0 ≤ t.2.2.2 ∧ t.2.2.2 < 4294967296
def qR (t : RI) : Rat := qmade t.2.2.1 t.2.2.2.toNat
def madeL (l : List RI) (D : Nat) : List TI := (l.map (brI D)).map fun t => (t.1, t.2.1, qR t)
theorem szl_len {k : Nat} : ∀ l : TL, (∀ t ∈ l, Sz t.2.2 k) → SzL l (l.length * (k + 1) + 1)
 | [], _ => SzL.nil _ (by omega)
 | (i, j, q) :: l, h => by
  have h1 := szl_len l (fun t ht => h t (mK ht))
  have h2 := h _ mZ
  refine (SzL.cons h2 h1).mono ?_
  rw [List.length_cons, Nat.succ_mul]; omega
theorem upI_in (D : Nat) (i : Int) : 0 ≤ upI D i ∧ upI D i ≤ D := by
 unfold upI
 have h1 : 0 ≤ i % 18446744073709551616 % ((D : Int) + 1) := Int.emod_nonneg _ (by omega)
 have h2 : i % 18446744073709551616 % ((D : Int) + 1) < (D : Int) + 1 := Int.emod_lt_of_pos _ (by omega)
 omega
theorem brI_in (D : Nat) (t : RI) : 0 ≤ (brI D t).1 ∧ 0 ≤ (brI D t).2.1 ∧ (brI D t).1 + (brI D t).2.1 ≤ (D : Int) := by
 obtain ⟨h1, h2⟩ := upI_in D t.1
 unfold brI
 simp only
 generalize upI D t.1 = u at h1 h2 ⊢
 have h3 : 0 ≤ t.2.1 % 18446744073709551616 % ((D : Int) - u + 1) := Int.emod_nonneg _ (by omega)
 have h4 : t.2.1 % 18446744073709551616 % ((D : Int) - u + 1) < (D : Int) - u + 1 := Int.emod_lt_of_pos _ (by omega)
 omega
theorem made_szl {l : List RI} (hr : RO l) (hl : l.length ≤ 8) (D : Nat) : SzL (toL (madeL l D)) 17 := by
 refine (szl_len (k := 1) (toL (madeL l D)) fun t ht => ?_).mono (by unfold madeL toL; rw [List.length_map, List.length_map, List.length_map]; omega)
 unfold madeL toL at ht
 obtain ⟨u, hu, rfl⟩ := List.mem_map.1 ht
 obtain ⟨v, hv, rfl⟩ := List.mem_map.1 hu
 obtain ⟨x, hx, rfl⟩ := List.mem_map.1 hv
 have h := hr x hx
 exact qmade_sz _ _ h.1.1 h.1.2 (by obtain ⟨_, _, _⟩ := h; show x.2.2.2.toNat < 4294967296; omega)
theorem made_gp {l : List RI} (hr : RO l) (hl : l.length ≤ 8) {D : Nat} (hD : D ≤ 12) : GP (nrm (madeL l D)) D 17 :=
 nrm_gp (fun t ht => by
  unfold madeL at ht
  obtain ⟨v, hv, rfl⟩ := List.mem_map.1 ht
  obtain ⟨x, hx, rfl⟩ := List.mem_map.1 hv
  exact brI_in D x) hD (made_szl hr hl D)
theorem made_any {l : List RI} (hr : RO l) (hl : l.length ≤ 8) {D : Nat} (hD : D ≤ 12) (ao : Option Addr) (n c : Nat) (w : World) (hv : RW8 w (.slice ao n c) l) :
  Calls Tryz.prog 8 #[.slice ao n c, .int .i64 (D : Int)] w fun xe w' => ∃ v', xe = .returned v' ∧ PT w' v' (ofL (nrm (madeL l D))) ∧ Below w.heap.size w w' :=
 madeG l D hD (by omega) qR (fun t ht w => by
  obtain ⟨x, hx, rfl⟩ := List.mem_map.1 ht
  have h := hr x hx
  exact qof_any _ _ h.1.1 h.1.2 h.2.1 h.2.2 w) 17 (fun _ => made_szl hr hl D) (by omega) ao n c w hv
theorem rtKeeps (v : Value) (l : List RI) : Keeps (fun w => RW8 w v l) := fun _ _ hb h => h.below hb
theorem addN_eqv (p q : TL) : Eqv (addN p q) (p ++ q) := nfL_eqv _
theorem mulN_eqv (p q : TL) : Eqv (mulN p q) (prodL p q) := nfL_eqv _
theorem dxN_eqv (p : TL) : Eqv (dxN p) (dxL p) := nfL_eqv _
theorem dyN_eqv (p : TL) : Eqv (dyN p) (dyL p) := nfL_eqv _
theorem mixed (p : TL) : dxN (dyN p) = dyN (dxN p) :=
 nf_uniq (nfL_nf _) (nfL_nf _) ((dxN_eqv _).trans ((dx_eqv (dyN_eqv p)).trans ((dx_dy p).trans (Eqv.symm ((dyN_eqv _).trans (dy_eqv (dxN_eqv p)))))))
end Go.Proofs.YtkdbhacimoaohaaGreatDoor
namespace Go.Proofs.YtkdbhacimoaohaaGreatDoor
open Go.RowKit
attribute [local irreducible] lo hs sm s64 c64 d64 b64 mh ml pd pc qd qc val hiB str cmpI srD lz nb zl zh zs fe klT ordZ Bs
theorem coef_pair : ∀ {p : TL}, NF p → ∀ i j : Nat, coefZ p (i : Int) (j : Int) = pair p (ind (i, j))
 | [], _, _, _ => rfl
 | t :: p, h, i, j => by
  have ih := coef_pair h.tail i j
  unfold coefZ at ih ⊢
  rw [List.find?_cons]
  by_cases hk : key t = (i, j)
  ·have h1 : t.1 = i := congrArg Prod.fst hk
   have h2 : t.2.1 = j := congrArg Prod.snd hk
   have hd : (decide (((t.1 : Nat) : Int) = (i : Int) ∧ ((t.2.1 : Nat) : Int) = (j : Int))) = true := decide_eq_true ⟨by omega, by omega⟩
   rw [hd, ← hk, coef_head h]
  ·have hd : (decide (((t.1 : Nat) : Int) = (i : Int) ∧ ((t.2.1 : Nat) : Int) = (j : Int))) = false := decide_eq_false fun ⟨a, b⟩ => hk (Prod.ext (show t.1 = i by omega) (show t.2.1 = j by omega))
   rw [hd]
   simp only
   rw [ih, pair, show ind (i, j) t.1 t.2.1 = 0 from if_neg hk, Rat.mul_zero, Rat.zero_add]
theorem horn_eqv {u u' : TL} (hu : Eqv u u') {co co' : Nat → TL} (D : Nat) (hc : ∀ i, i ≤ D → Eqv (co i) (co' i)) : ∀ k, k ≤ D + 1 → Eqv (hornN (D + 1) u co k) (hornL D u' co' k)
 | 0, _ => Eqv.refl _
 | k + 1, hk => by
  have e : D + 1 - 1 - k = D - k := by omega
  refine (addN_eqv _ _).trans (add_eqv ((mulN_eqv _ _).trans (prod_eqv (horn_eqv hu D hc k (by omega)) hu)) ?_)
  rw [e]
  exact hc _ (by omega)
theorem con_eqv (c : Rat) : Eqv (conN c) [(0, 0, c)] := nfL_eqv _
theorem shift_eqv {p u v u' v' : TL} (hp : NF p) (hu : Eqv u u') (hv : Eqv v v') : Eqv (shiftN p u v) (subL p u' v') := by
 rcases Nat.eq_zero_or_pos (topD p) with h0 | h0
 ·have hn : p = [] := by
   rcases p with _ | ⟨t, p⟩
   ·rfl
   ·have := topD_eq (t :: p)
    have h1 := degI_last (p := t :: p) (by simp)
    omega
  subst hn
  unfold shiftN
  rw [h0]
  exact Eqv.refl _
 ·obtain ⟨D, hD⟩ : ∃ D, topD p = D + 1 := ⟨topD p - 1, by omega⟩
  have ht : TB p D := fun t ht => by
   have h1 := degI_top hp t ht
   have h2 := topD_eq p
   omega
  unfold shiftN
  rw [hD]
  refine (horn_eqv hu D (co' := fun i => hornL (D - i) v' (fun j => [(0, 0, pair p (ind (i, j)))]) (D - i + 1)) (fun i hi => ?_) (D + 1) (Nat.le_refl _)).trans (horn_sub p u' v' D ht)
  have e : D + 1 - i = D - i + 1 := by omega
  show Eqv (hornN (D + 1 - i) v (fun j => conN (coefZ p (i : Int) (j : Int))) (D + 1 - i)) _
  rw [e]
  exact horn_eqv hv (D - i) (fun j _ => by show Eqv (conN (coefZ p (i : Int) (j : Int))) _; rw [coef_pair hp]; exact con_eqv _) (D - i + 1) (Nat.le_refl _)
theorem hornN_nf (D : Nat) (u : TL) (co : Nat → TL) : ∀ k, NF (hornN D u co k)
 | 0 => NF.nil
 | k + 1 => nfL_nf _
theorem shiftN_nf (p u v : TL) : NF (shiftN p u v) := hornN_nf _ _ _ _
theorem lin_eqv (a b c : Rat) : Eqv (linN a b c) (linL a b c) := nfL_eqv _
abbrev shf (p : TL) (a b c d e f : Rat) : TL := shiftN p (linN a b c) (linN d e f)
theorem shf_eqv {p : TL} (hp : NF p) (a b c d e f : Rat) : Eqv (shf p a b c d e f) (subL p (linL a b c) (linL d e f)) := shift_eqv hp (lin_eqv a b c) (lin_eqv d e f)
theorem shf_tb {p : TL} (hp : NF p) {D : Nat} (ht : TB p D) (a b c d e f : Rat) : TB (shf p a b c d e f) D := by
 have h1 : shf p a b c d e f = nfL (subL p (linL a b c) (linL d e f)) := nf_uniq (shiftN_nf _ _ _) (nfL_nf _) ((shf_eqv hp a b c d e f).trans (nfL_eqv _).symm)
 rw [h1]
 exact tb_nfL (tb_sub ht (tb_lin a b c) (tb_lin d e f))
theorem GP.shf {p : TL} {d K k : Nat} (h : GP p d K) (h0 : 0 < K) (hd : d ≤ 12) {a b c a2 b2 c2 : Rat} (s1 : Sz a k) (s2 : Sz b k) (s3 : Sz c k) (s4 : Sz a2 k) (s5 : Sz b2 k) (s6 : Sz c2 k) (D : Nat) (hD : d + 1 ≤ D) :
  GP (shf p a b c a2 b2 c2) d (D * (3 * k + 2 + (D * (3 * k + 2 + K + 1) + 1) + 1) + 1) :=
 ⟨shiftN_nf _ _ _, shf_tb h.nf h.tb _ _ _ _ _ _, (GP.shift h h0 (GP.lin s1 s2 s3) (GP.lin s4 s5 s6) hd D hD).sz⟩
end Go.Proofs.YtkdbhacimoaohaaGreatDoor
namespace Go.Proofs.YtkdbhacimoaohaaGreatDoor
def segF (i _j : Nat) : Rat := 1 / (((i + 1 : Nat) : Nat) : Rat)
theorem natR_ne (n : Nat) : ((((n + 1 : Nat)) : Nat) : Rat) ≠ 0 := fun e => by
 have := Rat.natCast_pos.2 (Nat.succ_pos n); rw [e] at this; exact absurd this (by decide)
theorem dx_segF (i j : Nat) : dxF segF i j = if i = 0 then 0 else 1 := by
 unfold dxF segF
 cases i with
 | zero => rw [if_pos rfl]; exact Rat.zero_mul _
 | succ n =>
  rw [if_neg (by omega)]
  show (((n + 1 : Nat)) : Rat) * (1 / (((n + 1 : Nat)) : Rat)) = 1
  rw [Rat.mul_comm]; exact Rat.div_mul_cancel (natR_ne n)
theorem one_powQ (n : Nat) : (1 : Rat) ^ n = 1 := by
 induction n with
 | zero => exact Rat.pow_zero _
 | succ n ih => rw [Rat.pow_succ, ih, Rat.mul_one]
theorem zero_powQ {n : Nat} (h : n ≠ 0) : (0 : Rat) ^ n = 0 := by
 cases n with
 | zero => exact absurd rfl h
 | succ n => rw [Rat.pow_succ, Rat.mul_zero]
/-- The fundamental theorem: the integral of q's derivative. -/
theorem seg_ftc (q : TL) : pair (dxL q) segF = atL q 1 1 - atL q 0 1 := by
 rw [pair_dx]
 have h : pair q (fun i j => 1 ^ i * 1 ^ j + (-1) * (0 ^ i * 1 ^ j)) = atL q 1 1 - atL q 0 1 := by
  rw [pair_add, pair_mul]; show atL q 1 1 + -1 * atL q 0 1 = _; grind
 rw [← h]
 refine pair_congr q fun t _ => ?_
 rw [dx_segF, one_powQ, one_powQ]
 split
 ·next e => rw [e, Rat.pow_zero]; grind
 ·next e => rw [zero_powQ e]; grind
/-- An antiderivative by x. -/
def intL (p : TL) : TL := p.map fun t => (t.1 + 1, t.2.1, t.2.2 / (((t.1 + 1 : Nat)) : Rat))
theorem dx_int (p : TL) : Eqv (dxL (intL p)) p := fun F => by
 rw [pair_dx]
 exact pair_map p _ _ _ fun t => by
  show t.2.2 / (((t.1 + 1 : Nat)) : Rat) * ((((t.1 + 1 : Nat)) : Rat) * F (t.1 + 1 - 1) t.2.1) = t.2.2 * F t.1 t.2.1
  rw [← Rat.mul_assoc, Rat.div_mul_cancel (natR_ne t.1)]; rfl
abbrev yL : TL := linL 0 1 0
theorem dx_sub_y (q : TL) (u b : Rat) : Eqv (dxL (subL q (linL u 0 b) yL)) (scaleL u (subL (dxL q) (linL u 0 b) yL)) := (chain_x q u 0 b 0 1 0).trans fun F => by
 rw [pair_append, pair_scale, pair_scale, Rat.zero_mul, Rat.add_zero]
theorem seg_sub (q : TL) (u b : Rat) : u * pair (subL q (linL u 0 b) yL) segF = atL (intL q) (u + b) 1 - atL (intL q) b 1 := by
 have h := seg_ftc (subL (intL q) (linL u 0 b) yL)
 rw [dx_sub_y (intL q) u b segF, pair_scale, sub_eqv (dx_int q) _ _ segF, at_sub, at_sub, at_lin, at_lin, at_lin, at_lin] at h
 rw [h]
 congr 2 <;> grind
theorem seg_int (q : TL) : pair q segF = atL (intL q) 1 1 - atL (intL q) 0 1 := by
 have h := seg_ftc (intL q)
 rwa [dx_int q segF] at h
theorem seg_back (q : TL) : pair (subL q (linL (-1) 0 1) yL) segF = pair q segF := by
 have h := seg_sub q (-1) 1
 have g := seg_int q
 rw [show (-1 : Rat) + 1 = 0 by grind] at h
 grind
structure Pt where
 x : Rat
 y : Rat
def segL' (p : TL) (a b : Pt) : TL := subL p (linL (b.x - a.x) 0 a.x) (linL (b.y - a.y) 0 a.y)
def segV (p : TL) (a b : Pt) : Rat := pair (segL' p a b) segF
theorem lin_lin (a b c d e f g h k : Rat) : Eqv (subL (linL a b c) (linL d e f) (linL g h k)) (linL (a * d + b * g) (a * e + b * h) (a * f + b * k + c)) := fun F => by
 have h10 : pair (mono (linL d e f) (linL g h k) 1 0) F = d * F 1 0 + e * F 0 1 + f * F 0 0 := by
  have := (prod_eqv (one_prod (linL d e f)) (Eqv.refl (powL (linL g h k) 0))).trans (prod_one _) F
  refine Eq.trans this ?_
  simp only [linL, pair]; grind
 have h01 : pair (mono (linL d e f) (linL g h k) 0 1) F = g * F 1 0 + h * F 0 1 + k * F 0 0 := by
  have := (prod_eqv (Eqv.refl (powL (linL d e f) 0)) (one_prod (linL g h k))).trans (one_prod _) F
  refine Eq.trans this ?_
  simp only [linL, pair]; grind
 have h00 : pair (mono (linL d e f) (linL g h k) 0 0) F = F 0 0 := (prod_one oneL F).trans (pair_one F)
 rw [pair_sub]
 show pair [(1, 0, a), (0, 1, b), (0, 0, c)] _ = pair [(1, 0, a * d + b * g), (0, 1, a * e + b * h), (0, 0, a * f + b * k + c)] F
 simp only [pair, h10, h01, h00]
 grind
theorem sub_lin (p : TL) (a b c a' b' c' d e f g h k : Rat) : Eqv (subL (subL p (linL a b c) (linL a' b' c')) (linL d e f) (linL g h k)) (subL p (linL (a * d + b * g) (a * e + b * h) (a * f + b * k + c)) (linL (a' * d + b' * g) (a' * e + b' * h) (a' * f + b' * k + c'))) :=
 (sub_sub p _ _ _ _).trans (sub_eqv2 p (lin_lin a b c d e f g h k) (lin_lin a' b' c' d e f g h k))
theorem sub_same (p : TL) {a b c d e f a' b' c' d' e' f' : Rat} (h1 : a = a') (h2 : b = b') (h3 : c = c') (h4 : d = d') (h5 : e = e') (h6 : f = f') : Eqv (subL p (linL a b c) (linL d e f)) (subL p (linL a' b' c') (linL d' e' f')) := by
 rw [h1, h2, h3, h4, h5, h6]; exact Eqv.refl _
theorem segV_back (p : TL) (a b : Pt) : segV p b a = segV p a b := by
 unfold segV
 rw [← seg_back (segL' p a b)]
 unfold segL'
 rw [sub_lin p _ _ _ _ _ _ _ _ _ _ _ _ segF]
 refine sub_same p ?_ ?_ ?_ ?_ ?_ ?_ segF <;> grind
theorem powL_con (c : Rat) : ∀ n, Eqv (powL [(0, 0, c)] n) [(0, 0, c ^ n)]
 | 0 => fun F => by rw [Rat.pow_zero]; rfl
 | n + 1 => (prod_eqv (powL_con c n) (Eqv.refl _)).trans fun F => by
  rw [Rat.pow_succ]; simp only [prodL, timesL, List.map_cons, List.map_nil, List.append_nil, pair]
def flowV (p q : TL) (a b : Pt) : Rat := (b.y - a.y) * segV p a b - (b.x - a.x) * segV q a b
def fact : Nat → Nat
 | 0 => 1
 | n + 1 => fact n * (n + 1)
theorem fact_ne (n : Nat) : ((fact n : Nat) : Rat) ≠ 0 := by
 have : 0 < fact n := by
  induction n with
  | zero => exact Nat.one_pos
  | succ n ih => exact Nat.mul_pos ih (Nat.succ_pos n)
 intro e
 have h := Rat.natCast_pos.2 this; rw [e] at h; exact absurd h (by decide)
theorem fact_succ (n : Nat) : ((fact (n + 1) : Nat) : Rat) = ((fact n : Nat) : Rat) * (((n + 1 : Nat)) : Rat) := by
 show ((fact n * (n + 1) : Nat) : Rat) = _
 push_cast; rfl
def momF (i j : Nat) : Rat := 2 * ((fact i : Nat) : Rat) * ((fact j : Nat) : Rat) / ((fact (i + j + 2) : Nat) : Rat)
def areaV (a b c : Pt) : Rat := ((b.x - a.x) * (c.y - a.y) - (c.x - a.x) * (b.y - a.y)) / 2
def triL (p : TL) (a b c : Pt) : TL := subL p (linL (b.x - a.x) (c.x - a.x) a.x) (linL (b.y - a.y) (c.y - a.y) a.y)
def triV (p : TL) (a b c : Pt) : Rat := areaV a b c * pair (triL p a b c) momF
def eP : Pt := ⟨1, 0⟩
def fan (f : Pt → Pt → Pt → Rat) (a : Pt) : Pt → List Pt → Rat
 | _, [] => 0
 | b, c :: r => f a b c + fan f a c r
end Go.Proofs.YtkdbhacimoaohaaGreatDoor
